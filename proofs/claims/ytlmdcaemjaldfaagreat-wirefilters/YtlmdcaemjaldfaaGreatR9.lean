import Derived.Test.YtlmdcaemjaldfaaGreatR6
import Derived.Test.YtlmdcaemjaldfaaGreatR2
import Derived.Test.YtlmdcaemjaldfaaGreatR4
import Derived.Test.YtlmdcaemjaldfaaGreatR8
import Derived.Test.YtlmdcaemjaldfaaGreatR1
import Derived.Lib.SmallJoins
import Derived.Deep.Strs
set_option linter.unusedSimpArgs false
set_option linter.unusedVariables false
namespace Go.Proofs.YtlmdcaemjaldfaaGreat
open Go.RowKit
set_option maxRecDepth 100000 in
theorem rn_row1Y {o : Oper} {w : World} (a : Act) (x : Operand) (ho : o.op = .buildSlice 94 1 #[(0, x)]) (c : Int) (hx : a.eval x = .int .u8 c) : (execOp a.eval o).run Tryz.prog w = .ok (.value (.slice (some ⟨w.heap.size, 0, none⟩) 1 1)) (w.alloc (.cells #[.int .u8 c] 5)) := by
  simp only [execOp, ho, List.map_toArray, List.map_cons, List.map_nil, hx]
  go_simp
theorem conv8 {w : World} {g : Nat} {c : Int} {t : TypeId} (h0 : 0 ≤ c) (h1 : c < 256) (h : w.heap[g]? = some (.cells #[.int .u8 c] t (0, 0))) : (convert 94 9 (.slice (some ⟨g, 0, none⟩) 1 1)).run Tryz.prog w = .ok (.string (bs [UInt8.ofNat c.toNat])) w :=
  conv_one w g (UInt8.ofNat c.toNat) (by rw [cell_heap h, ofNat_val (by omega), Int.toNat_of_nonneg h0]; rfl)
section
variable {ops : Array Oper} {Q : Exit → Act → World → Prop} {S : World → Prop} {o : Oper} {a : Act} {i : Nat} {w : World} {K : Act → World → Prop}
theorem ot_row1Y (hi : ops[i]? = some o) (hw : Region.wanted o (yielded ops a.tmps) = true) (x : Operand) (ho : o.op = .buildSlice 94 1 #[(0, x)]) (c : Int) (hx : a.eval x = .int .u8 c)
    (h : ∀ W g, w.heap.size ≤ g → W.heap[g]? = some (.cells #[.int .u8 c] 5 (0, 0)) → Below w.heap.size w W → K (a.put o.dst (.slice (some ⟨g, 0, none⟩) 1 1)) W) : wpOp Tryz.prog ops Q i K a w :=
  ot_run hi hw _ _ (rn_row1Y a x ho c hx) (h _ _ (Nat.le_refl _) (heap_new _ _) ((Below.refl _ w).alloc (Nat.le_refl _) _))
theorem ot_conv1 (hi : ops[i]? = some o) (hw : Region.wanted o (yielded ops a.tmps) = true) (x : Operand) (ho : o.op = .convert 94 9 x) (g : Nat) (hx : a.eval x = .slice (some ⟨g, 0, none⟩) 1 1) (c : Int) (h0 : 0 ≤ c) (h1 : c < 256) {t : TypeId}
    (hc : w.heap[g]? = some (.cells #[.int .u8 c] t (0, 0))) (h : K (a.put o.dst (.string (bs [UInt8.ofNat c.toNat]))) w) : wpOp Tryz.prog ops Q i K a w :=
  ot_run hi hw (.string (bs [UInt8.ofNat c.toNat])) w (by simp only [execOp, ho, hx, Sem.run_bind, conv8 h0 h1 hc, Result.andThen_ok, Sem.run_pure]) h
end
theorem c_refUint (n : Nat) (w : World) (hn : n < 18446744073709551616) : Calls Tryz.prog 62 #[.int .u64 ((n : Nat) : Int)] w fun e w' => e = .returned (.string (bs (enc n))) ∧ Below w.heap.size w w' := refUint_any n w hn
theorem c_refInt (n : Int) (w : World) (h : okI n) : Calls Tryz.prog 72 #[.int .i64 n] w fun e w' => e = .returned (.string (bs (enc (zz n)))) ∧ Below w.heap.size w w' := refInt_any n w h.1 h.2
theorem c_refStr (s : ByteArray) (w : World) (hs : s.size ≤ 8) : Calls Tryz.prog 73 #[.string s] w fun e w' => e = .returned (.string (bs (stB2 s))) ∧ Below w.heap.size w w' :=
  (refStr_any s w (by omega)).mono fun e w' h => ⟨by rw [h.1]; exact congrArg (fun z => Ending.returned (.string z)) (bs_cat (enc s.size) s.data.toList), h.2⟩
theorem set_done8 {S : SetV} {k : Int} (h : k = flagS S) : (([UInt8.ofNat k.toNat] ++ enc S.ints.length ++ (S.ints.take S.ints.length).flatMap rgB2) ++ enc S.strs.length) ++ (S.strs.take S.strs.length).flatMap stB2 = setB S := by
  subst h
  simp [setB, List.take_length]
set_option maxHeartbeats 8000000 in
set_option maxRecDepth 100000 in
theorem refSet8_one (S : SetV) (pI pS : Option Addr) (cI cS : Nat) (w : World) (hok : okSt S) (hI : ∀ W, Below w.heap.size w W → RngsAt W (.slice pI S.ints.length cI) S.ints) (hT : ∀ W, Below w.heap.size w W → StrsAt W (.slice pS S.strs.length cS) S.strs) :
    Calls Tryz.prog 63 #[.agg #[.bool S.absent, .slice pI S.ints.length cI, .bool S.co, .slice pS S.strs.length cS]] w fun e w' => e = .returned (.string (bs (setB S))) ∧ Below w.heap.size w w' := by
  have D : w.grownBy w none := grown_refl _ _
  have h6 := hok.1.1
  have h7 := hok.2.1
  have hen := enc_len_le S.ints.length (by omega)
  have hem := enc_len_le S.strs.length (by omega)
  have hr := rgs_le hok
  have hs := sts_le hok
  go_enter Tryz.func63, Tryz.ntmps63
  refine wp_seq_k (fun K1 hK1 => ?_)
  refine wp_region_lit ?_
  refine wt_boxSt (o := ⟨_, _, _, _, _, _⟩) (by rfl) _ rfl (⟨S.absent, pI, S.ints.length, cI, S.co, pS, S.strs.length, cS⟩) rfl (fun v1 g1 hg G1 kb => ?_)
  simp only [Act.put, lzA, lzB, lzC]
  have ge_g1 : w.heap.size ≤ g1 := Nat.le_trans D.size hg
  clear hg
  replace D := grown_below D kb
  clear kb
  replace G1 : v1.heap[g1]? = some (.cells #[.bool (S.absent), .slice pI S.ints.length cI, .bool (S.co), .slice pS S.strs.length cS] 25 (0, 0)) := G1
  refine wl_yield (o := ⟨_, _, _, _, _, _⟩) (.string (bs ([]))) (yl_assign (by rfl) _ rfl _ rfl) ?_
  simp only [Act.put, lzA, lzB, lzC]
  refine wpList_nil ?_
  refine hK1 _ _ ?_
  clear hK1 K1
  refine wp_seq_k (fun K2 hK2 => ?_)
  refine wp_region_lit ?_
  refine wl_yield (o := ⟨_, _, _, _, _, _⟩) (.int .i64 0) (yl_assign (by rfl) _ rfl _ rfl) ?_
  simp only [Act.put, lzA, lzB, lzC]
  refine wpList_nil ?_
  refine hK2 _ _ ?_
  clear hK2 K2
  refine wp_seq_k (fun K3 hK3 => ?_)
  refine wp_seq_k (fun K4 hK4 => ?_)
  refine wp_region_lit ?_
  refine wl_yield (o := ⟨_, _, _, _, _, _⟩) (.pointer (some ⟨g1, 0, none⟩)) (yt_fSt0 (by rfl) _ rfl g1 0 rfl) ?_
  simp only [Act.put, lzA, lzB, lzC]
  refine wl_yield (o := ⟨_, _, _, _, _, _⟩) (.bool (S.absent)) (yt_ldB (by rfl) _ rfl _ _ rfl S.absent (fun _ h => by subst h; exact cell_heap G1 0)) ?_
  simp only [Act.put, lzA, lzB, lzC]
  refine wpList_nil ?_
  refine hK4 _ _ ?_
  clear hK4 K4
  refine wp_cond_split (t := S.absent) rfl (fun hc => ?_) (fun hc => ?_)
  · have hab : S.absent = true := hc
    clear hc
    refine wp_region_lit ?_
    refine wl_yield (o := ⟨_, _, _, _, _, _⟩) (.int .i64 0) (yl_move (by rfl) _ rfl _ rfl) ?_
    simp only [Act.put, lzA, lzB, lzC]
    refine wl_yield (o := ⟨_, _, _, _, _, _⟩) (.int .i64 1) (yt_addI (by rfl) _ _ _ rfl 0 1 1 rfl rfl (by omega) (by omega) (by omega)) ?_
    simp only [Act.put, lzA, lzB, lzC]
    refine wl_yield (o := ⟨_, _, _, _, _, _⟩) (.int .i64 1) (yl_assign (by rfl) _ rfl _ rfl) ?_
    simp only [Act.put, lzA, lzB, lzC]
    refine wpList_nil ?_
    refine hK3 _ _ ?_
    clear hK3 K3
    refine wp_seq_k (fun K5 hK5 => ?_)
    refine wp_seq_k (fun K6 hK6 => ?_)
    refine wp_region_lit ?_
    refine wl_yield (o := ⟨_, _, _, _, _, _⟩) (.pointer (some ⟨g1, 2, none⟩)) (yt_fSt2 (by rfl) _ rfl g1 0 rfl) ?_
    simp only [Act.put, lzA, lzB, lzC]
    refine wl_yield (o := ⟨_, _, _, _, _, _⟩) (.bool (S.co)) (yt_ldB (by rfl) _ rfl _ _ rfl S.co (fun _ h => by subst h; exact cell_heap G1 2)) ?_
    simp only [Act.put, lzA, lzB, lzC]
    refine wpList_nil ?_
    refine hK6 _ _ ?_
    clear hK6 K6
    refine wp_cond_split (t := S.co) rfl (fun hc => ?_) (fun hc => ?_)
    · have hco : S.co = true := hc
      clear hc
      refine wp_region_lit ?_
      refine wl_yield (o := ⟨_, _, _, _, _, _⟩) (.int .i64 1) (yl_move (by rfl) _ rfl _ rfl) ?_
      simp only [Act.put, lzA, lzB, lzC]
      refine wl_yield (o := ⟨_, _, _, _, _, _⟩) (.int .i64 3) (yt_addI (by rfl) _ _ _ rfl 1 2 3 rfl rfl (by omega) (by omega) (by omega)) ?_
      simp only [Act.put, lzA, lzB, lzC]
      refine wl_yield (o := ⟨_, _, _, _, _, _⟩) (.int .i64 3) (yl_assign (by rfl) _ rfl _ rfl) ?_
      simp only [Act.put, lzA, lzB, lzC]
      refine wpList_nil ?_
      refine hK5 _ _ ?_
      clear hK5 K5
      refine wp_seq_k (fun K7 hK7 => ?_)
      have NEXT : ∀ (W : World) (gY : Nat), W.heap[g1]? = some (.cells #[.bool (S.absent), .slice pI S.ints.length cI, .bool (S.co), .slice pS S.strs.length cS] 25 (0, 0)) → w.grownBy W none → K7 ⟨#[.agg #[.bool (S.absent), .slice pI S.ints.length cI, .bool (S.co), .slice pS S.strs.length cS], .pointer (some ⟨g1, 0, none⟩), .string (bs ([])), .int .i64 3, .string (bs ([UInt8.ofNat (3 : Int).toNat] ++ enc S.ints.length)), undef, undef, .pointer (some ⟨g1, 0, none⟩), .bool (S.absent), .int .i64 0, .int .i64 1, .pointer (some ⟨g1, 2, none⟩), .bool (S.co), .int .i64 1, .int .i64 3, .int .i64 3, .int .u8 3, .slice (some ⟨gY, 0, none⟩) 1 1, .string (bs ([UInt8.ofNat (3 : Int).toNat])), .pointer (some ⟨g1, 1, none⟩), .slice pI S.ints.length cI, .int .i64 (S.ints.length : Nat), .int .u64 ((S.ints.length : Nat) : Int), .string (bs (enc S.ints.length)), .string (bs ([UInt8.ofNat (3 : Int).toNat] ++ enc S.ints.length)), undef, undef, undef, undef, undef, undef, undef, undef, undef, undef, undef, undef, undef, undef, undef, undef, undef, undef, undef, undef, undef, undef, undef, undef, undef, undef, undef, undef, undef, undef, undef, undef, undef, undef, undef, undef, undef, undef, undef, undef, undef, undef, undef, undef, undef, undef, undef], []⟩ W := by
        intro W gY G1 D
        refine hK7 _ _ ?_
        clear hK7 K7
        refine wp_seq_k (fun K8 hK8 => ?_)
        refine wp_seq_k (fun K9 hK9 => ?_)
        refine wp_region_lit ?_
        refine wl_yield (o := ⟨_, _, _, _, _, _⟩) (.int .i64 0) (yl_assign (by rfl) _ rfl _ rfl) ?_
        simp only [Act.put, lzA, lzB, lzC]
        refine wpList_nil ?_
        refine hK9 _ _ ?_
        clear hK9 K9
        refine wp_block ?_
        go_loopw [4, 5] (fun x i wr => ∃ k : Nat, x = .string (bs ([UInt8.ofNat (3 : Int).toNat] ++ enc S.ints.length ++ (S.ints.take k).flatMap rgB2)) ∧ i = .int .i64 k ∧ k ≤ S.ints.length ∧ wr.heap[g1]? = some (.cells #[.bool (S.absent), .slice pI S.ints.length cI, .bool (S.co), .slice pS S.strs.length cS] 25 (0, 0)) ∧ w.grownBy wr none) (fun _ i _ => S.ints.length - (intOf i).toNat)
        case atStart => exact ⟨0, by rw [List.take_zero, List.flatMap_nil, List.append_nil], rfl, Nat.zero_le _, G1, D⟩
        case round =>
          clear D G1
          obtain ⟨k, rfl, rfl, hk, G1, D⟩ := hrel
          by_cases hlt : k < S.ints.length
          · obtain ⟨bI, oI, rfl, c0, c1⟩ := rng_cell (hI _ (below_none D)) k hlt
            refine wp_seq_k (fun K10 hK10 => ?_)
            refine wp_seq_k (fun K11 hK11 => ?_)
            refine wp_region_lit ?_
            refine wl_yield (o := ⟨_, _, _, _, _, _⟩) (.int .i64 (k : Nat)) (yl_move (by rfl) _ rfl _ rfl) ?_
            simp only [Act.put, lzA, lzB, lzC]
            refine wl_yield (o := ⟨_, _, _, _, _, _⟩) (.pointer (some ⟨g1, 1, none⟩)) (yt_fSt1 (by rfl) _ rfl g1 0 rfl) ?_
            simp only [Act.put, lzA, lzB, lzC]
            refine wl_yield (o := ⟨_, _, _, _, _, _⟩) (.slice (some ⟨bI, oI, none⟩) S.ints.length cI) (yt_ldLr (by rfl) _ rfl _ _ rfl (some ⟨bI, oI, none⟩) S.ints.length cI (fun _ h => by subst h; exact cell_heap G1 1)) ?_
            simp only [Act.put, lzA, lzB, lzC]
            refine wl_yield (o := ⟨_, _, _, _, _, _⟩) (.int .i64 (S.ints.length : Nat)) (yt_lenR (by rfl) _ rfl (some ⟨bI, oI, none⟩) S.ints.length cI rfl) ?_
            simp only [Act.put, lzA, lzB, lzC]
            refine wl_yield (o := ⟨_, _, _, _, _, _⟩) (.bool true) (yt_lssI (by rfl) _ _ _ rfl ((k : Nat) : Int) ((S.ints.length : Nat) : Int) true rfl rfl (decide_eq_true (by omega))) ?_
            simp only [Act.put, lzA, lzB, lzC]
            refine wpList_nil ?_
            refine hK11 _ _ ?_
            clear hK11 K11
            refine wp_cond_true rfl ?_
            refine wp_skip ?_
            refine hK10 _ _ ?_
            clear hK10 K10
            refine wp_seq_k (fun K12 hK12 => ?_)
            refine wp_block ?_
            have q0 : ∀ W, w.grownBy W none → W.cell? ⟨bI, oI + k * 2, none⟩ = some (.int .i64 (S.ints.getD k (0, 0)).1) ∧ W.cell? ⟨bI, oI + k * 2 + 1, none⟩ = some (.int .i64 (S.ints.getD k (0, 0)).2) := fun W k2 => by
              obtain ⟨b', o', e', d0, d1⟩ := rng_cell (hI W (below_none k2)) k hlt
              injection e' with e'
              injection e' with e1 e2 e3
              subst e1 e2
              exact ⟨d0, d1⟩
            refine wp_region_late (S := fun w' => w'.heap[g1]? = some (.cells #[.bool (S.absent), .slice (some ⟨bI, oI, none⟩) S.ints.length cI, .bool (S.co), .slice pS S.strs.length cS] 25 (0, 0)) ∧ w'.cell? ⟨bI, oI + k * 2 + 0, none⟩ = some (.int .i64 (S.ints.getD k (0, 0)).1) ∧ w'.cell? ⟨bI, oI + k * 2 + 1, none⟩ = some (.int .i64 (S.ints.getD k (0, 0)).2)) (late := fun j => [].contains j) (by kernel_rfl) ?_
            have kb : Below wr.heap.size wr wr.drew := (Below.refl _ wr).drew
            replace D := grown_below D kb
            replace G1 := heap_on G1 kb
            clear kb
            generalize wr.drew = v2 at D G1 ⊢
            refine wpAnyL_pure (i := 0) (oi := ⟨_, _, _, _, _, _⟩) (v := .string (bs ([UInt8.ofNat (3 : Int).toNat] ++ enc S.ints.length ++ (S.ints.take k).flatMap rgB2))) rfl (by kernel_rfl) (by kernel_rfl) (by kernel_rfl) (fun _ _ _ h => h) (yl_move (by rfl) _ rfl _ rfl) ?_
            simp only [Act.put, lzA, lzB, lzC]
            refine wpAnyL_pure (i := 1) (oi := ⟨_, _, _, _, _, _⟩) (v := .pointer (some ⟨g1, 1, none⟩)) rfl (by kernel_rfl) (by kernel_rfl) (by kernel_rfl) (fun _ _ _ h => h) (yt_fSt1 (by rfl) _ rfl g1 0 rfl) ?_
            simp only [Act.put, lzA, lzB, lzC]
            refine wpAnyL_load (i := 2) (oi := ⟨_, _, _, _, _, _⟩) (v := .slice (some ⟨bI, oI, none⟩) S.ints.length cI) rfl (by kernel_rfl) (by kernel_rfl) (by kernel_rfl) (by kernel_rfl) (fun _ _ _ h => h) (yt_ldLr (by rfl) _ rfl _ _ rfl (some ⟨bI, oI, none⟩) S.ints.length cI (fun _ h => cell_heap h.1 1)) ⟨G1, (q0 _ D).1, (q0 _ D).2⟩ ?_
            simp only [Act.put, lzA, lzB, lzC]
            refine wpAnyL_pure (i := 3) (oi := ⟨_, _, _, _, _, _⟩) (v := .int .i64 (k : Nat)) rfl (by kernel_rfl) (by kernel_rfl) (by kernel_rfl) (fun _ _ _ h => h) (yl_move (by rfl) _ rfl _ rfl) ?_
            simp only [Act.put, lzA, lzB, lzC]
            refine wpAnyL_pure (i := 4) (oi := ⟨_, _, _, _, _, _⟩) (v := .pointer (some ⟨bI, oI + k * 2, none⟩)) rfl (by kernel_rfl) (by kernel_rfl) (by kernel_rfl) (fun _ _ _ h => h) (yt_atR (by rfl) _ _ rfl bI oI _ _ k rfl rfl (hlt)) ?_
            simp only [Act.put, lzA, lzB, lzC]
            refine wpAnyL_pure (i := 5) (oi := ⟨_, _, _, _, _, _⟩) (v := .pointer (some ⟨bI, oI + k * 2 + 0, none⟩)) rfl (by kernel_rfl) (by kernel_rfl) (by kernel_rfl) (fun _ _ _ h => h) (yt_fRg0 (by rfl) _ rfl bI (oI + k * 2) rfl) ?_
            simp only [Act.put, lzA, lzB, lzC]
            refine wpAnyL_load (i := 6) (oi := ⟨_, _, _, _, _, _⟩) (v := .int .i64 ((S.ints.getD k (0, 0)).1)) rfl (by kernel_rfl) (by kernel_rfl) (by kernel_rfl) (by kernel_rfl) (fun _ _ _ h => h) (yt_ldI (by rfl) _ rfl _ _ rfl (S.ints.getD k (0, 0)).1 (fun _ h => h.2.1)) ⟨G1, (q0 _ D).1, (q0 _ D).2⟩ ?_
            simp only [Act.put, lzA, lzB, lzC]
            refine wpAnyL_pure (i := 8) (oi := ⟨_, _, _, _, _, _⟩) (v := .pointer (some ⟨g1, 1, none⟩)) rfl (by kernel_rfl) (by kernel_rfl) (by kernel_rfl) (fun _ _ _ h => h) (yt_fSt1 (by rfl) _ rfl g1 0 rfl) ?_
            simp only [Act.put, lzA, lzB, lzC]
            refine wpAnyL_load (i := 9) (oi := ⟨_, _, _, _, _, _⟩) (v := .slice (some ⟨bI, oI, none⟩) S.ints.length cI) rfl (by kernel_rfl) (by kernel_rfl) (by kernel_rfl) (by kernel_rfl) (fun _ _ _ h => h) (yt_ldLr (by rfl) _ rfl _ _ rfl (some ⟨bI, oI, none⟩) S.ints.length cI (fun _ h => cell_heap h.1 1)) ⟨G1, (q0 _ D).1, (q0 _ D).2⟩ ?_
            simp only [Act.put, lzA, lzB, lzC]
            refine wpAnyL_pure (i := 10) (oi := ⟨_, _, _, _, _, _⟩) (v := .int .i64 (k : Nat)) rfl (by kernel_rfl) (by kernel_rfl) (by kernel_rfl) (fun _ _ _ h => h) (yl_move (by rfl) _ rfl _ rfl) ?_
            simp only [Act.put, lzA, lzB, lzC]
            refine wpAnyL_pure (i := 11) (oi := ⟨_, _, _, _, _, _⟩) (v := .pointer (some ⟨bI, oI + k * 2, none⟩)) rfl (by kernel_rfl) (by kernel_rfl) (by kernel_rfl) (fun _ _ _ h => h) (yt_atR (by rfl) _ _ rfl bI oI _ _ k rfl rfl (hlt)) ?_
            simp only [Act.put, lzA, lzB, lzC]
            refine wpAnyL_pure (i := 12) (oi := ⟨_, _, _, _, _, _⟩) (v := .pointer (some ⟨bI, oI + k * 2 + 1, none⟩)) rfl (by kernel_rfl) (by kernel_rfl) (by kernel_rfl) (fun _ _ _ h => h) (yt_fRg1 (by rfl) _ rfl bI (oI + k * 2) rfl) ?_
            simp only [Act.put, lzA, lzB, lzC]
            refine wpAnyL_load (i := 13) (oi := ⟨_, _, _, _, _, _⟩) (v := .int .i64 ((S.ints.getD k (0, 0)).2)) rfl (by kernel_rfl) (by kernel_rfl) (by kernel_rfl) (by kernel_rfl) (fun _ _ _ h => h) (yt_ldI (by rfl) _ rfl _ _ rfl (S.ints.getD k (0, 0)).2 (fun _ h => h.2.2)) ⟨G1, (q0 _ D).1, (q0 _ D).2⟩ ?_
            simp only [Act.put, lzA, lzB, lzC]
            refine wpAnyL_all (rs := [7]) (by kernel_rfl) (by simp) ?_
            intro j hj
            have hj := List.mem_singleton.1 hj
            subst hj
            refine ot_call (o := ⟨_, _, _, _, _, _⟩) rfl (by rfl) 72 _ _ rfl #[.int .i64 ((S.ints.getD k (0, 0)).1)] rfl (run_call Tryz.func72 (by kernel_rfl) (by kernel_rfl)) ?_
            refine (c_refInt (S.ints.getD k (0, 0)).1 _ (hok.1.2 _ (getD_memA S.ints (0, 0) k hlt)).1).mono ?_
            rintro r v3 (⟨rfl, kb⟩)
            replace D := grown_below D kb
            replace G1 := heap_on G1 kb
            clear kb
            refine Or.inl ⟨.string (bs (enc (zz (S.ints.getD k (0, 0)).1))), rfl, ⟨fun _ _ => ⟨G1, (q0 _ D).1, (q0 _ D).2⟩, ?_⟩⟩
            simp only [Act.put, lzA, lzB, lzC]
            refine wpAnyL_all (rs := [14]) (by kernel_rfl) (by simp) ?_
            intro j hj
            have hj := List.mem_singleton.1 hj
            subst hj
            refine ot_call (o := ⟨_, _, _, _, _, _⟩) rfl (by rfl) 72 _ _ rfl #[.int .i64 ((S.ints.getD k (0, 0)).2)] rfl (run_call Tryz.func72 (by kernel_rfl) (by kernel_rfl)) ?_
            refine (c_refInt (S.ints.getD k (0, 0)).2 _ (hok.1.2 _ (getD_memA S.ints (0, 0) k hlt)).2).mono ?_
            rintro r v4 (⟨rfl, kb⟩)
            replace D := grown_below D kb
            replace G1 := heap_on G1 kb
            clear kb
            refine Or.inl ⟨.string (bs (enc (zz (S.ints.getD k (0, 0)).2))), rfl, ⟨fun _ _ => ⟨G1, (q0 _ D).1, (q0 _ D).2⟩, ?_⟩⟩
            simp only [Act.put, lzA, lzB, lzC]
            refine wpAnyL_pure (i := 15) (oi := ⟨_, _, _, _, _, _⟩) (v := .string (bs ((enc (zz (S.ints.getD k (0, 0)).1)) ++ (enc (zz (S.ints.getD k (0, 0)).2))))) rfl (by kernel_rfl) (by kernel_rfl) (by kernel_rfl) (fun _ _ _ h => h) (yt_cat (by rfl) _ _ _ rfl (enc (zz (S.ints.getD k (0, 0)).1)) (enc (zz (S.ints.getD k (0, 0)).2)) rfl rfl (by (try simp only [List.length_append, List.length_cons, List.length_nil]); first | omega | (have q1 := hr k; first | omega | (have q2 := rgB_le (hok.1.2 _ (getD_memA S.ints (0, 0) k hlt)); unfold rgB2 at q2; rw [List.length_append] at q2; omega)) | (have q1 := hr S.ints.length; first | omega | (have q3 := hs k; first | omega | (have q4 := stB_le (hok.2.2 _ (getD_memA S.strs ⟨#[]⟩ k hlt)); omega)) | (have q3 := hs S.strs.length; omega)))) ?_
            simp only [Act.put, lzA, lzB, lzC]
            refine wpAnyL_pure (i := 16) (oi := ⟨_, _, _, _, _, _⟩) (v := .string (bs (([UInt8.ofNat (3 : Int).toNat] ++ enc S.ints.length ++ (S.ints.take k).flatMap rgB2) ++ ((enc (zz (S.ints.getD k (0, 0)).1)) ++ (enc (zz (S.ints.getD k (0, 0)).2)))))) rfl (by kernel_rfl) (by kernel_rfl) (by kernel_rfl) (fun _ _ _ h => h) (yt_cat (by rfl) _ _ _ rfl ([UInt8.ofNat (3 : Int).toNat] ++ enc S.ints.length ++ (S.ints.take k).flatMap rgB2) ((enc (zz (S.ints.getD k (0, 0)).1)) ++ (enc (zz (S.ints.getD k (0, 0)).2))) rfl rfl (by (try simp only [List.length_append, List.length_cons, List.length_nil]); first | omega | (have q1 := hr k; first | omega | (have q2 := rgB_le (hok.1.2 _ (getD_memA S.ints (0, 0) k hlt)); unfold rgB2 at q2; rw [List.length_append] at q2; omega)) | (have q1 := hr S.ints.length; first | omega | (have q3 := hs k; first | omega | (have q4 := stB_le (hok.2.2 _ (getD_memA S.strs ⟨#[]⟩ k hlt)); omega)) | (have q3 := hs S.strs.length; omega)))) ?_
            simp only [Act.put, lzA, lzB, lzC]
            refine wpAnyL_pure (i := 17) (oi := ⟨_, _, _, _, _, _⟩) (v := .string (bs (([UInt8.ofNat (3 : Int).toNat] ++ enc S.ints.length ++ (S.ints.take k).flatMap rgB2) ++ ((enc (zz (S.ints.getD k (0, 0)).1)) ++ (enc (zz (S.ints.getD k (0, 0)).2)))))) rfl (by kernel_rfl) (by kernel_rfl) (by kernel_rfl) (fun _ _ _ h => h) (yl_assign (by rfl) _ rfl _ rfl) ?_
            simp only [Act.put, lzA, lzB, lzC]
            refine wpAnyL_done (by kernel_rfl) ?_ _
            refine hK12 _ _ ?_
            clear hK12 K12
            refine wp_region_lit ?_
            refine wl_yield (o := ⟨_, _, _, _, _, _⟩) (.int .i64 (k : Nat)) (yl_move (by rfl) _ rfl _ rfl) ?_
            simp only [Act.put, lzA, lzB, lzC]
            refine wl_yield (o := ⟨_, _, _, _, _, _⟩) (.int .i64 (k + 1 : Nat)) (yt_addI (by rfl) _ _ _ rfl ((k : Nat) : Int) 1 ((k + 1 : Nat) : Int) rfl rfl (by omega) (by omega) (by omega)) ?_
            simp only [Act.put, lzA, lzB, lzC]
            refine wl_yield (o := ⟨_, _, _, _, _, _⟩) (.int .i64 (k + 1 : Nat)) (yl_assign (by rfl) _ rfl _ rfl) ?_
            simp only [Act.put, lzA, lzB, lzC]
            refine wpList_nil ?_
            show _ ∧ _
            go_roundw
            case rel => exact ⟨k + 1, by rw [take_step rgB2 (0, 0) S.ints k hlt]; simp only [rgB2, List.append_assoc], rfl, by omega, G1, D⟩
            case measure => simp [intOf]; omega
          · obtain rfl : k = S.ints.length := by omega
            refine wp_seq_k (fun K10 hK10 => ?_)
            refine wp_seq_k (fun K11 hK11 => ?_)
            refine wp_region_lit ?_
            refine wl_yield (o := ⟨_, _, _, _, _, _⟩) (.int .i64 (S.ints.length : Nat)) (yl_move (by rfl) _ rfl _ rfl) ?_
            simp only [Act.put, lzA, lzB, lzC]
            refine wl_yield (o := ⟨_, _, _, _, _, _⟩) (.pointer (some ⟨g1, 1, none⟩)) (yt_fSt1 (by rfl) _ rfl g1 0 rfl) ?_
            simp only [Act.put, lzA, lzB, lzC]
            refine wl_yield (o := ⟨_, _, _, _, _, _⟩) (.slice pI S.ints.length cI) (yt_ldLr (by rfl) _ rfl _ _ rfl pI S.ints.length cI (fun _ h => by subst h; exact cell_heap G1 1)) ?_
            simp only [Act.put, lzA, lzB, lzC]
            refine wl_yield (o := ⟨_, _, _, _, _, _⟩) (.int .i64 (S.ints.length : Nat)) (yt_lenR (by rfl) _ rfl pI S.ints.length cI rfl) ?_
            simp only [Act.put, lzA, lzB, lzC]
            refine wl_yield (o := ⟨_, _, _, _, _, _⟩) (.bool false) (yt_lssI (by rfl) _ _ _ rfl ((S.ints.length : Nat) : Int) ((S.ints.length : Nat) : Int) false rfl rfl (decide_eq_false (by omega))) ?_
            simp only [Act.put, lzA, lzB, lzC]
            refine wpList_nil ?_
            refine hK11 _ _ ?_
            clear hK11 K11
            refine wp_cond_false rfl ?_
            refine wp_exit ?_
            refine hK8 _ _ ?_
            clear hK10 K10 hK8 K8
            refine wp_seq_k (fun K12 hK12 => ?_)
            refine wp_region_lit ?_
            refine wl_yield (o := ⟨_, _, _, _, _, _⟩) (.string (bs ([UInt8.ofNat (3 : Int).toNat] ++ enc S.ints.length ++ (S.ints.take S.ints.length).flatMap rgB2))) (yl_move (by rfl) _ rfl _ rfl) ?_
            simp only [Act.put, lzA, lzB, lzC]
            refine wl_yield (o := ⟨_, _, _, _, _, _⟩) (.pointer (some ⟨g1, 3, none⟩)) (yt_fSt3 (by rfl) _ rfl g1 0 rfl) ?_
            simp only [Act.put, lzA, lzB, lzC]
            refine wl_yield (o := ⟨_, _, _, _, _, _⟩) (.slice pS S.strs.length cS) (yt_ldLs (by rfl) _ rfl _ _ rfl pS S.strs.length cS (fun _ h => by subst h; exact cell_heap G1 3)) ?_
            simp only [Act.put, lzA, lzB, lzC]
            refine wl_yield (o := ⟨_, _, _, _, _, _⟩) (.int .i64 (S.strs.length : Nat)) (yt_lenT (by rfl) _ rfl pS S.strs.length cS rfl) ?_
            simp only [Act.put, lzA, lzB, lzC]
            refine wl_yield (o := ⟨_, _, _, _, _, _⟩) (.int .u64 ((S.strs.length : Nat) : Int)) (yw_iu (by rfl) _ rfl ((S.strs.length : Nat) : Int) rfl (by omega) (by omega)) ?_
            simp only [Act.put, lzA, lzB, lzC]
            refine wt_call (o := ⟨_, _, _, _, _, _⟩) (by rfl) 62 _ _ rfl #[.int .u64 ((S.strs.length : Nat) : Int)] rfl (run_call Tryz.func62 (by kernel_rfl) (by kernel_rfl)) ?_
            refine (c_refUint S.strs.length _ (by omega)).mono ?_
            rintro r v2 ⟨rfl, kb⟩
            replace D := grown_below D kb
            replace G1 := heap_on G1 kb
            clear kb
            refine Or.inl ⟨.string (bs (enc S.strs.length)), rfl, ?_⟩
            simp only [Act.put, lzA, lzB, lzC]
            refine wl_yield (o := ⟨_, _, _, _, _, _⟩) (.string (bs (([UInt8.ofNat (3 : Int).toNat] ++ enc S.ints.length ++ (S.ints.take S.ints.length).flatMap rgB2) ++ (enc S.strs.length)))) (yt_cat (by rfl) _ _ _ rfl ([UInt8.ofNat (3 : Int).toNat] ++ enc S.ints.length ++ (S.ints.take S.ints.length).flatMap rgB2) (enc S.strs.length) rfl rfl (by (try simp only [List.length_append, List.length_cons, List.length_nil]); first | omega | (have q1 := hr k; first | omega | (have q2 := rgB_le (hok.1.2 _ (getD_memA S.ints (0, 0) k hlt)); unfold rgB2 at q2; rw [List.length_append] at q2; omega)) | (have q1 := hr S.ints.length; first | omega | (have q3 := hs k; first | omega | (have q4 := stB_le (hok.2.2 _ (getD_memA S.strs ⟨#[]⟩ k hlt)); omega)) | (have q3 := hs S.strs.length; omega)))) ?_
            simp only [Act.put, lzA, lzB, lzC]
            refine wl_yield (o := ⟨_, _, _, _, _, _⟩) (.string (bs (([UInt8.ofNat (3 : Int).toNat] ++ enc S.ints.length ++ (S.ints.take S.ints.length).flatMap rgB2) ++ (enc S.strs.length)))) (yl_assign (by rfl) _ rfl _ rfl) ?_
            simp only [Act.put, lzA, lzB, lzC]
            refine wpList_nil ?_
            refine hK12 _ _ ?_
            clear hK12 K12
            refine wp_seq_k (fun K13 hK13 => ?_)
            refine wp_seq_k (fun K14 hK14 => ?_)
            refine wp_region_lit ?_
            refine wl_yield (o := ⟨_, _, _, _, _, _⟩) (.int .i64 0) (yl_assign (by rfl) _ rfl _ rfl) ?_
            simp only [Act.put, lzA, lzB, lzC]
            refine wpList_nil ?_
            refine hK14 _ _ ?_
            clear hK14 K14
            refine wp_block ?_
            go_loopw [4, 6] (fun x i wr => ∃ k : Nat, x = .string (bs (([UInt8.ofNat (3 : Int).toNat] ++ enc S.ints.length ++ (S.ints.take S.ints.length).flatMap rgB2) ++ enc S.strs.length ++ (S.strs.take k).flatMap stB2)) ∧ i = .int .i64 k ∧ k ≤ S.strs.length ∧ wr.heap[g1]? = some (.cells #[.bool (S.absent), .slice pI S.ints.length cI, .bool (S.co), .slice pS S.strs.length cS] 25 (0, 0)) ∧ w.grownBy wr none) (fun _ i _ => S.strs.length - (intOf i).toNat)
            case atStart => exact ⟨0, by rw [List.take_zero, List.flatMap_nil, List.append_nil], rfl, Nat.zero_le _, G1, D⟩
            case round =>
              clear D G1
              obtain ⟨k, rfl, rfl, hk, G1, D⟩ := hrel
              by_cases hlt : k < S.strs.length
              · obtain ⟨bS, oS, rfl, c0⟩ := str_cell (hT _ (below_none D)) k hlt
                refine wp_seq_k (fun K15 hK15 => ?_)
                refine wp_seq_k (fun K16 hK16 => ?_)
                refine wp_region_lit ?_
                refine wl_yield (o := ⟨_, _, _, _, _, _⟩) (.int .i64 (k : Nat)) (yl_move (by rfl) _ rfl _ rfl) ?_
                simp only [Act.put, lzA, lzB, lzC]
                refine wl_yield (o := ⟨_, _, _, _, _, _⟩) (.pointer (some ⟨g1, 3, none⟩)) (yt_fSt3 (by rfl) _ rfl g1 0 rfl) ?_
                simp only [Act.put, lzA, lzB, lzC]
                refine wl_yield (o := ⟨_, _, _, _, _, _⟩) (.slice (some ⟨bS, oS, none⟩) S.strs.length cS) (yt_ldLs (by rfl) _ rfl _ _ rfl (some ⟨bS, oS, none⟩) S.strs.length cS (fun _ h => by subst h; exact cell_heap G1 3)) ?_
                simp only [Act.put, lzA, lzB, lzC]
                refine wl_yield (o := ⟨_, _, _, _, _, _⟩) (.int .i64 (S.strs.length : Nat)) (yt_lenT (by rfl) _ rfl (some ⟨bS, oS, none⟩) S.strs.length cS rfl) ?_
                simp only [Act.put, lzA, lzB, lzC]
                refine wl_yield (o := ⟨_, _, _, _, _, _⟩) (.bool true) (yt_lssI (by rfl) _ _ _ rfl ((k : Nat) : Int) ((S.strs.length : Nat) : Int) true rfl rfl (decide_eq_true (by omega))) ?_
                simp only [Act.put, lzA, lzB, lzC]
                refine wpList_nil ?_
                refine hK16 _ _ ?_
                clear hK16 K16
                refine wp_cond_true rfl ?_
                refine wp_skip ?_
                refine hK15 _ _ ?_
                clear hK15 K15
                refine wp_seq_k (fun K17 hK17 => ?_)
                refine wp_block ?_
                refine wp_region_lit ?_
                refine wl_yield (o := ⟨_, _, _, _, _, _⟩) (.string (bs (([UInt8.ofNat (3 : Int).toNat] ++ enc S.ints.length ++ (S.ints.take S.ints.length).flatMap rgB2) ++ enc S.strs.length ++ (S.strs.take k).flatMap stB2))) (yl_move (by rfl) _ rfl _ rfl) ?_
                simp only [Act.put, lzA, lzB, lzC]
                refine wl_yield (o := ⟨_, _, _, _, _, _⟩) (.pointer (some ⟨g1, 3, none⟩)) (yt_fSt3 (by rfl) _ rfl g1 0 rfl) ?_
                simp only [Act.put, lzA, lzB, lzC]
                refine wl_yield (o := ⟨_, _, _, _, _, _⟩) (.slice (some ⟨bS, oS, none⟩) S.strs.length cS) (yt_ldLs (by rfl) _ rfl _ _ rfl (some ⟨bS, oS, none⟩) S.strs.length cS (fun _ h => by subst h; exact cell_heap G1 3)) ?_
                simp only [Act.put, lzA, lzB, lzC]
                refine wl_yield (o := ⟨_, _, _, _, _, _⟩) (.int .i64 (k : Nat)) (yl_move (by rfl) _ rfl _ rfl) ?_
                simp only [Act.put, lzA, lzB, lzC]
                refine wl_yield (o := ⟨_, _, _, _, _, _⟩) (.pointer (some ⟨bS, oS + k * 1, none⟩)) (yt_atT (by rfl) _ _ rfl bS oS _ _ k rfl rfl (hlt)) ?_
                simp only [Act.put, lzA, lzB, lzC]
                refine wl_yield (o := ⟨_, _, _, _, _, _⟩) (.string (S.strs.getD k ⟨#[]⟩)) (yt_ldS (by rfl) _ rfl _ _ rfl (S.strs.getD k ⟨#[]⟩) (fun _ h => by subst h; exact c0)) ?_
                simp only [Act.put, lzA, lzB, lzC]
                refine wt_call (o := ⟨_, _, _, _, _, _⟩) (by rfl) 73 _ _ rfl #[.string (S.strs.getD k ⟨#[]⟩)] rfl (run_call Tryz.func73 (by kernel_rfl) (by kernel_rfl)) ?_
                refine (c_refStr (S.strs.getD k ⟨#[]⟩) _ (hok.2.2 _ (getD_memA S.strs ⟨#[]⟩ k hlt))).mono ?_
                rintro r v3 ⟨rfl, kb⟩
                replace D := grown_below D kb
                replace G1 := heap_on G1 kb
                clear kb
                refine Or.inl ⟨.string (bs (stB2 (S.strs.getD k ⟨#[]⟩))), rfl, ?_⟩
                simp only [Act.put, lzA, lzB, lzC]
                refine wl_yield (o := ⟨_, _, _, _, _, _⟩) (.string (bs ((([UInt8.ofNat (3 : Int).toNat] ++ enc S.ints.length ++ (S.ints.take S.ints.length).flatMap rgB2) ++ enc S.strs.length ++ (S.strs.take k).flatMap stB2) ++ (stB2 (S.strs.getD k ⟨#[]⟩))))) (yt_cat (by rfl) _ _ _ rfl (([UInt8.ofNat (3 : Int).toNat] ++ enc S.ints.length ++ (S.ints.take S.ints.length).flatMap rgB2) ++ enc S.strs.length ++ (S.strs.take k).flatMap stB2) (stB2 (S.strs.getD k ⟨#[]⟩)) rfl rfl (by (try simp only [List.length_append, List.length_cons, List.length_nil]); first | omega | (have q1 := hr k; first | omega | (have q2 := rgB_le (hok.1.2 _ (getD_memA S.ints (0, 0) k hlt)); unfold rgB2 at q2; rw [List.length_append] at q2; omega)) | (have q1 := hr S.ints.length; first | omega | (have q3 := hs k; first | omega | (have q4 := stB_le (hok.2.2 _ (getD_memA S.strs ⟨#[]⟩ k hlt)); omega)) | (have q3 := hs S.strs.length; omega)))) ?_
                simp only [Act.put, lzA, lzB, lzC]
                refine wl_yield (o := ⟨_, _, _, _, _, _⟩) (.string (bs ((([UInt8.ofNat (3 : Int).toNat] ++ enc S.ints.length ++ (S.ints.take S.ints.length).flatMap rgB2) ++ enc S.strs.length ++ (S.strs.take k).flatMap stB2) ++ (stB2 (S.strs.getD k ⟨#[]⟩))))) (yl_assign (by rfl) _ rfl _ rfl) ?_
                simp only [Act.put, lzA, lzB, lzC]
                refine wpList_nil ?_
                refine hK17 _ _ ?_
                clear hK17 K17
                refine wp_region_lit ?_
                refine wl_yield (o := ⟨_, _, _, _, _, _⟩) (.int .i64 (k : Nat)) (yl_move (by rfl) _ rfl _ rfl) ?_
                simp only [Act.put, lzA, lzB, lzC]
                refine wl_yield (o := ⟨_, _, _, _, _, _⟩) (.int .i64 (k + 1 : Nat)) (yt_addI (by rfl) _ _ _ rfl ((k : Nat) : Int) 1 ((k + 1 : Nat) : Int) rfl rfl (by omega) (by omega) (by omega)) ?_
                simp only [Act.put, lzA, lzB, lzC]
                refine wl_yield (o := ⟨_, _, _, _, _, _⟩) (.int .i64 (k + 1 : Nat)) (yl_assign (by rfl) _ rfl _ rfl) ?_
                simp only [Act.put, lzA, lzB, lzC]
                refine wpList_nil ?_
                show _ ∧ _
                go_roundw
                case rel => exact ⟨k + 1, by rw [take_step stB2 ⟨#[]⟩ S.strs k hlt]; simp only [rgB2, List.append_assoc], rfl, by omega, G1, D⟩
                case measure => simp [intOf]; omega
              · obtain rfl : k = S.strs.length := by omega
                refine wp_seq_k (fun K15 hK15 => ?_)
                refine wp_seq_k (fun K16 hK16 => ?_)
                refine wp_region_lit ?_
                refine wl_yield (o := ⟨_, _, _, _, _, _⟩) (.int .i64 (S.strs.length : Nat)) (yl_move (by rfl) _ rfl _ rfl) ?_
                simp only [Act.put, lzA, lzB, lzC]
                refine wl_yield (o := ⟨_, _, _, _, _, _⟩) (.pointer (some ⟨g1, 3, none⟩)) (yt_fSt3 (by rfl) _ rfl g1 0 rfl) ?_
                simp only [Act.put, lzA, lzB, lzC]
                refine wl_yield (o := ⟨_, _, _, _, _, _⟩) (.slice pS S.strs.length cS) (yt_ldLs (by rfl) _ rfl _ _ rfl pS S.strs.length cS (fun _ h => by subst h; exact cell_heap G1 3)) ?_
                simp only [Act.put, lzA, lzB, lzC]
                refine wl_yield (o := ⟨_, _, _, _, _, _⟩) (.int .i64 (S.strs.length : Nat)) (yt_lenT (by rfl) _ rfl pS S.strs.length cS rfl) ?_
                simp only [Act.put, lzA, lzB, lzC]
                refine wl_yield (o := ⟨_, _, _, _, _, _⟩) (.bool false) (yt_lssI (by rfl) _ _ _ rfl ((S.strs.length : Nat) : Int) ((S.strs.length : Nat) : Int) false rfl rfl (decide_eq_false (by omega))) ?_
                simp only [Act.put, lzA, lzB, lzC]
                refine wpList_nil ?_
                refine hK16 _ _ ?_
                clear hK16 K16
                refine wp_cond_false rfl ?_
                refine wp_exit ?_
                refine hK13 _ _ ?_
                clear hK15 K15 hK13 K13
                refine wp_seq_k (fun K17 hK17 => ?_)
                refine wp_region_lit ?_
                refine wl_yield (o := ⟨_, _, _, _, _, _⟩) (.string (bs (([UInt8.ofNat (3 : Int).toNat] ++ enc S.ints.length ++ (S.ints.take S.ints.length).flatMap rgB2) ++ enc S.strs.length ++ (S.strs.take S.strs.length).flatMap stB2))) (yl_move (by rfl) _ rfl _ rfl) ?_
                simp only [Act.put, lzA, lzB, lzC]
                refine wl_yield (o := ⟨_, _, _, _, _, _⟩) (.string (bs (([UInt8.ofNat (3 : Int).toNat] ++ enc S.ints.length ++ (S.ints.take S.ints.length).flatMap rgB2) ++ enc S.strs.length ++ (S.strs.take S.strs.length).flatMap stB2))) (yl_assign (by rfl) _ rfl _ rfl) ?_
                simp only [Act.put, lzA, lzB, lzC]
                refine wpList_nil ?_
                refine hK17 _ _ ?_
                clear hK17 K17
                refine wp_ret ?_
                try simp only [Exit.inBlock, Exit.then]
                have hd := set_done8 (S := S) (k := 3) (by unfold flagS; rw [hab, hco]; try rfl)
                go_ret
                exact ⟨congrArg (fun z => Ending.returned (.string (bs z))) (by rw [← hd]), below_none D⟩
      refine wp_region_late (S := fun w' => w'.heap[g1]? = some (.cells #[.bool (S.absent), .slice pI S.ints.length cI, .bool (S.co), .slice pS S.strs.length cS] 25 (0, 0))) (late := fun j => [].contains j) (by kernel_rfl) ?_
      have kb : Below v1.heap.size v1 v1.drew := (Below.refl _ v1).drew
      replace D := grown_below D kb
      replace G1 := heap_on G1 kb
      clear kb
      generalize v1.drew = v2 at D G1 ⊢
      refine wpAnyL_pure (i := 0) (oi := ⟨_, _, _, _, _, _⟩) (v := .int .i64 3) rfl (by kernel_rfl) (by kernel_rfl) (by kernel_rfl) (fun _ _ _ h => h) (yl_move (by rfl) _ rfl _ rfl) ?_
      simp only [Act.put, lzA, lzB, lzC]
      refine wpAnyL_pure (i := 1) (oi := ⟨_, _, _, _, _, _⟩) (v := .int .u8 3) rfl (by kernel_rfl) (by kernel_rfl) (by kernel_rfl) (fun _ _ _ h => h) (yw_iy (by rfl) _ rfl 3 rfl (by decide) (by decide)) ?_
      simp only [Act.put, lzA, lzB, lzC]
      refine wpAnyL_pure (i := 4) (oi := ⟨_, _, _, _, _, _⟩) (v := .pointer (some ⟨g1, 1, none⟩)) rfl (by kernel_rfl) (by kernel_rfl) (by kernel_rfl) (fun _ _ _ h => h) (yt_fSt1 (by rfl) _ rfl g1 0 rfl) ?_
      simp only [Act.put, lzA, lzB, lzC]
      refine wpAnyL_load (i := 5) (oi := ⟨_, _, _, _, _, _⟩) (v := .slice pI S.ints.length cI) rfl (by kernel_rfl) (by kernel_rfl) (by kernel_rfl) (by kernel_rfl) (fun _ _ _ h => h) (yt_ldLr (by rfl) _ rfl _ _ rfl pI S.ints.length cI (fun _ h => cell_heap h 1)) G1 ?_
      simp only [Act.put, lzA, lzB, lzC]
      refine wpAnyL_pure (i := 6) (oi := ⟨_, _, _, _, _, _⟩) (v := .int .i64 (S.ints.length : Nat)) rfl (by kernel_rfl) (by kernel_rfl) (by kernel_rfl) (fun _ _ _ h => h) (yt_lenR (by rfl) _ rfl pI S.ints.length cI rfl) ?_
      simp only [Act.put, lzA, lzB, lzC]
      refine wpAnyL_pure (i := 7) (oi := ⟨_, _, _, _, _, _⟩) (v := .int .u64 ((S.ints.length : Nat) : Int)) rfl (by kernel_rfl) (by kernel_rfl) (by kernel_rfl) (fun _ _ _ h => h) (yw_iu (by rfl) _ rfl ((S.ints.length : Nat) : Int) rfl (by omega) (by omega)) ?_
      simp only [Act.put, lzA, lzB, lzC]
      refine wpAnyL_all (rs := [2, 8]) (by kernel_rfl) (by simp) ?_
      intro j hj
      simp only [List.mem_cons, List.not_mem_nil, or_false] at hj
      rcases hj with rfl | rfl
      · refine ot_row1Y (o := ⟨_, _, _, _, _, _⟩) rfl (by rfl) _ rfl 3 rfl (fun v3 g3 hg G3 kb => ?_)
        have n_g1_g3 : g1 ≠ g3 := by have := lt_heap G1; omega
        have ge_g3 : w.heap.size ≤ g3 := Nat.le_trans D.size hg
        clear hg
        replace D := grown_below D kb
        replace G1 := heap_on G1 kb
        clear kb
        refine ⟨fun _ _ => G1, ?_⟩
        simp only [Act.put, lzA, lzB, lzC]
        refine wpAnyL_all (rs := [3, 8]) (by kernel_rfl) (by simp) ?_
        intro j hj
        simp only [List.mem_cons, List.not_mem_nil, or_false] at hj
        rcases hj with rfl | rfl
        · refine ot_conv1 (o := ⟨_, _, _, _, _, _⟩) rfl (by rfl) _ rfl g3 rfl 3 (by decide) (by decide) G3 ?_
          refine ⟨fun _ _ => G1, ?_⟩
          simp only [Act.put, lzA, lzB, lzC]
          refine wpAnyL_all (rs := [8]) (by kernel_rfl) (by simp) ?_
          intro j hj
          have hj := List.mem_singleton.1 hj
          subst hj
          refine ot_call (o := ⟨_, _, _, _, _, _⟩) rfl (by rfl) 62 _ _ rfl #[.int .u64 ((S.ints.length : Nat) : Int)] rfl (run_call Tryz.func62 (by kernel_rfl) (by kernel_rfl)) ?_
          refine (c_refUint S.ints.length _ (by omega)).mono ?_
          rintro r v4 (⟨rfl, kb⟩)
          replace D := grown_below D kb
          replace G1 := heap_on G1 kb
          replace G3 := heap_on G3 kb
          clear kb
          refine Or.inl ⟨.string (bs (enc S.ints.length)), rfl, ⟨fun _ _ => G1, ?_⟩⟩
          simp only [Act.put, lzA, lzB, lzC]
          refine wpAnyL_pure (i := 9) (oi := ⟨_, _, _, _, _, _⟩) (v := .string (bs (([UInt8.ofNat (3 : Int).toNat]) ++ (enc S.ints.length)))) rfl (by kernel_rfl) (by kernel_rfl) (by kernel_rfl) (fun _ _ _ h => h) (yt_cat (by rfl) _ _ _ rfl ([UInt8.ofNat (3 : Int).toNat]) (enc S.ints.length) rfl rfl (by (try simp only [List.length_append, List.length_cons, List.length_nil]); first | omega | (have q1 := hr k; first | omega | (have q2 := rgB_le (hok.1.2 _ (getD_memA S.ints (0, 0) k hlt)); unfold rgB2 at q2; rw [List.length_append] at q2; omega)) | (have q1 := hr S.ints.length; first | omega | (have q3 := hs k; first | omega | (have q4 := stB_le (hok.2.2 _ (getD_memA S.strs ⟨#[]⟩ k hlt)); omega)) | (have q3 := hs S.strs.length; omega)))) ?_
          simp only [Act.put, lzA, lzB, lzC]
          refine wpAnyL_pure (i := 10) (oi := ⟨_, _, _, _, _, _⟩) (v := .string (bs (([UInt8.ofNat (3 : Int).toNat]) ++ (enc S.ints.length)))) rfl (by kernel_rfl) (by kernel_rfl) (by kernel_rfl) (fun _ _ _ h => h) (yl_assign (by rfl) _ rfl _ rfl) ?_
          simp only [Act.put, lzA, lzB, lzC]
          refine wpAnyL_done (by kernel_rfl) ?_ _
          exact NEXT _ _ G1 D
        · refine ot_call (o := ⟨_, _, _, _, _, _⟩) rfl (by rfl) 62 _ _ rfl #[.int .u64 ((S.ints.length : Nat) : Int)] rfl (run_call Tryz.func62 (by kernel_rfl) (by kernel_rfl)) ?_
          refine (c_refUint S.ints.length _ (by omega)).mono ?_
          rintro r v4 (⟨rfl, kb⟩)
          replace D := grown_below D kb
          replace G1 := heap_on G1 kb
          replace G3 := heap_on G3 kb
          clear kb
          refine Or.inl ⟨.string (bs (enc S.ints.length)), rfl, ⟨fun _ _ => G1, ?_⟩⟩
          simp only [Act.put, lzA, lzB, lzC]
          refine wpAnyL_all (rs := [3]) (by kernel_rfl) (by simp) ?_
          intro j hj
          have hj := List.mem_singleton.1 hj
          subst hj
          refine ot_conv1 (o := ⟨_, _, _, _, _, _⟩) rfl (by rfl) _ rfl g3 rfl 3 (by decide) (by decide) G3 ?_
          refine ⟨fun _ _ => G1, ?_⟩
          simp only [Act.put, lzA, lzB, lzC]
          refine wpAnyL_pure (i := 9) (oi := ⟨_, _, _, _, _, _⟩) (v := .string (bs (([UInt8.ofNat (3 : Int).toNat]) ++ (enc S.ints.length)))) rfl (by kernel_rfl) (by kernel_rfl) (by kernel_rfl) (fun _ _ _ h => h) (yt_cat (by rfl) _ _ _ rfl ([UInt8.ofNat (3 : Int).toNat]) (enc S.ints.length) rfl rfl (by (try simp only [List.length_append, List.length_cons, List.length_nil]); first | omega | (have q1 := hr k; first | omega | (have q2 := rgB_le (hok.1.2 _ (getD_memA S.ints (0, 0) k hlt)); unfold rgB2 at q2; rw [List.length_append] at q2; omega)) | (have q1 := hr S.ints.length; first | omega | (have q3 := hs k; first | omega | (have q4 := stB_le (hok.2.2 _ (getD_memA S.strs ⟨#[]⟩ k hlt)); omega)) | (have q3 := hs S.strs.length; omega)))) ?_
          simp only [Act.put, lzA, lzB, lzC]
          refine wpAnyL_pure (i := 10) (oi := ⟨_, _, _, _, _, _⟩) (v := .string (bs (([UInt8.ofNat (3 : Int).toNat]) ++ (enc S.ints.length)))) rfl (by kernel_rfl) (by kernel_rfl) (by kernel_rfl) (fun _ _ _ h => h) (yl_assign (by rfl) _ rfl _ rfl) ?_
          simp only [Act.put, lzA, lzB, lzC]
          refine wpAnyL_done (by kernel_rfl) ?_ _
          exact NEXT _ _ G1 D
      · refine ot_call (o := ⟨_, _, _, _, _, _⟩) rfl (by rfl) 62 _ _ rfl #[.int .u64 ((S.ints.length : Nat) : Int)] rfl (run_call Tryz.func62 (by kernel_rfl) (by kernel_rfl)) ?_
        refine (c_refUint S.ints.length _ (by omega)).mono ?_
        rintro r v3 (⟨rfl, kb⟩)
        replace D := grown_below D kb
        replace G1 := heap_on G1 kb
        clear kb
        refine Or.inl ⟨.string (bs (enc S.ints.length)), rfl, ⟨fun _ _ => G1, ?_⟩⟩
        simp only [Act.put, lzA, lzB, lzC]
        refine wpAnyL_all (rs := [2]) (by kernel_rfl) (by simp) ?_
        intro j hj
        have hj := List.mem_singleton.1 hj
        subst hj
        refine ot_row1Y (o := ⟨_, _, _, _, _, _⟩) rfl (by rfl) _ rfl 3 rfl (fun v4 g4 hg G4 kb => ?_)
        have n_g1_g4 : g1 ≠ g4 := by have := lt_heap G1; omega
        have ge_g4 : w.heap.size ≤ g4 := Nat.le_trans D.size hg
        clear hg
        replace D := grown_below D kb
        replace G1 := heap_on G1 kb
        clear kb
        refine ⟨fun _ _ => G1, ?_⟩
        simp only [Act.put, lzA, lzB, lzC]
        refine wpAnyL_all (rs := [3]) (by kernel_rfl) (by simp) ?_
        intro j hj
        have hj := List.mem_singleton.1 hj
        subst hj
        refine ot_conv1 (o := ⟨_, _, _, _, _, _⟩) rfl (by rfl) _ rfl g4 rfl 3 (by decide) (by decide) G4 ?_
        refine ⟨fun _ _ => G1, ?_⟩
        simp only [Act.put, lzA, lzB, lzC]
        refine wpAnyL_pure (i := 9) (oi := ⟨_, _, _, _, _, _⟩) (v := .string (bs (([UInt8.ofNat (3 : Int).toNat]) ++ (enc S.ints.length)))) rfl (by kernel_rfl) (by kernel_rfl) (by kernel_rfl) (fun _ _ _ h => h) (yt_cat (by rfl) _ _ _ rfl ([UInt8.ofNat (3 : Int).toNat]) (enc S.ints.length) rfl rfl (by (try simp only [List.length_append, List.length_cons, List.length_nil]); first | omega | (have q1 := hr k; first | omega | (have q2 := rgB_le (hok.1.2 _ (getD_memA S.ints (0, 0) k hlt)); unfold rgB2 at q2; rw [List.length_append] at q2; omega)) | (have q1 := hr S.ints.length; first | omega | (have q3 := hs k; first | omega | (have q4 := stB_le (hok.2.2 _ (getD_memA S.strs ⟨#[]⟩ k hlt)); omega)) | (have q3 := hs S.strs.length; omega)))) ?_
        simp only [Act.put, lzA, lzB, lzC]
        refine wpAnyL_pure (i := 10) (oi := ⟨_, _, _, _, _, _⟩) (v := .string (bs (([UInt8.ofNat (3 : Int).toNat]) ++ (enc S.ints.length)))) rfl (by kernel_rfl) (by kernel_rfl) (by kernel_rfl) (fun _ _ _ h => h) (yl_assign (by rfl) _ rfl _ rfl) ?_
        simp only [Act.put, lzA, lzB, lzC]
        refine wpAnyL_done (by kernel_rfl) ?_ _
        exact NEXT _ _ G1 D
    · have hco : S.co = false := hc
      clear hc
      refine wp_skip ?_
      refine hK5 _ _ ?_
      clear hK5 K5
      refine wp_seq_k (fun K7 hK7 => ?_)
      have NEXT : ∀ (W : World) (gY : Nat), W.heap[g1]? = some (.cells #[.bool (S.absent), .slice pI S.ints.length cI, .bool (S.co), .slice pS S.strs.length cS] 25 (0, 0)) → w.grownBy W none → K7 ⟨#[.agg #[.bool (S.absent), .slice pI S.ints.length cI, .bool (S.co), .slice pS S.strs.length cS], .pointer (some ⟨g1, 0, none⟩), .string (bs ([])), .int .i64 1, .string (bs ([UInt8.ofNat (1 : Int).toNat] ++ enc S.ints.length)), undef, undef, .pointer (some ⟨g1, 0, none⟩), .bool (S.absent), .int .i64 0, .int .i64 1, .pointer (some ⟨g1, 2, none⟩), .bool (S.co), undef, undef, .int .i64 1, .int .u8 1, .slice (some ⟨gY, 0, none⟩) 1 1, .string (bs ([UInt8.ofNat (1 : Int).toNat])), .pointer (some ⟨g1, 1, none⟩), .slice pI S.ints.length cI, .int .i64 (S.ints.length : Nat), .int .u64 ((S.ints.length : Nat) : Int), .string (bs (enc S.ints.length)), .string (bs ([UInt8.ofNat (1 : Int).toNat] ++ enc S.ints.length)), undef, undef, undef, undef, undef, undef, undef, undef, undef, undef, undef, undef, undef, undef, undef, undef, undef, undef, undef, undef, undef, undef, undef, undef, undef, undef, undef, undef, undef, undef, undef, undef, undef, undef, undef, undef, undef, undef, undef, undef, undef, undef, undef, undef, undef, undef, undef], []⟩ W := by
        intro W gY G1 D
        refine hK7 _ _ ?_
        clear hK7 K7
        refine wp_seq_k (fun K8 hK8 => ?_)
        refine wp_seq_k (fun K9 hK9 => ?_)
        refine wp_region_lit ?_
        refine wl_yield (o := ⟨_, _, _, _, _, _⟩) (.int .i64 0) (yl_assign (by rfl) _ rfl _ rfl) ?_
        simp only [Act.put, lzA, lzB, lzC]
        refine wpList_nil ?_
        refine hK9 _ _ ?_
        clear hK9 K9
        refine wp_block ?_
        go_loopw [4, 5] (fun x i wr => ∃ k : Nat, x = .string (bs ([UInt8.ofNat (1 : Int).toNat] ++ enc S.ints.length ++ (S.ints.take k).flatMap rgB2)) ∧ i = .int .i64 k ∧ k ≤ S.ints.length ∧ wr.heap[g1]? = some (.cells #[.bool (S.absent), .slice pI S.ints.length cI, .bool (S.co), .slice pS S.strs.length cS] 25 (0, 0)) ∧ w.grownBy wr none) (fun _ i _ => S.ints.length - (intOf i).toNat)
        case atStart => exact ⟨0, by rw [List.take_zero, List.flatMap_nil, List.append_nil], rfl, Nat.zero_le _, G1, D⟩
        case round =>
          clear D G1
          obtain ⟨k, rfl, rfl, hk, G1, D⟩ := hrel
          by_cases hlt : k < S.ints.length
          · obtain ⟨bI, oI, rfl, c0, c1⟩ := rng_cell (hI _ (below_none D)) k hlt
            refine wp_seq_k (fun K10 hK10 => ?_)
            refine wp_seq_k (fun K11 hK11 => ?_)
            refine wp_region_lit ?_
            refine wl_yield (o := ⟨_, _, _, _, _, _⟩) (.int .i64 (k : Nat)) (yl_move (by rfl) _ rfl _ rfl) ?_
            simp only [Act.put, lzA, lzB, lzC]
            refine wl_yield (o := ⟨_, _, _, _, _, _⟩) (.pointer (some ⟨g1, 1, none⟩)) (yt_fSt1 (by rfl) _ rfl g1 0 rfl) ?_
            simp only [Act.put, lzA, lzB, lzC]
            refine wl_yield (o := ⟨_, _, _, _, _, _⟩) (.slice (some ⟨bI, oI, none⟩) S.ints.length cI) (yt_ldLr (by rfl) _ rfl _ _ rfl (some ⟨bI, oI, none⟩) S.ints.length cI (fun _ h => by subst h; exact cell_heap G1 1)) ?_
            simp only [Act.put, lzA, lzB, lzC]
            refine wl_yield (o := ⟨_, _, _, _, _, _⟩) (.int .i64 (S.ints.length : Nat)) (yt_lenR (by rfl) _ rfl (some ⟨bI, oI, none⟩) S.ints.length cI rfl) ?_
            simp only [Act.put, lzA, lzB, lzC]
            refine wl_yield (o := ⟨_, _, _, _, _, _⟩) (.bool true) (yt_lssI (by rfl) _ _ _ rfl ((k : Nat) : Int) ((S.ints.length : Nat) : Int) true rfl rfl (decide_eq_true (by omega))) ?_
            simp only [Act.put, lzA, lzB, lzC]
            refine wpList_nil ?_
            refine hK11 _ _ ?_
            clear hK11 K11
            refine wp_cond_true rfl ?_
            refine wp_skip ?_
            refine hK10 _ _ ?_
            clear hK10 K10
            refine wp_seq_k (fun K12 hK12 => ?_)
            refine wp_block ?_
            have q0 : ∀ W, w.grownBy W none → W.cell? ⟨bI, oI + k * 2, none⟩ = some (.int .i64 (S.ints.getD k (0, 0)).1) ∧ W.cell? ⟨bI, oI + k * 2 + 1, none⟩ = some (.int .i64 (S.ints.getD k (0, 0)).2) := fun W k2 => by
              obtain ⟨b', o', e', d0, d1⟩ := rng_cell (hI W (below_none k2)) k hlt
              injection e' with e'
              injection e' with e1 e2 e3
              subst e1 e2
              exact ⟨d0, d1⟩
            refine wp_region_late (S := fun w' => w'.heap[g1]? = some (.cells #[.bool (S.absent), .slice (some ⟨bI, oI, none⟩) S.ints.length cI, .bool (S.co), .slice pS S.strs.length cS] 25 (0, 0)) ∧ w'.cell? ⟨bI, oI + k * 2 + 0, none⟩ = some (.int .i64 (S.ints.getD k (0, 0)).1) ∧ w'.cell? ⟨bI, oI + k * 2 + 1, none⟩ = some (.int .i64 (S.ints.getD k (0, 0)).2)) (late := fun j => [].contains j) (by kernel_rfl) ?_
            have kb : Below wr.heap.size wr wr.drew := (Below.refl _ wr).drew
            replace D := grown_below D kb
            replace G1 := heap_on G1 kb
            clear kb
            generalize wr.drew = v2 at D G1 ⊢
            refine wpAnyL_pure (i := 0) (oi := ⟨_, _, _, _, _, _⟩) (v := .string (bs ([UInt8.ofNat (1 : Int).toNat] ++ enc S.ints.length ++ (S.ints.take k).flatMap rgB2))) rfl (by kernel_rfl) (by kernel_rfl) (by kernel_rfl) (fun _ _ _ h => h) (yl_move (by rfl) _ rfl _ rfl) ?_
            simp only [Act.put, lzA, lzB, lzC]
            refine wpAnyL_pure (i := 1) (oi := ⟨_, _, _, _, _, _⟩) (v := .pointer (some ⟨g1, 1, none⟩)) rfl (by kernel_rfl) (by kernel_rfl) (by kernel_rfl) (fun _ _ _ h => h) (yt_fSt1 (by rfl) _ rfl g1 0 rfl) ?_
            simp only [Act.put, lzA, lzB, lzC]
            refine wpAnyL_load (i := 2) (oi := ⟨_, _, _, _, _, _⟩) (v := .slice (some ⟨bI, oI, none⟩) S.ints.length cI) rfl (by kernel_rfl) (by kernel_rfl) (by kernel_rfl) (by kernel_rfl) (fun _ _ _ h => h) (yt_ldLr (by rfl) _ rfl _ _ rfl (some ⟨bI, oI, none⟩) S.ints.length cI (fun _ h => cell_heap h.1 1)) ⟨G1, (q0 _ D).1, (q0 _ D).2⟩ ?_
            simp only [Act.put, lzA, lzB, lzC]
            refine wpAnyL_pure (i := 3) (oi := ⟨_, _, _, _, _, _⟩) (v := .int .i64 (k : Nat)) rfl (by kernel_rfl) (by kernel_rfl) (by kernel_rfl) (fun _ _ _ h => h) (yl_move (by rfl) _ rfl _ rfl) ?_
            simp only [Act.put, lzA, lzB, lzC]
            refine wpAnyL_pure (i := 4) (oi := ⟨_, _, _, _, _, _⟩) (v := .pointer (some ⟨bI, oI + k * 2, none⟩)) rfl (by kernel_rfl) (by kernel_rfl) (by kernel_rfl) (fun _ _ _ h => h) (yt_atR (by rfl) _ _ rfl bI oI _ _ k rfl rfl (hlt)) ?_
            simp only [Act.put, lzA, lzB, lzC]
            refine wpAnyL_pure (i := 5) (oi := ⟨_, _, _, _, _, _⟩) (v := .pointer (some ⟨bI, oI + k * 2 + 0, none⟩)) rfl (by kernel_rfl) (by kernel_rfl) (by kernel_rfl) (fun _ _ _ h => h) (yt_fRg0 (by rfl) _ rfl bI (oI + k * 2) rfl) ?_
            simp only [Act.put, lzA, lzB, lzC]
            refine wpAnyL_load (i := 6) (oi := ⟨_, _, _, _, _, _⟩) (v := .int .i64 ((S.ints.getD k (0, 0)).1)) rfl (by kernel_rfl) (by kernel_rfl) (by kernel_rfl) (by kernel_rfl) (fun _ _ _ h => h) (yt_ldI (by rfl) _ rfl _ _ rfl (S.ints.getD k (0, 0)).1 (fun _ h => h.2.1)) ⟨G1, (q0 _ D).1, (q0 _ D).2⟩ ?_
            simp only [Act.put, lzA, lzB, lzC]
            refine wpAnyL_pure (i := 8) (oi := ⟨_, _, _, _, _, _⟩) (v := .pointer (some ⟨g1, 1, none⟩)) rfl (by kernel_rfl) (by kernel_rfl) (by kernel_rfl) (fun _ _ _ h => h) (yt_fSt1 (by rfl) _ rfl g1 0 rfl) ?_
            simp only [Act.put, lzA, lzB, lzC]
            refine wpAnyL_load (i := 9) (oi := ⟨_, _, _, _, _, _⟩) (v := .slice (some ⟨bI, oI, none⟩) S.ints.length cI) rfl (by kernel_rfl) (by kernel_rfl) (by kernel_rfl) (by kernel_rfl) (fun _ _ _ h => h) (yt_ldLr (by rfl) _ rfl _ _ rfl (some ⟨bI, oI, none⟩) S.ints.length cI (fun _ h => cell_heap h.1 1)) ⟨G1, (q0 _ D).1, (q0 _ D).2⟩ ?_
            simp only [Act.put, lzA, lzB, lzC]
            refine wpAnyL_pure (i := 10) (oi := ⟨_, _, _, _, _, _⟩) (v := .int .i64 (k : Nat)) rfl (by kernel_rfl) (by kernel_rfl) (by kernel_rfl) (fun _ _ _ h => h) (yl_move (by rfl) _ rfl _ rfl) ?_
            simp only [Act.put, lzA, lzB, lzC]
            refine wpAnyL_pure (i := 11) (oi := ⟨_, _, _, _, _, _⟩) (v := .pointer (some ⟨bI, oI + k * 2, none⟩)) rfl (by kernel_rfl) (by kernel_rfl) (by kernel_rfl) (fun _ _ _ h => h) (yt_atR (by rfl) _ _ rfl bI oI _ _ k rfl rfl (hlt)) ?_
            simp only [Act.put, lzA, lzB, lzC]
            refine wpAnyL_pure (i := 12) (oi := ⟨_, _, _, _, _, _⟩) (v := .pointer (some ⟨bI, oI + k * 2 + 1, none⟩)) rfl (by kernel_rfl) (by kernel_rfl) (by kernel_rfl) (fun _ _ _ h => h) (yt_fRg1 (by rfl) _ rfl bI (oI + k * 2) rfl) ?_
            simp only [Act.put, lzA, lzB, lzC]
            refine wpAnyL_load (i := 13) (oi := ⟨_, _, _, _, _, _⟩) (v := .int .i64 ((S.ints.getD k (0, 0)).2)) rfl (by kernel_rfl) (by kernel_rfl) (by kernel_rfl) (by kernel_rfl) (fun _ _ _ h => h) (yt_ldI (by rfl) _ rfl _ _ rfl (S.ints.getD k (0, 0)).2 (fun _ h => h.2.2)) ⟨G1, (q0 _ D).1, (q0 _ D).2⟩ ?_
            simp only [Act.put, lzA, lzB, lzC]
            refine wpAnyL_all (rs := [7]) (by kernel_rfl) (by simp) ?_
            intro j hj
            have hj := List.mem_singleton.1 hj
            subst hj
            refine ot_call (o := ⟨_, _, _, _, _, _⟩) rfl (by rfl) 72 _ _ rfl #[.int .i64 ((S.ints.getD k (0, 0)).1)] rfl (run_call Tryz.func72 (by kernel_rfl) (by kernel_rfl)) ?_
            refine (c_refInt (S.ints.getD k (0, 0)).1 _ (hok.1.2 _ (getD_memA S.ints (0, 0) k hlt)).1).mono ?_
            rintro r v3 (⟨rfl, kb⟩)
            replace D := grown_below D kb
            replace G1 := heap_on G1 kb
            clear kb
            refine Or.inl ⟨.string (bs (enc (zz (S.ints.getD k (0, 0)).1))), rfl, ⟨fun _ _ => ⟨G1, (q0 _ D).1, (q0 _ D).2⟩, ?_⟩⟩
            simp only [Act.put, lzA, lzB, lzC]
            refine wpAnyL_all (rs := [14]) (by kernel_rfl) (by simp) ?_
            intro j hj
            have hj := List.mem_singleton.1 hj
            subst hj
            refine ot_call (o := ⟨_, _, _, _, _, _⟩) rfl (by rfl) 72 _ _ rfl #[.int .i64 ((S.ints.getD k (0, 0)).2)] rfl (run_call Tryz.func72 (by kernel_rfl) (by kernel_rfl)) ?_
            refine (c_refInt (S.ints.getD k (0, 0)).2 _ (hok.1.2 _ (getD_memA S.ints (0, 0) k hlt)).2).mono ?_
            rintro r v4 (⟨rfl, kb⟩)
            replace D := grown_below D kb
            replace G1 := heap_on G1 kb
            clear kb
            refine Or.inl ⟨.string (bs (enc (zz (S.ints.getD k (0, 0)).2))), rfl, ⟨fun _ _ => ⟨G1, (q0 _ D).1, (q0 _ D).2⟩, ?_⟩⟩
            simp only [Act.put, lzA, lzB, lzC]
            refine wpAnyL_pure (i := 15) (oi := ⟨_, _, _, _, _, _⟩) (v := .string (bs ((enc (zz (S.ints.getD k (0, 0)).1)) ++ (enc (zz (S.ints.getD k (0, 0)).2))))) rfl (by kernel_rfl) (by kernel_rfl) (by kernel_rfl) (fun _ _ _ h => h) (yt_cat (by rfl) _ _ _ rfl (enc (zz (S.ints.getD k (0, 0)).1)) (enc (zz (S.ints.getD k (0, 0)).2)) rfl rfl (by (try simp only [List.length_append, List.length_cons, List.length_nil]); first | omega | (have q1 := hr k; first | omega | (have q2 := rgB_le (hok.1.2 _ (getD_memA S.ints (0, 0) k hlt)); unfold rgB2 at q2; rw [List.length_append] at q2; omega)) | (have q1 := hr S.ints.length; first | omega | (have q3 := hs k; first | omega | (have q4 := stB_le (hok.2.2 _ (getD_memA S.strs ⟨#[]⟩ k hlt)); omega)) | (have q3 := hs S.strs.length; omega)))) ?_
            simp only [Act.put, lzA, lzB, lzC]
            refine wpAnyL_pure (i := 16) (oi := ⟨_, _, _, _, _, _⟩) (v := .string (bs (([UInt8.ofNat (1 : Int).toNat] ++ enc S.ints.length ++ (S.ints.take k).flatMap rgB2) ++ ((enc (zz (S.ints.getD k (0, 0)).1)) ++ (enc (zz (S.ints.getD k (0, 0)).2)))))) rfl (by kernel_rfl) (by kernel_rfl) (by kernel_rfl) (fun _ _ _ h => h) (yt_cat (by rfl) _ _ _ rfl ([UInt8.ofNat (1 : Int).toNat] ++ enc S.ints.length ++ (S.ints.take k).flatMap rgB2) ((enc (zz (S.ints.getD k (0, 0)).1)) ++ (enc (zz (S.ints.getD k (0, 0)).2))) rfl rfl (by (try simp only [List.length_append, List.length_cons, List.length_nil]); first | omega | (have q1 := hr k; first | omega | (have q2 := rgB_le (hok.1.2 _ (getD_memA S.ints (0, 0) k hlt)); unfold rgB2 at q2; rw [List.length_append] at q2; omega)) | (have q1 := hr S.ints.length; first | omega | (have q3 := hs k; first | omega | (have q4 := stB_le (hok.2.2 _ (getD_memA S.strs ⟨#[]⟩ k hlt)); omega)) | (have q3 := hs S.strs.length; omega)))) ?_
            simp only [Act.put, lzA, lzB, lzC]
            refine wpAnyL_pure (i := 17) (oi := ⟨_, _, _, _, _, _⟩) (v := .string (bs (([UInt8.ofNat (1 : Int).toNat] ++ enc S.ints.length ++ (S.ints.take k).flatMap rgB2) ++ ((enc (zz (S.ints.getD k (0, 0)).1)) ++ (enc (zz (S.ints.getD k (0, 0)).2)))))) rfl (by kernel_rfl) (by kernel_rfl) (by kernel_rfl) (fun _ _ _ h => h) (yl_assign (by rfl) _ rfl _ rfl) ?_
            simp only [Act.put, lzA, lzB, lzC]
            refine wpAnyL_done (by kernel_rfl) ?_ _
            refine hK12 _ _ ?_
            clear hK12 K12
            refine wp_region_lit ?_
            refine wl_yield (o := ⟨_, _, _, _, _, _⟩) (.int .i64 (k : Nat)) (yl_move (by rfl) _ rfl _ rfl) ?_
            simp only [Act.put, lzA, lzB, lzC]
            refine wl_yield (o := ⟨_, _, _, _, _, _⟩) (.int .i64 (k + 1 : Nat)) (yt_addI (by rfl) _ _ _ rfl ((k : Nat) : Int) 1 ((k + 1 : Nat) : Int) rfl rfl (by omega) (by omega) (by omega)) ?_
            simp only [Act.put, lzA, lzB, lzC]
            refine wl_yield (o := ⟨_, _, _, _, _, _⟩) (.int .i64 (k + 1 : Nat)) (yl_assign (by rfl) _ rfl _ rfl) ?_
            simp only [Act.put, lzA, lzB, lzC]
            refine wpList_nil ?_
            show _ ∧ _
            go_roundw
            case rel => exact ⟨k + 1, by rw [take_step rgB2 (0, 0) S.ints k hlt]; simp only [rgB2, List.append_assoc], rfl, by omega, G1, D⟩
            case measure => simp [intOf]; omega
          · obtain rfl : k = S.ints.length := by omega
            refine wp_seq_k (fun K10 hK10 => ?_)
            refine wp_seq_k (fun K11 hK11 => ?_)
            refine wp_region_lit ?_
            refine wl_yield (o := ⟨_, _, _, _, _, _⟩) (.int .i64 (S.ints.length : Nat)) (yl_move (by rfl) _ rfl _ rfl) ?_
            simp only [Act.put, lzA, lzB, lzC]
            refine wl_yield (o := ⟨_, _, _, _, _, _⟩) (.pointer (some ⟨g1, 1, none⟩)) (yt_fSt1 (by rfl) _ rfl g1 0 rfl) ?_
            simp only [Act.put, lzA, lzB, lzC]
            refine wl_yield (o := ⟨_, _, _, _, _, _⟩) (.slice pI S.ints.length cI) (yt_ldLr (by rfl) _ rfl _ _ rfl pI S.ints.length cI (fun _ h => by subst h; exact cell_heap G1 1)) ?_
            simp only [Act.put, lzA, lzB, lzC]
            refine wl_yield (o := ⟨_, _, _, _, _, _⟩) (.int .i64 (S.ints.length : Nat)) (yt_lenR (by rfl) _ rfl pI S.ints.length cI rfl) ?_
            simp only [Act.put, lzA, lzB, lzC]
            refine wl_yield (o := ⟨_, _, _, _, _, _⟩) (.bool false) (yt_lssI (by rfl) _ _ _ rfl ((S.ints.length : Nat) : Int) ((S.ints.length : Nat) : Int) false rfl rfl (decide_eq_false (by omega))) ?_
            simp only [Act.put, lzA, lzB, lzC]
            refine wpList_nil ?_
            refine hK11 _ _ ?_
            clear hK11 K11
            refine wp_cond_false rfl ?_
            refine wp_exit ?_
            refine hK8 _ _ ?_
            clear hK10 K10 hK8 K8
            refine wp_seq_k (fun K12 hK12 => ?_)
            refine wp_region_lit ?_
            refine wl_yield (o := ⟨_, _, _, _, _, _⟩) (.string (bs ([UInt8.ofNat (1 : Int).toNat] ++ enc S.ints.length ++ (S.ints.take S.ints.length).flatMap rgB2))) (yl_move (by rfl) _ rfl _ rfl) ?_
            simp only [Act.put, lzA, lzB, lzC]
            refine wl_yield (o := ⟨_, _, _, _, _, _⟩) (.pointer (some ⟨g1, 3, none⟩)) (yt_fSt3 (by rfl) _ rfl g1 0 rfl) ?_
            simp only [Act.put, lzA, lzB, lzC]
            refine wl_yield (o := ⟨_, _, _, _, _, _⟩) (.slice pS S.strs.length cS) (yt_ldLs (by rfl) _ rfl _ _ rfl pS S.strs.length cS (fun _ h => by subst h; exact cell_heap G1 3)) ?_
            simp only [Act.put, lzA, lzB, lzC]
            refine wl_yield (o := ⟨_, _, _, _, _, _⟩) (.int .i64 (S.strs.length : Nat)) (yt_lenT (by rfl) _ rfl pS S.strs.length cS rfl) ?_
            simp only [Act.put, lzA, lzB, lzC]
            refine wl_yield (o := ⟨_, _, _, _, _, _⟩) (.int .u64 ((S.strs.length : Nat) : Int)) (yw_iu (by rfl) _ rfl ((S.strs.length : Nat) : Int) rfl (by omega) (by omega)) ?_
            simp only [Act.put, lzA, lzB, lzC]
            refine wt_call (o := ⟨_, _, _, _, _, _⟩) (by rfl) 62 _ _ rfl #[.int .u64 ((S.strs.length : Nat) : Int)] rfl (run_call Tryz.func62 (by kernel_rfl) (by kernel_rfl)) ?_
            refine (c_refUint S.strs.length _ (by omega)).mono ?_
            rintro r v2 ⟨rfl, kb⟩
            replace D := grown_below D kb
            replace G1 := heap_on G1 kb
            clear kb
            refine Or.inl ⟨.string (bs (enc S.strs.length)), rfl, ?_⟩
            simp only [Act.put, lzA, lzB, lzC]
            refine wl_yield (o := ⟨_, _, _, _, _, _⟩) (.string (bs (([UInt8.ofNat (1 : Int).toNat] ++ enc S.ints.length ++ (S.ints.take S.ints.length).flatMap rgB2) ++ (enc S.strs.length)))) (yt_cat (by rfl) _ _ _ rfl ([UInt8.ofNat (1 : Int).toNat] ++ enc S.ints.length ++ (S.ints.take S.ints.length).flatMap rgB2) (enc S.strs.length) rfl rfl (by (try simp only [List.length_append, List.length_cons, List.length_nil]); first | omega | (have q1 := hr k; first | omega | (have q2 := rgB_le (hok.1.2 _ (getD_memA S.ints (0, 0) k hlt)); unfold rgB2 at q2; rw [List.length_append] at q2; omega)) | (have q1 := hr S.ints.length; first | omega | (have q3 := hs k; first | omega | (have q4 := stB_le (hok.2.2 _ (getD_memA S.strs ⟨#[]⟩ k hlt)); omega)) | (have q3 := hs S.strs.length; omega)))) ?_
            simp only [Act.put, lzA, lzB, lzC]
            refine wl_yield (o := ⟨_, _, _, _, _, _⟩) (.string (bs (([UInt8.ofNat (1 : Int).toNat] ++ enc S.ints.length ++ (S.ints.take S.ints.length).flatMap rgB2) ++ (enc S.strs.length)))) (yl_assign (by rfl) _ rfl _ rfl) ?_
            simp only [Act.put, lzA, lzB, lzC]
            refine wpList_nil ?_
            refine hK12 _ _ ?_
            clear hK12 K12
            refine wp_seq_k (fun K13 hK13 => ?_)
            refine wp_seq_k (fun K14 hK14 => ?_)
            refine wp_region_lit ?_
            refine wl_yield (o := ⟨_, _, _, _, _, _⟩) (.int .i64 0) (yl_assign (by rfl) _ rfl _ rfl) ?_
            simp only [Act.put, lzA, lzB, lzC]
            refine wpList_nil ?_
            refine hK14 _ _ ?_
            clear hK14 K14
            refine wp_block ?_
            go_loopw [4, 6] (fun x i wr => ∃ k : Nat, x = .string (bs (([UInt8.ofNat (1 : Int).toNat] ++ enc S.ints.length ++ (S.ints.take S.ints.length).flatMap rgB2) ++ enc S.strs.length ++ (S.strs.take k).flatMap stB2)) ∧ i = .int .i64 k ∧ k ≤ S.strs.length ∧ wr.heap[g1]? = some (.cells #[.bool (S.absent), .slice pI S.ints.length cI, .bool (S.co), .slice pS S.strs.length cS] 25 (0, 0)) ∧ w.grownBy wr none) (fun _ i _ => S.strs.length - (intOf i).toNat)
            case atStart => exact ⟨0, by rw [List.take_zero, List.flatMap_nil, List.append_nil], rfl, Nat.zero_le _, G1, D⟩
            case round =>
              clear D G1
              obtain ⟨k, rfl, rfl, hk, G1, D⟩ := hrel
              by_cases hlt : k < S.strs.length
              · obtain ⟨bS, oS, rfl, c0⟩ := str_cell (hT _ (below_none D)) k hlt
                refine wp_seq_k (fun K15 hK15 => ?_)
                refine wp_seq_k (fun K16 hK16 => ?_)
                refine wp_region_lit ?_
                refine wl_yield (o := ⟨_, _, _, _, _, _⟩) (.int .i64 (k : Nat)) (yl_move (by rfl) _ rfl _ rfl) ?_
                simp only [Act.put, lzA, lzB, lzC]
                refine wl_yield (o := ⟨_, _, _, _, _, _⟩) (.pointer (some ⟨g1, 3, none⟩)) (yt_fSt3 (by rfl) _ rfl g1 0 rfl) ?_
                simp only [Act.put, lzA, lzB, lzC]
                refine wl_yield (o := ⟨_, _, _, _, _, _⟩) (.slice (some ⟨bS, oS, none⟩) S.strs.length cS) (yt_ldLs (by rfl) _ rfl _ _ rfl (some ⟨bS, oS, none⟩) S.strs.length cS (fun _ h => by subst h; exact cell_heap G1 3)) ?_
                simp only [Act.put, lzA, lzB, lzC]
                refine wl_yield (o := ⟨_, _, _, _, _, _⟩) (.int .i64 (S.strs.length : Nat)) (yt_lenT (by rfl) _ rfl (some ⟨bS, oS, none⟩) S.strs.length cS rfl) ?_
                simp only [Act.put, lzA, lzB, lzC]
                refine wl_yield (o := ⟨_, _, _, _, _, _⟩) (.bool true) (yt_lssI (by rfl) _ _ _ rfl ((k : Nat) : Int) ((S.strs.length : Nat) : Int) true rfl rfl (decide_eq_true (by omega))) ?_
                simp only [Act.put, lzA, lzB, lzC]
                refine wpList_nil ?_
                refine hK16 _ _ ?_
                clear hK16 K16
                refine wp_cond_true rfl ?_
                refine wp_skip ?_
                refine hK15 _ _ ?_
                clear hK15 K15
                refine wp_seq_k (fun K17 hK17 => ?_)
                refine wp_block ?_
                refine wp_region_lit ?_
                refine wl_yield (o := ⟨_, _, _, _, _, _⟩) (.string (bs (([UInt8.ofNat (1 : Int).toNat] ++ enc S.ints.length ++ (S.ints.take S.ints.length).flatMap rgB2) ++ enc S.strs.length ++ (S.strs.take k).flatMap stB2))) (yl_move (by rfl) _ rfl _ rfl) ?_
                simp only [Act.put, lzA, lzB, lzC]
                refine wl_yield (o := ⟨_, _, _, _, _, _⟩) (.pointer (some ⟨g1, 3, none⟩)) (yt_fSt3 (by rfl) _ rfl g1 0 rfl) ?_
                simp only [Act.put, lzA, lzB, lzC]
                refine wl_yield (o := ⟨_, _, _, _, _, _⟩) (.slice (some ⟨bS, oS, none⟩) S.strs.length cS) (yt_ldLs (by rfl) _ rfl _ _ rfl (some ⟨bS, oS, none⟩) S.strs.length cS (fun _ h => by subst h; exact cell_heap G1 3)) ?_
                simp only [Act.put, lzA, lzB, lzC]
                refine wl_yield (o := ⟨_, _, _, _, _, _⟩) (.int .i64 (k : Nat)) (yl_move (by rfl) _ rfl _ rfl) ?_
                simp only [Act.put, lzA, lzB, lzC]
                refine wl_yield (o := ⟨_, _, _, _, _, _⟩) (.pointer (some ⟨bS, oS + k * 1, none⟩)) (yt_atT (by rfl) _ _ rfl bS oS _ _ k rfl rfl (hlt)) ?_
                simp only [Act.put, lzA, lzB, lzC]
                refine wl_yield (o := ⟨_, _, _, _, _, _⟩) (.string (S.strs.getD k ⟨#[]⟩)) (yt_ldS (by rfl) _ rfl _ _ rfl (S.strs.getD k ⟨#[]⟩) (fun _ h => by subst h; exact c0)) ?_
                simp only [Act.put, lzA, lzB, lzC]
                refine wt_call (o := ⟨_, _, _, _, _, _⟩) (by rfl) 73 _ _ rfl #[.string (S.strs.getD k ⟨#[]⟩)] rfl (run_call Tryz.func73 (by kernel_rfl) (by kernel_rfl)) ?_
                refine (c_refStr (S.strs.getD k ⟨#[]⟩) _ (hok.2.2 _ (getD_memA S.strs ⟨#[]⟩ k hlt))).mono ?_
                rintro r v3 ⟨rfl, kb⟩
                replace D := grown_below D kb
                replace G1 := heap_on G1 kb
                clear kb
                refine Or.inl ⟨.string (bs (stB2 (S.strs.getD k ⟨#[]⟩))), rfl, ?_⟩
                simp only [Act.put, lzA, lzB, lzC]
                refine wl_yield (o := ⟨_, _, _, _, _, _⟩) (.string (bs ((([UInt8.ofNat (1 : Int).toNat] ++ enc S.ints.length ++ (S.ints.take S.ints.length).flatMap rgB2) ++ enc S.strs.length ++ (S.strs.take k).flatMap stB2) ++ (stB2 (S.strs.getD k ⟨#[]⟩))))) (yt_cat (by rfl) _ _ _ rfl (([UInt8.ofNat (1 : Int).toNat] ++ enc S.ints.length ++ (S.ints.take S.ints.length).flatMap rgB2) ++ enc S.strs.length ++ (S.strs.take k).flatMap stB2) (stB2 (S.strs.getD k ⟨#[]⟩)) rfl rfl (by (try simp only [List.length_append, List.length_cons, List.length_nil]); first | omega | (have q1 := hr k; first | omega | (have q2 := rgB_le (hok.1.2 _ (getD_memA S.ints (0, 0) k hlt)); unfold rgB2 at q2; rw [List.length_append] at q2; omega)) | (have q1 := hr S.ints.length; first | omega | (have q3 := hs k; first | omega | (have q4 := stB_le (hok.2.2 _ (getD_memA S.strs ⟨#[]⟩ k hlt)); omega)) | (have q3 := hs S.strs.length; omega)))) ?_
                simp only [Act.put, lzA, lzB, lzC]
                refine wl_yield (o := ⟨_, _, _, _, _, _⟩) (.string (bs ((([UInt8.ofNat (1 : Int).toNat] ++ enc S.ints.length ++ (S.ints.take S.ints.length).flatMap rgB2) ++ enc S.strs.length ++ (S.strs.take k).flatMap stB2) ++ (stB2 (S.strs.getD k ⟨#[]⟩))))) (yl_assign (by rfl) _ rfl _ rfl) ?_
                simp only [Act.put, lzA, lzB, lzC]
                refine wpList_nil ?_
                refine hK17 _ _ ?_
                clear hK17 K17
                refine wp_region_lit ?_
                refine wl_yield (o := ⟨_, _, _, _, _, _⟩) (.int .i64 (k : Nat)) (yl_move (by rfl) _ rfl _ rfl) ?_
                simp only [Act.put, lzA, lzB, lzC]
                refine wl_yield (o := ⟨_, _, _, _, _, _⟩) (.int .i64 (k + 1 : Nat)) (yt_addI (by rfl) _ _ _ rfl ((k : Nat) : Int) 1 ((k + 1 : Nat) : Int) rfl rfl (by omega) (by omega) (by omega)) ?_
                simp only [Act.put, lzA, lzB, lzC]
                refine wl_yield (o := ⟨_, _, _, _, _, _⟩) (.int .i64 (k + 1 : Nat)) (yl_assign (by rfl) _ rfl _ rfl) ?_
                simp only [Act.put, lzA, lzB, lzC]
                refine wpList_nil ?_
                show _ ∧ _
                go_roundw
                case rel => exact ⟨k + 1, by rw [take_step stB2 ⟨#[]⟩ S.strs k hlt]; simp only [rgB2, List.append_assoc], rfl, by omega, G1, D⟩
                case measure => simp [intOf]; omega
              · obtain rfl : k = S.strs.length := by omega
                refine wp_seq_k (fun K15 hK15 => ?_)
                refine wp_seq_k (fun K16 hK16 => ?_)
                refine wp_region_lit ?_
                refine wl_yield (o := ⟨_, _, _, _, _, _⟩) (.int .i64 (S.strs.length : Nat)) (yl_move (by rfl) _ rfl _ rfl) ?_
                simp only [Act.put, lzA, lzB, lzC]
                refine wl_yield (o := ⟨_, _, _, _, _, _⟩) (.pointer (some ⟨g1, 3, none⟩)) (yt_fSt3 (by rfl) _ rfl g1 0 rfl) ?_
                simp only [Act.put, lzA, lzB, lzC]
                refine wl_yield (o := ⟨_, _, _, _, _, _⟩) (.slice pS S.strs.length cS) (yt_ldLs (by rfl) _ rfl _ _ rfl pS S.strs.length cS (fun _ h => by subst h; exact cell_heap G1 3)) ?_
                simp only [Act.put, lzA, lzB, lzC]
                refine wl_yield (o := ⟨_, _, _, _, _, _⟩) (.int .i64 (S.strs.length : Nat)) (yt_lenT (by rfl) _ rfl pS S.strs.length cS rfl) ?_
                simp only [Act.put, lzA, lzB, lzC]
                refine wl_yield (o := ⟨_, _, _, _, _, _⟩) (.bool false) (yt_lssI (by rfl) _ _ _ rfl ((S.strs.length : Nat) : Int) ((S.strs.length : Nat) : Int) false rfl rfl (decide_eq_false (by omega))) ?_
                simp only [Act.put, lzA, lzB, lzC]
                refine wpList_nil ?_
                refine hK16 _ _ ?_
                clear hK16 K16
                refine wp_cond_false rfl ?_
                refine wp_exit ?_
                refine hK13 _ _ ?_
                clear hK15 K15 hK13 K13
                refine wp_seq_k (fun K17 hK17 => ?_)
                refine wp_region_lit ?_
                refine wl_yield (o := ⟨_, _, _, _, _, _⟩) (.string (bs (([UInt8.ofNat (1 : Int).toNat] ++ enc S.ints.length ++ (S.ints.take S.ints.length).flatMap rgB2) ++ enc S.strs.length ++ (S.strs.take S.strs.length).flatMap stB2))) (yl_move (by rfl) _ rfl _ rfl) ?_
                simp only [Act.put, lzA, lzB, lzC]
                refine wl_yield (o := ⟨_, _, _, _, _, _⟩) (.string (bs (([UInt8.ofNat (1 : Int).toNat] ++ enc S.ints.length ++ (S.ints.take S.ints.length).flatMap rgB2) ++ enc S.strs.length ++ (S.strs.take S.strs.length).flatMap stB2))) (yl_assign (by rfl) _ rfl _ rfl) ?_
                simp only [Act.put, lzA, lzB, lzC]
                refine wpList_nil ?_
                refine hK17 _ _ ?_
                clear hK17 K17
                refine wp_ret ?_
                try simp only [Exit.inBlock, Exit.then]
                have hd := set_done8 (S := S) (k := 1) (by unfold flagS; rw [hab, hco]; try rfl)
                go_ret
                exact ⟨congrArg (fun z => Ending.returned (.string (bs z))) (by rw [← hd]), below_none D⟩
      refine wp_region_late (S := fun w' => w'.heap[g1]? = some (.cells #[.bool (S.absent), .slice pI S.ints.length cI, .bool (S.co), .slice pS S.strs.length cS] 25 (0, 0))) (late := fun j => [].contains j) (by kernel_rfl) ?_
      have kb : Below v1.heap.size v1 v1.drew := (Below.refl _ v1).drew
      replace D := grown_below D kb
      replace G1 := heap_on G1 kb
      clear kb
      generalize v1.drew = v2 at D G1 ⊢
      refine wpAnyL_pure (i := 0) (oi := ⟨_, _, _, _, _, _⟩) (v := .int .i64 1) rfl (by kernel_rfl) (by kernel_rfl) (by kernel_rfl) (fun _ _ _ h => h) (yl_move (by rfl) _ rfl _ rfl) ?_
      simp only [Act.put, lzA, lzB, lzC]
      refine wpAnyL_pure (i := 1) (oi := ⟨_, _, _, _, _, _⟩) (v := .int .u8 1) rfl (by kernel_rfl) (by kernel_rfl) (by kernel_rfl) (fun _ _ _ h => h) (yw_iy (by rfl) _ rfl 1 rfl (by decide) (by decide)) ?_
      simp only [Act.put, lzA, lzB, lzC]
      refine wpAnyL_pure (i := 4) (oi := ⟨_, _, _, _, _, _⟩) (v := .pointer (some ⟨g1, 1, none⟩)) rfl (by kernel_rfl) (by kernel_rfl) (by kernel_rfl) (fun _ _ _ h => h) (yt_fSt1 (by rfl) _ rfl g1 0 rfl) ?_
      simp only [Act.put, lzA, lzB, lzC]
      refine wpAnyL_load (i := 5) (oi := ⟨_, _, _, _, _, _⟩) (v := .slice pI S.ints.length cI) rfl (by kernel_rfl) (by kernel_rfl) (by kernel_rfl) (by kernel_rfl) (fun _ _ _ h => h) (yt_ldLr (by rfl) _ rfl _ _ rfl pI S.ints.length cI (fun _ h => cell_heap h 1)) G1 ?_
      simp only [Act.put, lzA, lzB, lzC]
      refine wpAnyL_pure (i := 6) (oi := ⟨_, _, _, _, _, _⟩) (v := .int .i64 (S.ints.length : Nat)) rfl (by kernel_rfl) (by kernel_rfl) (by kernel_rfl) (fun _ _ _ h => h) (yt_lenR (by rfl) _ rfl pI S.ints.length cI rfl) ?_
      simp only [Act.put, lzA, lzB, lzC]
      refine wpAnyL_pure (i := 7) (oi := ⟨_, _, _, _, _, _⟩) (v := .int .u64 ((S.ints.length : Nat) : Int)) rfl (by kernel_rfl) (by kernel_rfl) (by kernel_rfl) (fun _ _ _ h => h) (yw_iu (by rfl) _ rfl ((S.ints.length : Nat) : Int) rfl (by omega) (by omega)) ?_
      simp only [Act.put, lzA, lzB, lzC]
      refine wpAnyL_all (rs := [2, 8]) (by kernel_rfl) (by simp) ?_
      intro j hj
      simp only [List.mem_cons, List.not_mem_nil, or_false] at hj
      rcases hj with rfl | rfl
      · refine ot_row1Y (o := ⟨_, _, _, _, _, _⟩) rfl (by rfl) _ rfl 1 rfl (fun v3 g3 hg G3 kb => ?_)
        have n_g1_g3 : g1 ≠ g3 := by have := lt_heap G1; omega
        have ge_g3 : w.heap.size ≤ g3 := Nat.le_trans D.size hg
        clear hg
        replace D := grown_below D kb
        replace G1 := heap_on G1 kb
        clear kb
        refine ⟨fun _ _ => G1, ?_⟩
        simp only [Act.put, lzA, lzB, lzC]
        refine wpAnyL_all (rs := [3, 8]) (by kernel_rfl) (by simp) ?_
        intro j hj
        simp only [List.mem_cons, List.not_mem_nil, or_false] at hj
        rcases hj with rfl | rfl
        · refine ot_conv1 (o := ⟨_, _, _, _, _, _⟩) rfl (by rfl) _ rfl g3 rfl 1 (by decide) (by decide) G3 ?_
          refine ⟨fun _ _ => G1, ?_⟩
          simp only [Act.put, lzA, lzB, lzC]
          refine wpAnyL_all (rs := [8]) (by kernel_rfl) (by simp) ?_
          intro j hj
          have hj := List.mem_singleton.1 hj
          subst hj
          refine ot_call (o := ⟨_, _, _, _, _, _⟩) rfl (by rfl) 62 _ _ rfl #[.int .u64 ((S.ints.length : Nat) : Int)] rfl (run_call Tryz.func62 (by kernel_rfl) (by kernel_rfl)) ?_
          refine (c_refUint S.ints.length _ (by omega)).mono ?_
          rintro r v4 (⟨rfl, kb⟩)
          replace D := grown_below D kb
          replace G1 := heap_on G1 kb
          replace G3 := heap_on G3 kb
          clear kb
          refine Or.inl ⟨.string (bs (enc S.ints.length)), rfl, ⟨fun _ _ => G1, ?_⟩⟩
          simp only [Act.put, lzA, lzB, lzC]
          refine wpAnyL_pure (i := 9) (oi := ⟨_, _, _, _, _, _⟩) (v := .string (bs (([UInt8.ofNat (1 : Int).toNat]) ++ (enc S.ints.length)))) rfl (by kernel_rfl) (by kernel_rfl) (by kernel_rfl) (fun _ _ _ h => h) (yt_cat (by rfl) _ _ _ rfl ([UInt8.ofNat (1 : Int).toNat]) (enc S.ints.length) rfl rfl (by (try simp only [List.length_append, List.length_cons, List.length_nil]); first | omega | (have q1 := hr k; first | omega | (have q2 := rgB_le (hok.1.2 _ (getD_memA S.ints (0, 0) k hlt)); unfold rgB2 at q2; rw [List.length_append] at q2; omega)) | (have q1 := hr S.ints.length; first | omega | (have q3 := hs k; first | omega | (have q4 := stB_le (hok.2.2 _ (getD_memA S.strs ⟨#[]⟩ k hlt)); omega)) | (have q3 := hs S.strs.length; omega)))) ?_
          simp only [Act.put, lzA, lzB, lzC]
          refine wpAnyL_pure (i := 10) (oi := ⟨_, _, _, _, _, _⟩) (v := .string (bs (([UInt8.ofNat (1 : Int).toNat]) ++ (enc S.ints.length)))) rfl (by kernel_rfl) (by kernel_rfl) (by kernel_rfl) (fun _ _ _ h => h) (yl_assign (by rfl) _ rfl _ rfl) ?_
          simp only [Act.put, lzA, lzB, lzC]
          refine wpAnyL_done (by kernel_rfl) ?_ _
          exact NEXT _ _ G1 D
        · refine ot_call (o := ⟨_, _, _, _, _, _⟩) rfl (by rfl) 62 _ _ rfl #[.int .u64 ((S.ints.length : Nat) : Int)] rfl (run_call Tryz.func62 (by kernel_rfl) (by kernel_rfl)) ?_
          refine (c_refUint S.ints.length _ (by omega)).mono ?_
          rintro r v4 (⟨rfl, kb⟩)
          replace D := grown_below D kb
          replace G1 := heap_on G1 kb
          replace G3 := heap_on G3 kb
          clear kb
          refine Or.inl ⟨.string (bs (enc S.ints.length)), rfl, ⟨fun _ _ => G1, ?_⟩⟩
          simp only [Act.put, lzA, lzB, lzC]
          refine wpAnyL_all (rs := [3]) (by kernel_rfl) (by simp) ?_
          intro j hj
          have hj := List.mem_singleton.1 hj
          subst hj
          refine ot_conv1 (o := ⟨_, _, _, _, _, _⟩) rfl (by rfl) _ rfl g3 rfl 1 (by decide) (by decide) G3 ?_
          refine ⟨fun _ _ => G1, ?_⟩
          simp only [Act.put, lzA, lzB, lzC]
          refine wpAnyL_pure (i := 9) (oi := ⟨_, _, _, _, _, _⟩) (v := .string (bs (([UInt8.ofNat (1 : Int).toNat]) ++ (enc S.ints.length)))) rfl (by kernel_rfl) (by kernel_rfl) (by kernel_rfl) (fun _ _ _ h => h) (yt_cat (by rfl) _ _ _ rfl ([UInt8.ofNat (1 : Int).toNat]) (enc S.ints.length) rfl rfl (by (try simp only [List.length_append, List.length_cons, List.length_nil]); first | omega | (have q1 := hr k; first | omega | (have q2 := rgB_le (hok.1.2 _ (getD_memA S.ints (0, 0) k hlt)); unfold rgB2 at q2; rw [List.length_append] at q2; omega)) | (have q1 := hr S.ints.length; first | omega | (have q3 := hs k; first | omega | (have q4 := stB_le (hok.2.2 _ (getD_memA S.strs ⟨#[]⟩ k hlt)); omega)) | (have q3 := hs S.strs.length; omega)))) ?_
          simp only [Act.put, lzA, lzB, lzC]
          refine wpAnyL_pure (i := 10) (oi := ⟨_, _, _, _, _, _⟩) (v := .string (bs (([UInt8.ofNat (1 : Int).toNat]) ++ (enc S.ints.length)))) rfl (by kernel_rfl) (by kernel_rfl) (by kernel_rfl) (fun _ _ _ h => h) (yl_assign (by rfl) _ rfl _ rfl) ?_
          simp only [Act.put, lzA, lzB, lzC]
          refine wpAnyL_done (by kernel_rfl) ?_ _
          exact NEXT _ _ G1 D
      · refine ot_call (o := ⟨_, _, _, _, _, _⟩) rfl (by rfl) 62 _ _ rfl #[.int .u64 ((S.ints.length : Nat) : Int)] rfl (run_call Tryz.func62 (by kernel_rfl) (by kernel_rfl)) ?_
        refine (c_refUint S.ints.length _ (by omega)).mono ?_
        rintro r v3 (⟨rfl, kb⟩)
        replace D := grown_below D kb
        replace G1 := heap_on G1 kb
        clear kb
        refine Or.inl ⟨.string (bs (enc S.ints.length)), rfl, ⟨fun _ _ => G1, ?_⟩⟩
        simp only [Act.put, lzA, lzB, lzC]
        refine wpAnyL_all (rs := [2]) (by kernel_rfl) (by simp) ?_
        intro j hj
        have hj := List.mem_singleton.1 hj
        subst hj
        refine ot_row1Y (o := ⟨_, _, _, _, _, _⟩) rfl (by rfl) _ rfl 1 rfl (fun v4 g4 hg G4 kb => ?_)
        have n_g1_g4 : g1 ≠ g4 := by have := lt_heap G1; omega
        have ge_g4 : w.heap.size ≤ g4 := Nat.le_trans D.size hg
        clear hg
        replace D := grown_below D kb
        replace G1 := heap_on G1 kb
        clear kb
        refine ⟨fun _ _ => G1, ?_⟩
        simp only [Act.put, lzA, lzB, lzC]
        refine wpAnyL_all (rs := [3]) (by kernel_rfl) (by simp) ?_
        intro j hj
        have hj := List.mem_singleton.1 hj
        subst hj
        refine ot_conv1 (o := ⟨_, _, _, _, _, _⟩) rfl (by rfl) _ rfl g4 rfl 1 (by decide) (by decide) G4 ?_
        refine ⟨fun _ _ => G1, ?_⟩
        simp only [Act.put, lzA, lzB, lzC]
        refine wpAnyL_pure (i := 9) (oi := ⟨_, _, _, _, _, _⟩) (v := .string (bs (([UInt8.ofNat (1 : Int).toNat]) ++ (enc S.ints.length)))) rfl (by kernel_rfl) (by kernel_rfl) (by kernel_rfl) (fun _ _ _ h => h) (yt_cat (by rfl) _ _ _ rfl ([UInt8.ofNat (1 : Int).toNat]) (enc S.ints.length) rfl rfl (by (try simp only [List.length_append, List.length_cons, List.length_nil]); first | omega | (have q1 := hr k; first | omega | (have q2 := rgB_le (hok.1.2 _ (getD_memA S.ints (0, 0) k hlt)); unfold rgB2 at q2; rw [List.length_append] at q2; omega)) | (have q1 := hr S.ints.length; first | omega | (have q3 := hs k; first | omega | (have q4 := stB_le (hok.2.2 _ (getD_memA S.strs ⟨#[]⟩ k hlt)); omega)) | (have q3 := hs S.strs.length; omega)))) ?_
        simp only [Act.put, lzA, lzB, lzC]
        refine wpAnyL_pure (i := 10) (oi := ⟨_, _, _, _, _, _⟩) (v := .string (bs (([UInt8.ofNat (1 : Int).toNat]) ++ (enc S.ints.length)))) rfl (by kernel_rfl) (by kernel_rfl) (by kernel_rfl) (fun _ _ _ h => h) (yl_assign (by rfl) _ rfl _ rfl) ?_
        simp only [Act.put, lzA, lzB, lzC]
        refine wpAnyL_done (by kernel_rfl) ?_ _
        exact NEXT _ _ G1 D
  · have hab : S.absent = false := hc
    clear hc
    refine wp_skip ?_
    refine hK3 _ _ ?_
    clear hK3 K3
    refine wp_seq_k (fun K5 hK5 => ?_)
    refine wp_seq_k (fun K6 hK6 => ?_)
    refine wp_region_lit ?_
    refine wl_yield (o := ⟨_, _, _, _, _, _⟩) (.pointer (some ⟨g1, 2, none⟩)) (yt_fSt2 (by rfl) _ rfl g1 0 rfl) ?_
    simp only [Act.put, lzA, lzB, lzC]
    refine wl_yield (o := ⟨_, _, _, _, _, _⟩) (.bool (S.co)) (yt_ldB (by rfl) _ rfl _ _ rfl S.co (fun _ h => by subst h; exact cell_heap G1 2)) ?_
    simp only [Act.put, lzA, lzB, lzC]
    refine wpList_nil ?_
    refine hK6 _ _ ?_
    clear hK6 K6
    refine wp_cond_split (t := S.co) rfl (fun hc => ?_) (fun hc => ?_)
    · have hco : S.co = true := hc
      clear hc
      refine wp_region_lit ?_
      refine wl_yield (o := ⟨_, _, _, _, _, _⟩) (.int .i64 0) (yl_move (by rfl) _ rfl _ rfl) ?_
      simp only [Act.put, lzA, lzB, lzC]
      refine wl_yield (o := ⟨_, _, _, _, _, _⟩) (.int .i64 2) (yt_addI (by rfl) _ _ _ rfl 0 2 2 rfl rfl (by omega) (by omega) (by omega)) ?_
      simp only [Act.put, lzA, lzB, lzC]
      refine wl_yield (o := ⟨_, _, _, _, _, _⟩) (.int .i64 2) (yl_assign (by rfl) _ rfl _ rfl) ?_
      simp only [Act.put, lzA, lzB, lzC]
      refine wpList_nil ?_
      refine hK5 _ _ ?_
      clear hK5 K5
      refine wp_seq_k (fun K7 hK7 => ?_)
      have NEXT : ∀ (W : World) (gY : Nat), W.heap[g1]? = some (.cells #[.bool (S.absent), .slice pI S.ints.length cI, .bool (S.co), .slice pS S.strs.length cS] 25 (0, 0)) → w.grownBy W none → K7 ⟨#[.agg #[.bool (S.absent), .slice pI S.ints.length cI, .bool (S.co), .slice pS S.strs.length cS], .pointer (some ⟨g1, 0, none⟩), .string (bs ([])), .int .i64 2, .string (bs ([UInt8.ofNat (2 : Int).toNat] ++ enc S.ints.length)), undef, undef, .pointer (some ⟨g1, 0, none⟩), .bool (S.absent), undef, undef, .pointer (some ⟨g1, 2, none⟩), .bool (S.co), .int .i64 0, .int .i64 2, .int .i64 2, .int .u8 2, .slice (some ⟨gY, 0, none⟩) 1 1, .string (bs ([UInt8.ofNat (2 : Int).toNat])), .pointer (some ⟨g1, 1, none⟩), .slice pI S.ints.length cI, .int .i64 (S.ints.length : Nat), .int .u64 ((S.ints.length : Nat) : Int), .string (bs (enc S.ints.length)), .string (bs ([UInt8.ofNat (2 : Int).toNat] ++ enc S.ints.length)), undef, undef, undef, undef, undef, undef, undef, undef, undef, undef, undef, undef, undef, undef, undef, undef, undef, undef, undef, undef, undef, undef, undef, undef, undef, undef, undef, undef, undef, undef, undef, undef, undef, undef, undef, undef, undef, undef, undef, undef, undef, undef, undef, undef, undef, undef, undef], []⟩ W := by
        intro W gY G1 D
        refine hK7 _ _ ?_
        clear hK7 K7
        refine wp_seq_k (fun K8 hK8 => ?_)
        refine wp_seq_k (fun K9 hK9 => ?_)
        refine wp_region_lit ?_
        refine wl_yield (o := ⟨_, _, _, _, _, _⟩) (.int .i64 0) (yl_assign (by rfl) _ rfl _ rfl) ?_
        simp only [Act.put, lzA, lzB, lzC]
        refine wpList_nil ?_
        refine hK9 _ _ ?_
        clear hK9 K9
        refine wp_block ?_
        go_loopw [4, 5] (fun x i wr => ∃ k : Nat, x = .string (bs ([UInt8.ofNat (2 : Int).toNat] ++ enc S.ints.length ++ (S.ints.take k).flatMap rgB2)) ∧ i = .int .i64 k ∧ k ≤ S.ints.length ∧ wr.heap[g1]? = some (.cells #[.bool (S.absent), .slice pI S.ints.length cI, .bool (S.co), .slice pS S.strs.length cS] 25 (0, 0)) ∧ w.grownBy wr none) (fun _ i _ => S.ints.length - (intOf i).toNat)
        case atStart => exact ⟨0, by rw [List.take_zero, List.flatMap_nil, List.append_nil], rfl, Nat.zero_le _, G1, D⟩
        case round =>
          clear D G1
          obtain ⟨k, rfl, rfl, hk, G1, D⟩ := hrel
          by_cases hlt : k < S.ints.length
          · obtain ⟨bI, oI, rfl, c0, c1⟩ := rng_cell (hI _ (below_none D)) k hlt
            refine wp_seq_k (fun K10 hK10 => ?_)
            refine wp_seq_k (fun K11 hK11 => ?_)
            refine wp_region_lit ?_
            refine wl_yield (o := ⟨_, _, _, _, _, _⟩) (.int .i64 (k : Nat)) (yl_move (by rfl) _ rfl _ rfl) ?_
            simp only [Act.put, lzA, lzB, lzC]
            refine wl_yield (o := ⟨_, _, _, _, _, _⟩) (.pointer (some ⟨g1, 1, none⟩)) (yt_fSt1 (by rfl) _ rfl g1 0 rfl) ?_
            simp only [Act.put, lzA, lzB, lzC]
            refine wl_yield (o := ⟨_, _, _, _, _, _⟩) (.slice (some ⟨bI, oI, none⟩) S.ints.length cI) (yt_ldLr (by rfl) _ rfl _ _ rfl (some ⟨bI, oI, none⟩) S.ints.length cI (fun _ h => by subst h; exact cell_heap G1 1)) ?_
            simp only [Act.put, lzA, lzB, lzC]
            refine wl_yield (o := ⟨_, _, _, _, _, _⟩) (.int .i64 (S.ints.length : Nat)) (yt_lenR (by rfl) _ rfl (some ⟨bI, oI, none⟩) S.ints.length cI rfl) ?_
            simp only [Act.put, lzA, lzB, lzC]
            refine wl_yield (o := ⟨_, _, _, _, _, _⟩) (.bool true) (yt_lssI (by rfl) _ _ _ rfl ((k : Nat) : Int) ((S.ints.length : Nat) : Int) true rfl rfl (decide_eq_true (by omega))) ?_
            simp only [Act.put, lzA, lzB, lzC]
            refine wpList_nil ?_
            refine hK11 _ _ ?_
            clear hK11 K11
            refine wp_cond_true rfl ?_
            refine wp_skip ?_
            refine hK10 _ _ ?_
            clear hK10 K10
            refine wp_seq_k (fun K12 hK12 => ?_)
            refine wp_block ?_
            have q0 : ∀ W, w.grownBy W none → W.cell? ⟨bI, oI + k * 2, none⟩ = some (.int .i64 (S.ints.getD k (0, 0)).1) ∧ W.cell? ⟨bI, oI + k * 2 + 1, none⟩ = some (.int .i64 (S.ints.getD k (0, 0)).2) := fun W k2 => by
              obtain ⟨b', o', e', d0, d1⟩ := rng_cell (hI W (below_none k2)) k hlt
              injection e' with e'
              injection e' with e1 e2 e3
              subst e1 e2
              exact ⟨d0, d1⟩
            refine wp_region_late (S := fun w' => w'.heap[g1]? = some (.cells #[.bool (S.absent), .slice (some ⟨bI, oI, none⟩) S.ints.length cI, .bool (S.co), .slice pS S.strs.length cS] 25 (0, 0)) ∧ w'.cell? ⟨bI, oI + k * 2 + 0, none⟩ = some (.int .i64 (S.ints.getD k (0, 0)).1) ∧ w'.cell? ⟨bI, oI + k * 2 + 1, none⟩ = some (.int .i64 (S.ints.getD k (0, 0)).2)) (late := fun j => [].contains j) (by kernel_rfl) ?_
            have kb : Below wr.heap.size wr wr.drew := (Below.refl _ wr).drew
            replace D := grown_below D kb
            replace G1 := heap_on G1 kb
            clear kb
            generalize wr.drew = v2 at D G1 ⊢
            refine wpAnyL_pure (i := 0) (oi := ⟨_, _, _, _, _, _⟩) (v := .string (bs ([UInt8.ofNat (2 : Int).toNat] ++ enc S.ints.length ++ (S.ints.take k).flatMap rgB2))) rfl (by kernel_rfl) (by kernel_rfl) (by kernel_rfl) (fun _ _ _ h => h) (yl_move (by rfl) _ rfl _ rfl) ?_
            simp only [Act.put, lzA, lzB, lzC]
            refine wpAnyL_pure (i := 1) (oi := ⟨_, _, _, _, _, _⟩) (v := .pointer (some ⟨g1, 1, none⟩)) rfl (by kernel_rfl) (by kernel_rfl) (by kernel_rfl) (fun _ _ _ h => h) (yt_fSt1 (by rfl) _ rfl g1 0 rfl) ?_
            simp only [Act.put, lzA, lzB, lzC]
            refine wpAnyL_load (i := 2) (oi := ⟨_, _, _, _, _, _⟩) (v := .slice (some ⟨bI, oI, none⟩) S.ints.length cI) rfl (by kernel_rfl) (by kernel_rfl) (by kernel_rfl) (by kernel_rfl) (fun _ _ _ h => h) (yt_ldLr (by rfl) _ rfl _ _ rfl (some ⟨bI, oI, none⟩) S.ints.length cI (fun _ h => cell_heap h.1 1)) ⟨G1, (q0 _ D).1, (q0 _ D).2⟩ ?_
            simp only [Act.put, lzA, lzB, lzC]
            refine wpAnyL_pure (i := 3) (oi := ⟨_, _, _, _, _, _⟩) (v := .int .i64 (k : Nat)) rfl (by kernel_rfl) (by kernel_rfl) (by kernel_rfl) (fun _ _ _ h => h) (yl_move (by rfl) _ rfl _ rfl) ?_
            simp only [Act.put, lzA, lzB, lzC]
            refine wpAnyL_pure (i := 4) (oi := ⟨_, _, _, _, _, _⟩) (v := .pointer (some ⟨bI, oI + k * 2, none⟩)) rfl (by kernel_rfl) (by kernel_rfl) (by kernel_rfl) (fun _ _ _ h => h) (yt_atR (by rfl) _ _ rfl bI oI _ _ k rfl rfl (hlt)) ?_
            simp only [Act.put, lzA, lzB, lzC]
            refine wpAnyL_pure (i := 5) (oi := ⟨_, _, _, _, _, _⟩) (v := .pointer (some ⟨bI, oI + k * 2 + 0, none⟩)) rfl (by kernel_rfl) (by kernel_rfl) (by kernel_rfl) (fun _ _ _ h => h) (yt_fRg0 (by rfl) _ rfl bI (oI + k * 2) rfl) ?_
            simp only [Act.put, lzA, lzB, lzC]
            refine wpAnyL_load (i := 6) (oi := ⟨_, _, _, _, _, _⟩) (v := .int .i64 ((S.ints.getD k (0, 0)).1)) rfl (by kernel_rfl) (by kernel_rfl) (by kernel_rfl) (by kernel_rfl) (fun _ _ _ h => h) (yt_ldI (by rfl) _ rfl _ _ rfl (S.ints.getD k (0, 0)).1 (fun _ h => h.2.1)) ⟨G1, (q0 _ D).1, (q0 _ D).2⟩ ?_
            simp only [Act.put, lzA, lzB, lzC]
            refine wpAnyL_pure (i := 8) (oi := ⟨_, _, _, _, _, _⟩) (v := .pointer (some ⟨g1, 1, none⟩)) rfl (by kernel_rfl) (by kernel_rfl) (by kernel_rfl) (fun _ _ _ h => h) (yt_fSt1 (by rfl) _ rfl g1 0 rfl) ?_
            simp only [Act.put, lzA, lzB, lzC]
            refine wpAnyL_load (i := 9) (oi := ⟨_, _, _, _, _, _⟩) (v := .slice (some ⟨bI, oI, none⟩) S.ints.length cI) rfl (by kernel_rfl) (by kernel_rfl) (by kernel_rfl) (by kernel_rfl) (fun _ _ _ h => h) (yt_ldLr (by rfl) _ rfl _ _ rfl (some ⟨bI, oI, none⟩) S.ints.length cI (fun _ h => cell_heap h.1 1)) ⟨G1, (q0 _ D).1, (q0 _ D).2⟩ ?_
            simp only [Act.put, lzA, lzB, lzC]
            refine wpAnyL_pure (i := 10) (oi := ⟨_, _, _, _, _, _⟩) (v := .int .i64 (k : Nat)) rfl (by kernel_rfl) (by kernel_rfl) (by kernel_rfl) (fun _ _ _ h => h) (yl_move (by rfl) _ rfl _ rfl) ?_
            simp only [Act.put, lzA, lzB, lzC]
            refine wpAnyL_pure (i := 11) (oi := ⟨_, _, _, _, _, _⟩) (v := .pointer (some ⟨bI, oI + k * 2, none⟩)) rfl (by kernel_rfl) (by kernel_rfl) (by kernel_rfl) (fun _ _ _ h => h) (yt_atR (by rfl) _ _ rfl bI oI _ _ k rfl rfl (hlt)) ?_
            simp only [Act.put, lzA, lzB, lzC]
            refine wpAnyL_pure (i := 12) (oi := ⟨_, _, _, _, _, _⟩) (v := .pointer (some ⟨bI, oI + k * 2 + 1, none⟩)) rfl (by kernel_rfl) (by kernel_rfl) (by kernel_rfl) (fun _ _ _ h => h) (yt_fRg1 (by rfl) _ rfl bI (oI + k * 2) rfl) ?_
            simp only [Act.put, lzA, lzB, lzC]
            refine wpAnyL_load (i := 13) (oi := ⟨_, _, _, _, _, _⟩) (v := .int .i64 ((S.ints.getD k (0, 0)).2)) rfl (by kernel_rfl) (by kernel_rfl) (by kernel_rfl) (by kernel_rfl) (fun _ _ _ h => h) (yt_ldI (by rfl) _ rfl _ _ rfl (S.ints.getD k (0, 0)).2 (fun _ h => h.2.2)) ⟨G1, (q0 _ D).1, (q0 _ D).2⟩ ?_
            simp only [Act.put, lzA, lzB, lzC]
            refine wpAnyL_all (rs := [7]) (by kernel_rfl) (by simp) ?_
            intro j hj
            have hj := List.mem_singleton.1 hj
            subst hj
            refine ot_call (o := ⟨_, _, _, _, _, _⟩) rfl (by rfl) 72 _ _ rfl #[.int .i64 ((S.ints.getD k (0, 0)).1)] rfl (run_call Tryz.func72 (by kernel_rfl) (by kernel_rfl)) ?_
            refine (c_refInt (S.ints.getD k (0, 0)).1 _ (hok.1.2 _ (getD_memA S.ints (0, 0) k hlt)).1).mono ?_
            rintro r v3 (⟨rfl, kb⟩)
            replace D := grown_below D kb
            replace G1 := heap_on G1 kb
            clear kb
            refine Or.inl ⟨.string (bs (enc (zz (S.ints.getD k (0, 0)).1))), rfl, ⟨fun _ _ => ⟨G1, (q0 _ D).1, (q0 _ D).2⟩, ?_⟩⟩
            simp only [Act.put, lzA, lzB, lzC]
            refine wpAnyL_all (rs := [14]) (by kernel_rfl) (by simp) ?_
            intro j hj
            have hj := List.mem_singleton.1 hj
            subst hj
            refine ot_call (o := ⟨_, _, _, _, _, _⟩) rfl (by rfl) 72 _ _ rfl #[.int .i64 ((S.ints.getD k (0, 0)).2)] rfl (run_call Tryz.func72 (by kernel_rfl) (by kernel_rfl)) ?_
            refine (c_refInt (S.ints.getD k (0, 0)).2 _ (hok.1.2 _ (getD_memA S.ints (0, 0) k hlt)).2).mono ?_
            rintro r v4 (⟨rfl, kb⟩)
            replace D := grown_below D kb
            replace G1 := heap_on G1 kb
            clear kb
            refine Or.inl ⟨.string (bs (enc (zz (S.ints.getD k (0, 0)).2))), rfl, ⟨fun _ _ => ⟨G1, (q0 _ D).1, (q0 _ D).2⟩, ?_⟩⟩
            simp only [Act.put, lzA, lzB, lzC]
            refine wpAnyL_pure (i := 15) (oi := ⟨_, _, _, _, _, _⟩) (v := .string (bs ((enc (zz (S.ints.getD k (0, 0)).1)) ++ (enc (zz (S.ints.getD k (0, 0)).2))))) rfl (by kernel_rfl) (by kernel_rfl) (by kernel_rfl) (fun _ _ _ h => h) (yt_cat (by rfl) _ _ _ rfl (enc (zz (S.ints.getD k (0, 0)).1)) (enc (zz (S.ints.getD k (0, 0)).2)) rfl rfl (by (try simp only [List.length_append, List.length_cons, List.length_nil]); first | omega | (have q1 := hr k; first | omega | (have q2 := rgB_le (hok.1.2 _ (getD_memA S.ints (0, 0) k hlt)); unfold rgB2 at q2; rw [List.length_append] at q2; omega)) | (have q1 := hr S.ints.length; first | omega | (have q3 := hs k; first | omega | (have q4 := stB_le (hok.2.2 _ (getD_memA S.strs ⟨#[]⟩ k hlt)); omega)) | (have q3 := hs S.strs.length; omega)))) ?_
            simp only [Act.put, lzA, lzB, lzC]
            refine wpAnyL_pure (i := 16) (oi := ⟨_, _, _, _, _, _⟩) (v := .string (bs (([UInt8.ofNat (2 : Int).toNat] ++ enc S.ints.length ++ (S.ints.take k).flatMap rgB2) ++ ((enc (zz (S.ints.getD k (0, 0)).1)) ++ (enc (zz (S.ints.getD k (0, 0)).2)))))) rfl (by kernel_rfl) (by kernel_rfl) (by kernel_rfl) (fun _ _ _ h => h) (yt_cat (by rfl) _ _ _ rfl ([UInt8.ofNat (2 : Int).toNat] ++ enc S.ints.length ++ (S.ints.take k).flatMap rgB2) ((enc (zz (S.ints.getD k (0, 0)).1)) ++ (enc (zz (S.ints.getD k (0, 0)).2))) rfl rfl (by (try simp only [List.length_append, List.length_cons, List.length_nil]); first | omega | (have q1 := hr k; first | omega | (have q2 := rgB_le (hok.1.2 _ (getD_memA S.ints (0, 0) k hlt)); unfold rgB2 at q2; rw [List.length_append] at q2; omega)) | (have q1 := hr S.ints.length; first | omega | (have q3 := hs k; first | omega | (have q4 := stB_le (hok.2.2 _ (getD_memA S.strs ⟨#[]⟩ k hlt)); omega)) | (have q3 := hs S.strs.length; omega)))) ?_
            simp only [Act.put, lzA, lzB, lzC]
            refine wpAnyL_pure (i := 17) (oi := ⟨_, _, _, _, _, _⟩) (v := .string (bs (([UInt8.ofNat (2 : Int).toNat] ++ enc S.ints.length ++ (S.ints.take k).flatMap rgB2) ++ ((enc (zz (S.ints.getD k (0, 0)).1)) ++ (enc (zz (S.ints.getD k (0, 0)).2)))))) rfl (by kernel_rfl) (by kernel_rfl) (by kernel_rfl) (fun _ _ _ h => h) (yl_assign (by rfl) _ rfl _ rfl) ?_
            simp only [Act.put, lzA, lzB, lzC]
            refine wpAnyL_done (by kernel_rfl) ?_ _
            refine hK12 _ _ ?_
            clear hK12 K12
            refine wp_region_lit ?_
            refine wl_yield (o := ⟨_, _, _, _, _, _⟩) (.int .i64 (k : Nat)) (yl_move (by rfl) _ rfl _ rfl) ?_
            simp only [Act.put, lzA, lzB, lzC]
            refine wl_yield (o := ⟨_, _, _, _, _, _⟩) (.int .i64 (k + 1 : Nat)) (yt_addI (by rfl) _ _ _ rfl ((k : Nat) : Int) 1 ((k + 1 : Nat) : Int) rfl rfl (by omega) (by omega) (by omega)) ?_
            simp only [Act.put, lzA, lzB, lzC]
            refine wl_yield (o := ⟨_, _, _, _, _, _⟩) (.int .i64 (k + 1 : Nat)) (yl_assign (by rfl) _ rfl _ rfl) ?_
            simp only [Act.put, lzA, lzB, lzC]
            refine wpList_nil ?_
            show _ ∧ _
            go_roundw
            case rel => exact ⟨k + 1, by rw [take_step rgB2 (0, 0) S.ints k hlt]; simp only [rgB2, List.append_assoc], rfl, by omega, G1, D⟩
            case measure => simp [intOf]; omega
          · obtain rfl : k = S.ints.length := by omega
            refine wp_seq_k (fun K10 hK10 => ?_)
            refine wp_seq_k (fun K11 hK11 => ?_)
            refine wp_region_lit ?_
            refine wl_yield (o := ⟨_, _, _, _, _, _⟩) (.int .i64 (S.ints.length : Nat)) (yl_move (by rfl) _ rfl _ rfl) ?_
            simp only [Act.put, lzA, lzB, lzC]
            refine wl_yield (o := ⟨_, _, _, _, _, _⟩) (.pointer (some ⟨g1, 1, none⟩)) (yt_fSt1 (by rfl) _ rfl g1 0 rfl) ?_
            simp only [Act.put, lzA, lzB, lzC]
            refine wl_yield (o := ⟨_, _, _, _, _, _⟩) (.slice pI S.ints.length cI) (yt_ldLr (by rfl) _ rfl _ _ rfl pI S.ints.length cI (fun _ h => by subst h; exact cell_heap G1 1)) ?_
            simp only [Act.put, lzA, lzB, lzC]
            refine wl_yield (o := ⟨_, _, _, _, _, _⟩) (.int .i64 (S.ints.length : Nat)) (yt_lenR (by rfl) _ rfl pI S.ints.length cI rfl) ?_
            simp only [Act.put, lzA, lzB, lzC]
            refine wl_yield (o := ⟨_, _, _, _, _, _⟩) (.bool false) (yt_lssI (by rfl) _ _ _ rfl ((S.ints.length : Nat) : Int) ((S.ints.length : Nat) : Int) false rfl rfl (decide_eq_false (by omega))) ?_
            simp only [Act.put, lzA, lzB, lzC]
            refine wpList_nil ?_
            refine hK11 _ _ ?_
            clear hK11 K11
            refine wp_cond_false rfl ?_
            refine wp_exit ?_
            refine hK8 _ _ ?_
            clear hK10 K10 hK8 K8
            refine wp_seq_k (fun K12 hK12 => ?_)
            refine wp_region_lit ?_
            refine wl_yield (o := ⟨_, _, _, _, _, _⟩) (.string (bs ([UInt8.ofNat (2 : Int).toNat] ++ enc S.ints.length ++ (S.ints.take S.ints.length).flatMap rgB2))) (yl_move (by rfl) _ rfl _ rfl) ?_
            simp only [Act.put, lzA, lzB, lzC]
            refine wl_yield (o := ⟨_, _, _, _, _, _⟩) (.pointer (some ⟨g1, 3, none⟩)) (yt_fSt3 (by rfl) _ rfl g1 0 rfl) ?_
            simp only [Act.put, lzA, lzB, lzC]
            refine wl_yield (o := ⟨_, _, _, _, _, _⟩) (.slice pS S.strs.length cS) (yt_ldLs (by rfl) _ rfl _ _ rfl pS S.strs.length cS (fun _ h => by subst h; exact cell_heap G1 3)) ?_
            simp only [Act.put, lzA, lzB, lzC]
            refine wl_yield (o := ⟨_, _, _, _, _, _⟩) (.int .i64 (S.strs.length : Nat)) (yt_lenT (by rfl) _ rfl pS S.strs.length cS rfl) ?_
            simp only [Act.put, lzA, lzB, lzC]
            refine wl_yield (o := ⟨_, _, _, _, _, _⟩) (.int .u64 ((S.strs.length : Nat) : Int)) (yw_iu (by rfl) _ rfl ((S.strs.length : Nat) : Int) rfl (by omega) (by omega)) ?_
            simp only [Act.put, lzA, lzB, lzC]
            refine wt_call (o := ⟨_, _, _, _, _, _⟩) (by rfl) 62 _ _ rfl #[.int .u64 ((S.strs.length : Nat) : Int)] rfl (run_call Tryz.func62 (by kernel_rfl) (by kernel_rfl)) ?_
            refine (c_refUint S.strs.length _ (by omega)).mono ?_
            rintro r v2 ⟨rfl, kb⟩
            replace D := grown_below D kb
            replace G1 := heap_on G1 kb
            clear kb
            refine Or.inl ⟨.string (bs (enc S.strs.length)), rfl, ?_⟩
            simp only [Act.put, lzA, lzB, lzC]
            refine wl_yield (o := ⟨_, _, _, _, _, _⟩) (.string (bs (([UInt8.ofNat (2 : Int).toNat] ++ enc S.ints.length ++ (S.ints.take S.ints.length).flatMap rgB2) ++ (enc S.strs.length)))) (yt_cat (by rfl) _ _ _ rfl ([UInt8.ofNat (2 : Int).toNat] ++ enc S.ints.length ++ (S.ints.take S.ints.length).flatMap rgB2) (enc S.strs.length) rfl rfl (by (try simp only [List.length_append, List.length_cons, List.length_nil]); first | omega | (have q1 := hr k; first | omega | (have q2 := rgB_le (hok.1.2 _ (getD_memA S.ints (0, 0) k hlt)); unfold rgB2 at q2; rw [List.length_append] at q2; omega)) | (have q1 := hr S.ints.length; first | omega | (have q3 := hs k; first | omega | (have q4 := stB_le (hok.2.2 _ (getD_memA S.strs ⟨#[]⟩ k hlt)); omega)) | (have q3 := hs S.strs.length; omega)))) ?_
            simp only [Act.put, lzA, lzB, lzC]
            refine wl_yield (o := ⟨_, _, _, _, _, _⟩) (.string (bs (([UInt8.ofNat (2 : Int).toNat] ++ enc S.ints.length ++ (S.ints.take S.ints.length).flatMap rgB2) ++ (enc S.strs.length)))) (yl_assign (by rfl) _ rfl _ rfl) ?_
            simp only [Act.put, lzA, lzB, lzC]
            refine wpList_nil ?_
            refine hK12 _ _ ?_
            clear hK12 K12
            refine wp_seq_k (fun K13 hK13 => ?_)
            refine wp_seq_k (fun K14 hK14 => ?_)
            refine wp_region_lit ?_
            refine wl_yield (o := ⟨_, _, _, _, _, _⟩) (.int .i64 0) (yl_assign (by rfl) _ rfl _ rfl) ?_
            simp only [Act.put, lzA, lzB, lzC]
            refine wpList_nil ?_
            refine hK14 _ _ ?_
            clear hK14 K14
            refine wp_block ?_
            go_loopw [4, 6] (fun x i wr => ∃ k : Nat, x = .string (bs (([UInt8.ofNat (2 : Int).toNat] ++ enc S.ints.length ++ (S.ints.take S.ints.length).flatMap rgB2) ++ enc S.strs.length ++ (S.strs.take k).flatMap stB2)) ∧ i = .int .i64 k ∧ k ≤ S.strs.length ∧ wr.heap[g1]? = some (.cells #[.bool (S.absent), .slice pI S.ints.length cI, .bool (S.co), .slice pS S.strs.length cS] 25 (0, 0)) ∧ w.grownBy wr none) (fun _ i _ => S.strs.length - (intOf i).toNat)
            case atStart => exact ⟨0, by rw [List.take_zero, List.flatMap_nil, List.append_nil], rfl, Nat.zero_le _, G1, D⟩
            case round =>
              clear D G1
              obtain ⟨k, rfl, rfl, hk, G1, D⟩ := hrel
              by_cases hlt : k < S.strs.length
              · obtain ⟨bS, oS, rfl, c0⟩ := str_cell (hT _ (below_none D)) k hlt
                refine wp_seq_k (fun K15 hK15 => ?_)
                refine wp_seq_k (fun K16 hK16 => ?_)
                refine wp_region_lit ?_
                refine wl_yield (o := ⟨_, _, _, _, _, _⟩) (.int .i64 (k : Nat)) (yl_move (by rfl) _ rfl _ rfl) ?_
                simp only [Act.put, lzA, lzB, lzC]
                refine wl_yield (o := ⟨_, _, _, _, _, _⟩) (.pointer (some ⟨g1, 3, none⟩)) (yt_fSt3 (by rfl) _ rfl g1 0 rfl) ?_
                simp only [Act.put, lzA, lzB, lzC]
                refine wl_yield (o := ⟨_, _, _, _, _, _⟩) (.slice (some ⟨bS, oS, none⟩) S.strs.length cS) (yt_ldLs (by rfl) _ rfl _ _ rfl (some ⟨bS, oS, none⟩) S.strs.length cS (fun _ h => by subst h; exact cell_heap G1 3)) ?_
                simp only [Act.put, lzA, lzB, lzC]
                refine wl_yield (o := ⟨_, _, _, _, _, _⟩) (.int .i64 (S.strs.length : Nat)) (yt_lenT (by rfl) _ rfl (some ⟨bS, oS, none⟩) S.strs.length cS rfl) ?_
                simp only [Act.put, lzA, lzB, lzC]
                refine wl_yield (o := ⟨_, _, _, _, _, _⟩) (.bool true) (yt_lssI (by rfl) _ _ _ rfl ((k : Nat) : Int) ((S.strs.length : Nat) : Int) true rfl rfl (decide_eq_true (by omega))) ?_
                simp only [Act.put, lzA, lzB, lzC]
                refine wpList_nil ?_
                refine hK16 _ _ ?_
                clear hK16 K16
                refine wp_cond_true rfl ?_
                refine wp_skip ?_
                refine hK15 _ _ ?_
                clear hK15 K15
                refine wp_seq_k (fun K17 hK17 => ?_)
                refine wp_block ?_
                refine wp_region_lit ?_
                refine wl_yield (o := ⟨_, _, _, _, _, _⟩) (.string (bs (([UInt8.ofNat (2 : Int).toNat] ++ enc S.ints.length ++ (S.ints.take S.ints.length).flatMap rgB2) ++ enc S.strs.length ++ (S.strs.take k).flatMap stB2))) (yl_move (by rfl) _ rfl _ rfl) ?_
                simp only [Act.put, lzA, lzB, lzC]
                refine wl_yield (o := ⟨_, _, _, _, _, _⟩) (.pointer (some ⟨g1, 3, none⟩)) (yt_fSt3 (by rfl) _ rfl g1 0 rfl) ?_
                simp only [Act.put, lzA, lzB, lzC]
                refine wl_yield (o := ⟨_, _, _, _, _, _⟩) (.slice (some ⟨bS, oS, none⟩) S.strs.length cS) (yt_ldLs (by rfl) _ rfl _ _ rfl (some ⟨bS, oS, none⟩) S.strs.length cS (fun _ h => by subst h; exact cell_heap G1 3)) ?_
                simp only [Act.put, lzA, lzB, lzC]
                refine wl_yield (o := ⟨_, _, _, _, _, _⟩) (.int .i64 (k : Nat)) (yl_move (by rfl) _ rfl _ rfl) ?_
                simp only [Act.put, lzA, lzB, lzC]
                refine wl_yield (o := ⟨_, _, _, _, _, _⟩) (.pointer (some ⟨bS, oS + k * 1, none⟩)) (yt_atT (by rfl) _ _ rfl bS oS _ _ k rfl rfl (hlt)) ?_
                simp only [Act.put, lzA, lzB, lzC]
                refine wl_yield (o := ⟨_, _, _, _, _, _⟩) (.string (S.strs.getD k ⟨#[]⟩)) (yt_ldS (by rfl) _ rfl _ _ rfl (S.strs.getD k ⟨#[]⟩) (fun _ h => by subst h; exact c0)) ?_
                simp only [Act.put, lzA, lzB, lzC]
                refine wt_call (o := ⟨_, _, _, _, _, _⟩) (by rfl) 73 _ _ rfl #[.string (S.strs.getD k ⟨#[]⟩)] rfl (run_call Tryz.func73 (by kernel_rfl) (by kernel_rfl)) ?_
                refine (c_refStr (S.strs.getD k ⟨#[]⟩) _ (hok.2.2 _ (getD_memA S.strs ⟨#[]⟩ k hlt))).mono ?_
                rintro r v3 ⟨rfl, kb⟩
                replace D := grown_below D kb
                replace G1 := heap_on G1 kb
                clear kb
                refine Or.inl ⟨.string (bs (stB2 (S.strs.getD k ⟨#[]⟩))), rfl, ?_⟩
                simp only [Act.put, lzA, lzB, lzC]
                refine wl_yield (o := ⟨_, _, _, _, _, _⟩) (.string (bs ((([UInt8.ofNat (2 : Int).toNat] ++ enc S.ints.length ++ (S.ints.take S.ints.length).flatMap rgB2) ++ enc S.strs.length ++ (S.strs.take k).flatMap stB2) ++ (stB2 (S.strs.getD k ⟨#[]⟩))))) (yt_cat (by rfl) _ _ _ rfl (([UInt8.ofNat (2 : Int).toNat] ++ enc S.ints.length ++ (S.ints.take S.ints.length).flatMap rgB2) ++ enc S.strs.length ++ (S.strs.take k).flatMap stB2) (stB2 (S.strs.getD k ⟨#[]⟩)) rfl rfl (by (try simp only [List.length_append, List.length_cons, List.length_nil]); first | omega | (have q1 := hr k; first | omega | (have q2 := rgB_le (hok.1.2 _ (getD_memA S.ints (0, 0) k hlt)); unfold rgB2 at q2; rw [List.length_append] at q2; omega)) | (have q1 := hr S.ints.length; first | omega | (have q3 := hs k; first | omega | (have q4 := stB_le (hok.2.2 _ (getD_memA S.strs ⟨#[]⟩ k hlt)); omega)) | (have q3 := hs S.strs.length; omega)))) ?_
                simp only [Act.put, lzA, lzB, lzC]
                refine wl_yield (o := ⟨_, _, _, _, _, _⟩) (.string (bs ((([UInt8.ofNat (2 : Int).toNat] ++ enc S.ints.length ++ (S.ints.take S.ints.length).flatMap rgB2) ++ enc S.strs.length ++ (S.strs.take k).flatMap stB2) ++ (stB2 (S.strs.getD k ⟨#[]⟩))))) (yl_assign (by rfl) _ rfl _ rfl) ?_
                simp only [Act.put, lzA, lzB, lzC]
                refine wpList_nil ?_
                refine hK17 _ _ ?_
                clear hK17 K17
                refine wp_region_lit ?_
                refine wl_yield (o := ⟨_, _, _, _, _, _⟩) (.int .i64 (k : Nat)) (yl_move (by rfl) _ rfl _ rfl) ?_
                simp only [Act.put, lzA, lzB, lzC]
                refine wl_yield (o := ⟨_, _, _, _, _, _⟩) (.int .i64 (k + 1 : Nat)) (yt_addI (by rfl) _ _ _ rfl ((k : Nat) : Int) 1 ((k + 1 : Nat) : Int) rfl rfl (by omega) (by omega) (by omega)) ?_
                simp only [Act.put, lzA, lzB, lzC]
                refine wl_yield (o := ⟨_, _, _, _, _, _⟩) (.int .i64 (k + 1 : Nat)) (yl_assign (by rfl) _ rfl _ rfl) ?_
                simp only [Act.put, lzA, lzB, lzC]
                refine wpList_nil ?_
                show _ ∧ _
                go_roundw
                case rel => exact ⟨k + 1, by rw [take_step stB2 ⟨#[]⟩ S.strs k hlt]; simp only [rgB2, List.append_assoc], rfl, by omega, G1, D⟩
                case measure => simp [intOf]; omega
              · obtain rfl : k = S.strs.length := by omega
                refine wp_seq_k (fun K15 hK15 => ?_)
                refine wp_seq_k (fun K16 hK16 => ?_)
                refine wp_region_lit ?_
                refine wl_yield (o := ⟨_, _, _, _, _, _⟩) (.int .i64 (S.strs.length : Nat)) (yl_move (by rfl) _ rfl _ rfl) ?_
                simp only [Act.put, lzA, lzB, lzC]
                refine wl_yield (o := ⟨_, _, _, _, _, _⟩) (.pointer (some ⟨g1, 3, none⟩)) (yt_fSt3 (by rfl) _ rfl g1 0 rfl) ?_
                simp only [Act.put, lzA, lzB, lzC]
                refine wl_yield (o := ⟨_, _, _, _, _, _⟩) (.slice pS S.strs.length cS) (yt_ldLs (by rfl) _ rfl _ _ rfl pS S.strs.length cS (fun _ h => by subst h; exact cell_heap G1 3)) ?_
                simp only [Act.put, lzA, lzB, lzC]
                refine wl_yield (o := ⟨_, _, _, _, _, _⟩) (.int .i64 (S.strs.length : Nat)) (yt_lenT (by rfl) _ rfl pS S.strs.length cS rfl) ?_
                simp only [Act.put, lzA, lzB, lzC]
                refine wl_yield (o := ⟨_, _, _, _, _, _⟩) (.bool false) (yt_lssI (by rfl) _ _ _ rfl ((S.strs.length : Nat) : Int) ((S.strs.length : Nat) : Int) false rfl rfl (decide_eq_false (by omega))) ?_
                simp only [Act.put, lzA, lzB, lzC]
                refine wpList_nil ?_
                refine hK16 _ _ ?_
                clear hK16 K16
                refine wp_cond_false rfl ?_
                refine wp_exit ?_
                refine hK13 _ _ ?_
                clear hK15 K15 hK13 K13
                refine wp_seq_k (fun K17 hK17 => ?_)
                refine wp_region_lit ?_
                refine wl_yield (o := ⟨_, _, _, _, _, _⟩) (.string (bs (([UInt8.ofNat (2 : Int).toNat] ++ enc S.ints.length ++ (S.ints.take S.ints.length).flatMap rgB2) ++ enc S.strs.length ++ (S.strs.take S.strs.length).flatMap stB2))) (yl_move (by rfl) _ rfl _ rfl) ?_
                simp only [Act.put, lzA, lzB, lzC]
                refine wl_yield (o := ⟨_, _, _, _, _, _⟩) (.string (bs (([UInt8.ofNat (2 : Int).toNat] ++ enc S.ints.length ++ (S.ints.take S.ints.length).flatMap rgB2) ++ enc S.strs.length ++ (S.strs.take S.strs.length).flatMap stB2))) (yl_assign (by rfl) _ rfl _ rfl) ?_
                simp only [Act.put, lzA, lzB, lzC]
                refine wpList_nil ?_
                refine hK17 _ _ ?_
                clear hK17 K17
                refine wp_ret ?_
                try simp only [Exit.inBlock, Exit.then]
                have hd := set_done8 (S := S) (k := 2) (by unfold flagS; rw [hab, hco]; try rfl)
                go_ret
                exact ⟨congrArg (fun z => Ending.returned (.string (bs z))) (by rw [← hd]), below_none D⟩
      refine wp_region_late (S := fun w' => w'.heap[g1]? = some (.cells #[.bool (S.absent), .slice pI S.ints.length cI, .bool (S.co), .slice pS S.strs.length cS] 25 (0, 0))) (late := fun j => [].contains j) (by kernel_rfl) ?_
      have kb : Below v1.heap.size v1 v1.drew := (Below.refl _ v1).drew
      replace D := grown_below D kb
      replace G1 := heap_on G1 kb
      clear kb
      generalize v1.drew = v2 at D G1 ⊢
      refine wpAnyL_pure (i := 0) (oi := ⟨_, _, _, _, _, _⟩) (v := .int .i64 2) rfl (by kernel_rfl) (by kernel_rfl) (by kernel_rfl) (fun _ _ _ h => h) (yl_move (by rfl) _ rfl _ rfl) ?_
      simp only [Act.put, lzA, lzB, lzC]
      refine wpAnyL_pure (i := 1) (oi := ⟨_, _, _, _, _, _⟩) (v := .int .u8 2) rfl (by kernel_rfl) (by kernel_rfl) (by kernel_rfl) (fun _ _ _ h => h) (yw_iy (by rfl) _ rfl 2 rfl (by decide) (by decide)) ?_
      simp only [Act.put, lzA, lzB, lzC]
      refine wpAnyL_pure (i := 4) (oi := ⟨_, _, _, _, _, _⟩) (v := .pointer (some ⟨g1, 1, none⟩)) rfl (by kernel_rfl) (by kernel_rfl) (by kernel_rfl) (fun _ _ _ h => h) (yt_fSt1 (by rfl) _ rfl g1 0 rfl) ?_
      simp only [Act.put, lzA, lzB, lzC]
      refine wpAnyL_load (i := 5) (oi := ⟨_, _, _, _, _, _⟩) (v := .slice pI S.ints.length cI) rfl (by kernel_rfl) (by kernel_rfl) (by kernel_rfl) (by kernel_rfl) (fun _ _ _ h => h) (yt_ldLr (by rfl) _ rfl _ _ rfl pI S.ints.length cI (fun _ h => cell_heap h 1)) G1 ?_
      simp only [Act.put, lzA, lzB, lzC]
      refine wpAnyL_pure (i := 6) (oi := ⟨_, _, _, _, _, _⟩) (v := .int .i64 (S.ints.length : Nat)) rfl (by kernel_rfl) (by kernel_rfl) (by kernel_rfl) (fun _ _ _ h => h) (yt_lenR (by rfl) _ rfl pI S.ints.length cI rfl) ?_
      simp only [Act.put, lzA, lzB, lzC]
      refine wpAnyL_pure (i := 7) (oi := ⟨_, _, _, _, _, _⟩) (v := .int .u64 ((S.ints.length : Nat) : Int)) rfl (by kernel_rfl) (by kernel_rfl) (by kernel_rfl) (fun _ _ _ h => h) (yw_iu (by rfl) _ rfl ((S.ints.length : Nat) : Int) rfl (by omega) (by omega)) ?_
      simp only [Act.put, lzA, lzB, lzC]
      refine wpAnyL_all (rs := [2, 8]) (by kernel_rfl) (by simp) ?_
      intro j hj
      simp only [List.mem_cons, List.not_mem_nil, or_false] at hj
      rcases hj with rfl | rfl
      · refine ot_row1Y (o := ⟨_, _, _, _, _, _⟩) rfl (by rfl) _ rfl 2 rfl (fun v3 g3 hg G3 kb => ?_)
        have n_g1_g3 : g1 ≠ g3 := by have := lt_heap G1; omega
        have ge_g3 : w.heap.size ≤ g3 := Nat.le_trans D.size hg
        clear hg
        replace D := grown_below D kb
        replace G1 := heap_on G1 kb
        clear kb
        refine ⟨fun _ _ => G1, ?_⟩
        simp only [Act.put, lzA, lzB, lzC]
        refine wpAnyL_all (rs := [3, 8]) (by kernel_rfl) (by simp) ?_
        intro j hj
        simp only [List.mem_cons, List.not_mem_nil, or_false] at hj
        rcases hj with rfl | rfl
        · refine ot_conv1 (o := ⟨_, _, _, _, _, _⟩) rfl (by rfl) _ rfl g3 rfl 2 (by decide) (by decide) G3 ?_
          refine ⟨fun _ _ => G1, ?_⟩
          simp only [Act.put, lzA, lzB, lzC]
          refine wpAnyL_all (rs := [8]) (by kernel_rfl) (by simp) ?_
          intro j hj
          have hj := List.mem_singleton.1 hj
          subst hj
          refine ot_call (o := ⟨_, _, _, _, _, _⟩) rfl (by rfl) 62 _ _ rfl #[.int .u64 ((S.ints.length : Nat) : Int)] rfl (run_call Tryz.func62 (by kernel_rfl) (by kernel_rfl)) ?_
          refine (c_refUint S.ints.length _ (by omega)).mono ?_
          rintro r v4 (⟨rfl, kb⟩)
          replace D := grown_below D kb
          replace G1 := heap_on G1 kb
          replace G3 := heap_on G3 kb
          clear kb
          refine Or.inl ⟨.string (bs (enc S.ints.length)), rfl, ⟨fun _ _ => G1, ?_⟩⟩
          simp only [Act.put, lzA, lzB, lzC]
          refine wpAnyL_pure (i := 9) (oi := ⟨_, _, _, _, _, _⟩) (v := .string (bs (([UInt8.ofNat (2 : Int).toNat]) ++ (enc S.ints.length)))) rfl (by kernel_rfl) (by kernel_rfl) (by kernel_rfl) (fun _ _ _ h => h) (yt_cat (by rfl) _ _ _ rfl ([UInt8.ofNat (2 : Int).toNat]) (enc S.ints.length) rfl rfl (by (try simp only [List.length_append, List.length_cons, List.length_nil]); first | omega | (have q1 := hr k; first | omega | (have q2 := rgB_le (hok.1.2 _ (getD_memA S.ints (0, 0) k hlt)); unfold rgB2 at q2; rw [List.length_append] at q2; omega)) | (have q1 := hr S.ints.length; first | omega | (have q3 := hs k; first | omega | (have q4 := stB_le (hok.2.2 _ (getD_memA S.strs ⟨#[]⟩ k hlt)); omega)) | (have q3 := hs S.strs.length; omega)))) ?_
          simp only [Act.put, lzA, lzB, lzC]
          refine wpAnyL_pure (i := 10) (oi := ⟨_, _, _, _, _, _⟩) (v := .string (bs (([UInt8.ofNat (2 : Int).toNat]) ++ (enc S.ints.length)))) rfl (by kernel_rfl) (by kernel_rfl) (by kernel_rfl) (fun _ _ _ h => h) (yl_assign (by rfl) _ rfl _ rfl) ?_
          simp only [Act.put, lzA, lzB, lzC]
          refine wpAnyL_done (by kernel_rfl) ?_ _
          exact NEXT _ _ G1 D
        · refine ot_call (o := ⟨_, _, _, _, _, _⟩) rfl (by rfl) 62 _ _ rfl #[.int .u64 ((S.ints.length : Nat) : Int)] rfl (run_call Tryz.func62 (by kernel_rfl) (by kernel_rfl)) ?_
          refine (c_refUint S.ints.length _ (by omega)).mono ?_
          rintro r v4 (⟨rfl, kb⟩)
          replace D := grown_below D kb
          replace G1 := heap_on G1 kb
          replace G3 := heap_on G3 kb
          clear kb
          refine Or.inl ⟨.string (bs (enc S.ints.length)), rfl, ⟨fun _ _ => G1, ?_⟩⟩
          simp only [Act.put, lzA, lzB, lzC]
          refine wpAnyL_all (rs := [3]) (by kernel_rfl) (by simp) ?_
          intro j hj
          have hj := List.mem_singleton.1 hj
          subst hj
          refine ot_conv1 (o := ⟨_, _, _, _, _, _⟩) rfl (by rfl) _ rfl g3 rfl 2 (by decide) (by decide) G3 ?_
          refine ⟨fun _ _ => G1, ?_⟩
          simp only [Act.put, lzA, lzB, lzC]
          refine wpAnyL_pure (i := 9) (oi := ⟨_, _, _, _, _, _⟩) (v := .string (bs (([UInt8.ofNat (2 : Int).toNat]) ++ (enc S.ints.length)))) rfl (by kernel_rfl) (by kernel_rfl) (by kernel_rfl) (fun _ _ _ h => h) (yt_cat (by rfl) _ _ _ rfl ([UInt8.ofNat (2 : Int).toNat]) (enc S.ints.length) rfl rfl (by (try simp only [List.length_append, List.length_cons, List.length_nil]); first | omega | (have q1 := hr k; first | omega | (have q2 := rgB_le (hok.1.2 _ (getD_memA S.ints (0, 0) k hlt)); unfold rgB2 at q2; rw [List.length_append] at q2; omega)) | (have q1 := hr S.ints.length; first | omega | (have q3 := hs k; first | omega | (have q4 := stB_le (hok.2.2 _ (getD_memA S.strs ⟨#[]⟩ k hlt)); omega)) | (have q3 := hs S.strs.length; omega)))) ?_
          simp only [Act.put, lzA, lzB, lzC]
          refine wpAnyL_pure (i := 10) (oi := ⟨_, _, _, _, _, _⟩) (v := .string (bs (([UInt8.ofNat (2 : Int).toNat]) ++ (enc S.ints.length)))) rfl (by kernel_rfl) (by kernel_rfl) (by kernel_rfl) (fun _ _ _ h => h) (yl_assign (by rfl) _ rfl _ rfl) ?_
          simp only [Act.put, lzA, lzB, lzC]
          refine wpAnyL_done (by kernel_rfl) ?_ _
          exact NEXT _ _ G1 D
      · refine ot_call (o := ⟨_, _, _, _, _, _⟩) rfl (by rfl) 62 _ _ rfl #[.int .u64 ((S.ints.length : Nat) : Int)] rfl (run_call Tryz.func62 (by kernel_rfl) (by kernel_rfl)) ?_
        refine (c_refUint S.ints.length _ (by omega)).mono ?_
        rintro r v3 (⟨rfl, kb⟩)
        replace D := grown_below D kb
        replace G1 := heap_on G1 kb
        clear kb
        refine Or.inl ⟨.string (bs (enc S.ints.length)), rfl, ⟨fun _ _ => G1, ?_⟩⟩
        simp only [Act.put, lzA, lzB, lzC]
        refine wpAnyL_all (rs := [2]) (by kernel_rfl) (by simp) ?_
        intro j hj
        have hj := List.mem_singleton.1 hj
        subst hj
        refine ot_row1Y (o := ⟨_, _, _, _, _, _⟩) rfl (by rfl) _ rfl 2 rfl (fun v4 g4 hg G4 kb => ?_)
        have n_g1_g4 : g1 ≠ g4 := by have := lt_heap G1; omega
        have ge_g4 : w.heap.size ≤ g4 := Nat.le_trans D.size hg
        clear hg
        replace D := grown_below D kb
        replace G1 := heap_on G1 kb
        clear kb
        refine ⟨fun _ _ => G1, ?_⟩
        simp only [Act.put, lzA, lzB, lzC]
        refine wpAnyL_all (rs := [3]) (by kernel_rfl) (by simp) ?_
        intro j hj
        have hj := List.mem_singleton.1 hj
        subst hj
        refine ot_conv1 (o := ⟨_, _, _, _, _, _⟩) rfl (by rfl) _ rfl g4 rfl 2 (by decide) (by decide) G4 ?_
        refine ⟨fun _ _ => G1, ?_⟩
        simp only [Act.put, lzA, lzB, lzC]
        refine wpAnyL_pure (i := 9) (oi := ⟨_, _, _, _, _, _⟩) (v := .string (bs (([UInt8.ofNat (2 : Int).toNat]) ++ (enc S.ints.length)))) rfl (by kernel_rfl) (by kernel_rfl) (by kernel_rfl) (fun _ _ _ h => h) (yt_cat (by rfl) _ _ _ rfl ([UInt8.ofNat (2 : Int).toNat]) (enc S.ints.length) rfl rfl (by (try simp only [List.length_append, List.length_cons, List.length_nil]); first | omega | (have q1 := hr k; first | omega | (have q2 := rgB_le (hok.1.2 _ (getD_memA S.ints (0, 0) k hlt)); unfold rgB2 at q2; rw [List.length_append] at q2; omega)) | (have q1 := hr S.ints.length; first | omega | (have q3 := hs k; first | omega | (have q4 := stB_le (hok.2.2 _ (getD_memA S.strs ⟨#[]⟩ k hlt)); omega)) | (have q3 := hs S.strs.length; omega)))) ?_
        simp only [Act.put, lzA, lzB, lzC]
        refine wpAnyL_pure (i := 10) (oi := ⟨_, _, _, _, _, _⟩) (v := .string (bs (([UInt8.ofNat (2 : Int).toNat]) ++ (enc S.ints.length)))) rfl (by kernel_rfl) (by kernel_rfl) (by kernel_rfl) (fun _ _ _ h => h) (yl_assign (by rfl) _ rfl _ rfl) ?_
        simp only [Act.put, lzA, lzB, lzC]
        refine wpAnyL_done (by kernel_rfl) ?_ _
        exact NEXT _ _ G1 D
    · have hco : S.co = false := hc
      clear hc
      refine wp_skip ?_
      refine hK5 _ _ ?_
      clear hK5 K5
      refine wp_seq_k (fun K7 hK7 => ?_)
      have NEXT : ∀ (W : World) (gY : Nat), W.heap[g1]? = some (.cells #[.bool (S.absent), .slice pI S.ints.length cI, .bool (S.co), .slice pS S.strs.length cS] 25 (0, 0)) → w.grownBy W none → K7 ⟨#[.agg #[.bool (S.absent), .slice pI S.ints.length cI, .bool (S.co), .slice pS S.strs.length cS], .pointer (some ⟨g1, 0, none⟩), .string (bs ([])), .int .i64 0, .string (bs ([UInt8.ofNat (0 : Int).toNat] ++ enc S.ints.length)), undef, undef, .pointer (some ⟨g1, 0, none⟩), .bool (S.absent), undef, undef, .pointer (some ⟨g1, 2, none⟩), .bool (S.co), undef, undef, .int .i64 0, .int .u8 0, .slice (some ⟨gY, 0, none⟩) 1 1, .string (bs ([UInt8.ofNat (0 : Int).toNat])), .pointer (some ⟨g1, 1, none⟩), .slice pI S.ints.length cI, .int .i64 (S.ints.length : Nat), .int .u64 ((S.ints.length : Nat) : Int), .string (bs (enc S.ints.length)), .string (bs ([UInt8.ofNat (0 : Int).toNat] ++ enc S.ints.length)), undef, undef, undef, undef, undef, undef, undef, undef, undef, undef, undef, undef, undef, undef, undef, undef, undef, undef, undef, undef, undef, undef, undef, undef, undef, undef, undef, undef, undef, undef, undef, undef, undef, undef, undef, undef, undef, undef, undef, undef, undef, undef, undef, undef, undef, undef, undef], []⟩ W := by
        intro W gY G1 D
        refine hK7 _ _ ?_
        clear hK7 K7
        refine wp_seq_k (fun K8 hK8 => ?_)
        refine wp_seq_k (fun K9 hK9 => ?_)
        refine wp_region_lit ?_
        refine wl_yield (o := ⟨_, _, _, _, _, _⟩) (.int .i64 0) (yl_assign (by rfl) _ rfl _ rfl) ?_
        simp only [Act.put, lzA, lzB, lzC]
        refine wpList_nil ?_
        refine hK9 _ _ ?_
        clear hK9 K9
        refine wp_block ?_
        go_loopw [4, 5] (fun x i wr => ∃ k : Nat, x = .string (bs ([UInt8.ofNat (0 : Int).toNat] ++ enc S.ints.length ++ (S.ints.take k).flatMap rgB2)) ∧ i = .int .i64 k ∧ k ≤ S.ints.length ∧ wr.heap[g1]? = some (.cells #[.bool (S.absent), .slice pI S.ints.length cI, .bool (S.co), .slice pS S.strs.length cS] 25 (0, 0)) ∧ w.grownBy wr none) (fun _ i _ => S.ints.length - (intOf i).toNat)
        case atStart => exact ⟨0, by rw [List.take_zero, List.flatMap_nil, List.append_nil], rfl, Nat.zero_le _, G1, D⟩
        case round =>
          clear D G1
          obtain ⟨k, rfl, rfl, hk, G1, D⟩ := hrel
          by_cases hlt : k < S.ints.length
          · obtain ⟨bI, oI, rfl, c0, c1⟩ := rng_cell (hI _ (below_none D)) k hlt
            refine wp_seq_k (fun K10 hK10 => ?_)
            refine wp_seq_k (fun K11 hK11 => ?_)
            refine wp_region_lit ?_
            refine wl_yield (o := ⟨_, _, _, _, _, _⟩) (.int .i64 (k : Nat)) (yl_move (by rfl) _ rfl _ rfl) ?_
            simp only [Act.put, lzA, lzB, lzC]
            refine wl_yield (o := ⟨_, _, _, _, _, _⟩) (.pointer (some ⟨g1, 1, none⟩)) (yt_fSt1 (by rfl) _ rfl g1 0 rfl) ?_
            simp only [Act.put, lzA, lzB, lzC]
            refine wl_yield (o := ⟨_, _, _, _, _, _⟩) (.slice (some ⟨bI, oI, none⟩) S.ints.length cI) (yt_ldLr (by rfl) _ rfl _ _ rfl (some ⟨bI, oI, none⟩) S.ints.length cI (fun _ h => by subst h; exact cell_heap G1 1)) ?_
            simp only [Act.put, lzA, lzB, lzC]
            refine wl_yield (o := ⟨_, _, _, _, _, _⟩) (.int .i64 (S.ints.length : Nat)) (yt_lenR (by rfl) _ rfl (some ⟨bI, oI, none⟩) S.ints.length cI rfl) ?_
            simp only [Act.put, lzA, lzB, lzC]
            refine wl_yield (o := ⟨_, _, _, _, _, _⟩) (.bool true) (yt_lssI (by rfl) _ _ _ rfl ((k : Nat) : Int) ((S.ints.length : Nat) : Int) true rfl rfl (decide_eq_true (by omega))) ?_
            simp only [Act.put, lzA, lzB, lzC]
            refine wpList_nil ?_
            refine hK11 _ _ ?_
            clear hK11 K11
            refine wp_cond_true rfl ?_
            refine wp_skip ?_
            refine hK10 _ _ ?_
            clear hK10 K10
            refine wp_seq_k (fun K12 hK12 => ?_)
            refine wp_block ?_
            have q0 : ∀ W, w.grownBy W none → W.cell? ⟨bI, oI + k * 2, none⟩ = some (.int .i64 (S.ints.getD k (0, 0)).1) ∧ W.cell? ⟨bI, oI + k * 2 + 1, none⟩ = some (.int .i64 (S.ints.getD k (0, 0)).2) := fun W k2 => by
              obtain ⟨b', o', e', d0, d1⟩ := rng_cell (hI W (below_none k2)) k hlt
              injection e' with e'
              injection e' with e1 e2 e3
              subst e1 e2
              exact ⟨d0, d1⟩
            refine wp_region_late (S := fun w' => w'.heap[g1]? = some (.cells #[.bool (S.absent), .slice (some ⟨bI, oI, none⟩) S.ints.length cI, .bool (S.co), .slice pS S.strs.length cS] 25 (0, 0)) ∧ w'.cell? ⟨bI, oI + k * 2 + 0, none⟩ = some (.int .i64 (S.ints.getD k (0, 0)).1) ∧ w'.cell? ⟨bI, oI + k * 2 + 1, none⟩ = some (.int .i64 (S.ints.getD k (0, 0)).2)) (late := fun j => [].contains j) (by kernel_rfl) ?_
            have kb : Below wr.heap.size wr wr.drew := (Below.refl _ wr).drew
            replace D := grown_below D kb
            replace G1 := heap_on G1 kb
            clear kb
            generalize wr.drew = v2 at D G1 ⊢
            refine wpAnyL_pure (i := 0) (oi := ⟨_, _, _, _, _, _⟩) (v := .string (bs ([UInt8.ofNat (0 : Int).toNat] ++ enc S.ints.length ++ (S.ints.take k).flatMap rgB2))) rfl (by kernel_rfl) (by kernel_rfl) (by kernel_rfl) (fun _ _ _ h => h) (yl_move (by rfl) _ rfl _ rfl) ?_
            simp only [Act.put, lzA, lzB, lzC]
            refine wpAnyL_pure (i := 1) (oi := ⟨_, _, _, _, _, _⟩) (v := .pointer (some ⟨g1, 1, none⟩)) rfl (by kernel_rfl) (by kernel_rfl) (by kernel_rfl) (fun _ _ _ h => h) (yt_fSt1 (by rfl) _ rfl g1 0 rfl) ?_
            simp only [Act.put, lzA, lzB, lzC]
            refine wpAnyL_load (i := 2) (oi := ⟨_, _, _, _, _, _⟩) (v := .slice (some ⟨bI, oI, none⟩) S.ints.length cI) rfl (by kernel_rfl) (by kernel_rfl) (by kernel_rfl) (by kernel_rfl) (fun _ _ _ h => h) (yt_ldLr (by rfl) _ rfl _ _ rfl (some ⟨bI, oI, none⟩) S.ints.length cI (fun _ h => cell_heap h.1 1)) ⟨G1, (q0 _ D).1, (q0 _ D).2⟩ ?_
            simp only [Act.put, lzA, lzB, lzC]
            refine wpAnyL_pure (i := 3) (oi := ⟨_, _, _, _, _, _⟩) (v := .int .i64 (k : Nat)) rfl (by kernel_rfl) (by kernel_rfl) (by kernel_rfl) (fun _ _ _ h => h) (yl_move (by rfl) _ rfl _ rfl) ?_
            simp only [Act.put, lzA, lzB, lzC]
            refine wpAnyL_pure (i := 4) (oi := ⟨_, _, _, _, _, _⟩) (v := .pointer (some ⟨bI, oI + k * 2, none⟩)) rfl (by kernel_rfl) (by kernel_rfl) (by kernel_rfl) (fun _ _ _ h => h) (yt_atR (by rfl) _ _ rfl bI oI _ _ k rfl rfl (hlt)) ?_
            simp only [Act.put, lzA, lzB, lzC]
            refine wpAnyL_pure (i := 5) (oi := ⟨_, _, _, _, _, _⟩) (v := .pointer (some ⟨bI, oI + k * 2 + 0, none⟩)) rfl (by kernel_rfl) (by kernel_rfl) (by kernel_rfl) (fun _ _ _ h => h) (yt_fRg0 (by rfl) _ rfl bI (oI + k * 2) rfl) ?_
            simp only [Act.put, lzA, lzB, lzC]
            refine wpAnyL_load (i := 6) (oi := ⟨_, _, _, _, _, _⟩) (v := .int .i64 ((S.ints.getD k (0, 0)).1)) rfl (by kernel_rfl) (by kernel_rfl) (by kernel_rfl) (by kernel_rfl) (fun _ _ _ h => h) (yt_ldI (by rfl) _ rfl _ _ rfl (S.ints.getD k (0, 0)).1 (fun _ h => h.2.1)) ⟨G1, (q0 _ D).1, (q0 _ D).2⟩ ?_
            simp only [Act.put, lzA, lzB, lzC]
            refine wpAnyL_pure (i := 8) (oi := ⟨_, _, _, _, _, _⟩) (v := .pointer (some ⟨g1, 1, none⟩)) rfl (by kernel_rfl) (by kernel_rfl) (by kernel_rfl) (fun _ _ _ h => h) (yt_fSt1 (by rfl) _ rfl g1 0 rfl) ?_
            simp only [Act.put, lzA, lzB, lzC]
            refine wpAnyL_load (i := 9) (oi := ⟨_, _, _, _, _, _⟩) (v := .slice (some ⟨bI, oI, none⟩) S.ints.length cI) rfl (by kernel_rfl) (by kernel_rfl) (by kernel_rfl) (by kernel_rfl) (fun _ _ _ h => h) (yt_ldLr (by rfl) _ rfl _ _ rfl (some ⟨bI, oI, none⟩) S.ints.length cI (fun _ h => cell_heap h.1 1)) ⟨G1, (q0 _ D).1, (q0 _ D).2⟩ ?_
            simp only [Act.put, lzA, lzB, lzC]
            refine wpAnyL_pure (i := 10) (oi := ⟨_, _, _, _, _, _⟩) (v := .int .i64 (k : Nat)) rfl (by kernel_rfl) (by kernel_rfl) (by kernel_rfl) (fun _ _ _ h => h) (yl_move (by rfl) _ rfl _ rfl) ?_
            simp only [Act.put, lzA, lzB, lzC]
            refine wpAnyL_pure (i := 11) (oi := ⟨_, _, _, _, _, _⟩) (v := .pointer (some ⟨bI, oI + k * 2, none⟩)) rfl (by kernel_rfl) (by kernel_rfl) (by kernel_rfl) (fun _ _ _ h => h) (yt_atR (by rfl) _ _ rfl bI oI _ _ k rfl rfl (hlt)) ?_
            simp only [Act.put, lzA, lzB, lzC]
            refine wpAnyL_pure (i := 12) (oi := ⟨_, _, _, _, _, _⟩) (v := .pointer (some ⟨bI, oI + k * 2 + 1, none⟩)) rfl (by kernel_rfl) (by kernel_rfl) (by kernel_rfl) (fun _ _ _ h => h) (yt_fRg1 (by rfl) _ rfl bI (oI + k * 2) rfl) ?_
            simp only [Act.put, lzA, lzB, lzC]
            refine wpAnyL_load (i := 13) (oi := ⟨_, _, _, _, _, _⟩) (v := .int .i64 ((S.ints.getD k (0, 0)).2)) rfl (by kernel_rfl) (by kernel_rfl) (by kernel_rfl) (by kernel_rfl) (fun _ _ _ h => h) (yt_ldI (by rfl) _ rfl _ _ rfl (S.ints.getD k (0, 0)).2 (fun _ h => h.2.2)) ⟨G1, (q0 _ D).1, (q0 _ D).2⟩ ?_
            simp only [Act.put, lzA, lzB, lzC]
            refine wpAnyL_all (rs := [7]) (by kernel_rfl) (by simp) ?_
            intro j hj
            have hj := List.mem_singleton.1 hj
            subst hj
            refine ot_call (o := ⟨_, _, _, _, _, _⟩) rfl (by rfl) 72 _ _ rfl #[.int .i64 ((S.ints.getD k (0, 0)).1)] rfl (run_call Tryz.func72 (by kernel_rfl) (by kernel_rfl)) ?_
            refine (c_refInt (S.ints.getD k (0, 0)).1 _ (hok.1.2 _ (getD_memA S.ints (0, 0) k hlt)).1).mono ?_
            rintro r v3 (⟨rfl, kb⟩)
            replace D := grown_below D kb
            replace G1 := heap_on G1 kb
            clear kb
            refine Or.inl ⟨.string (bs (enc (zz (S.ints.getD k (0, 0)).1))), rfl, ⟨fun _ _ => ⟨G1, (q0 _ D).1, (q0 _ D).2⟩, ?_⟩⟩
            simp only [Act.put, lzA, lzB, lzC]
            refine wpAnyL_all (rs := [14]) (by kernel_rfl) (by simp) ?_
            intro j hj
            have hj := List.mem_singleton.1 hj
            subst hj
            refine ot_call (o := ⟨_, _, _, _, _, _⟩) rfl (by rfl) 72 _ _ rfl #[.int .i64 ((S.ints.getD k (0, 0)).2)] rfl (run_call Tryz.func72 (by kernel_rfl) (by kernel_rfl)) ?_
            refine (c_refInt (S.ints.getD k (0, 0)).2 _ (hok.1.2 _ (getD_memA S.ints (0, 0) k hlt)).2).mono ?_
            rintro r v4 (⟨rfl, kb⟩)
            replace D := grown_below D kb
            replace G1 := heap_on G1 kb
            clear kb
            refine Or.inl ⟨.string (bs (enc (zz (S.ints.getD k (0, 0)).2))), rfl, ⟨fun _ _ => ⟨G1, (q0 _ D).1, (q0 _ D).2⟩, ?_⟩⟩
            simp only [Act.put, lzA, lzB, lzC]
            refine wpAnyL_pure (i := 15) (oi := ⟨_, _, _, _, _, _⟩) (v := .string (bs ((enc (zz (S.ints.getD k (0, 0)).1)) ++ (enc (zz (S.ints.getD k (0, 0)).2))))) rfl (by kernel_rfl) (by kernel_rfl) (by kernel_rfl) (fun _ _ _ h => h) (yt_cat (by rfl) _ _ _ rfl (enc (zz (S.ints.getD k (0, 0)).1)) (enc (zz (S.ints.getD k (0, 0)).2)) rfl rfl (by (try simp only [List.length_append, List.length_cons, List.length_nil]); first | omega | (have q1 := hr k; first | omega | (have q2 := rgB_le (hok.1.2 _ (getD_memA S.ints (0, 0) k hlt)); unfold rgB2 at q2; rw [List.length_append] at q2; omega)) | (have q1 := hr S.ints.length; first | omega | (have q3 := hs k; first | omega | (have q4 := stB_le (hok.2.2 _ (getD_memA S.strs ⟨#[]⟩ k hlt)); omega)) | (have q3 := hs S.strs.length; omega)))) ?_
            simp only [Act.put, lzA, lzB, lzC]
            refine wpAnyL_pure (i := 16) (oi := ⟨_, _, _, _, _, _⟩) (v := .string (bs (([UInt8.ofNat (0 : Int).toNat] ++ enc S.ints.length ++ (S.ints.take k).flatMap rgB2) ++ ((enc (zz (S.ints.getD k (0, 0)).1)) ++ (enc (zz (S.ints.getD k (0, 0)).2)))))) rfl (by kernel_rfl) (by kernel_rfl) (by kernel_rfl) (fun _ _ _ h => h) (yt_cat (by rfl) _ _ _ rfl ([UInt8.ofNat (0 : Int).toNat] ++ enc S.ints.length ++ (S.ints.take k).flatMap rgB2) ((enc (zz (S.ints.getD k (0, 0)).1)) ++ (enc (zz (S.ints.getD k (0, 0)).2))) rfl rfl (by (try simp only [List.length_append, List.length_cons, List.length_nil]); first | omega | (have q1 := hr k; first | omega | (have q2 := rgB_le (hok.1.2 _ (getD_memA S.ints (0, 0) k hlt)); unfold rgB2 at q2; rw [List.length_append] at q2; omega)) | (have q1 := hr S.ints.length; first | omega | (have q3 := hs k; first | omega | (have q4 := stB_le (hok.2.2 _ (getD_memA S.strs ⟨#[]⟩ k hlt)); omega)) | (have q3 := hs S.strs.length; omega)))) ?_
            simp only [Act.put, lzA, lzB, lzC]
            refine wpAnyL_pure (i := 17) (oi := ⟨_, _, _, _, _, _⟩) (v := .string (bs (([UInt8.ofNat (0 : Int).toNat] ++ enc S.ints.length ++ (S.ints.take k).flatMap rgB2) ++ ((enc (zz (S.ints.getD k (0, 0)).1)) ++ (enc (zz (S.ints.getD k (0, 0)).2)))))) rfl (by kernel_rfl) (by kernel_rfl) (by kernel_rfl) (fun _ _ _ h => h) (yl_assign (by rfl) _ rfl _ rfl) ?_
            simp only [Act.put, lzA, lzB, lzC]
            refine wpAnyL_done (by kernel_rfl) ?_ _
            refine hK12 _ _ ?_
            clear hK12 K12
            refine wp_region_lit ?_
            refine wl_yield (o := ⟨_, _, _, _, _, _⟩) (.int .i64 (k : Nat)) (yl_move (by rfl) _ rfl _ rfl) ?_
            simp only [Act.put, lzA, lzB, lzC]
            refine wl_yield (o := ⟨_, _, _, _, _, _⟩) (.int .i64 (k + 1 : Nat)) (yt_addI (by rfl) _ _ _ rfl ((k : Nat) : Int) 1 ((k + 1 : Nat) : Int) rfl rfl (by omega) (by omega) (by omega)) ?_
            simp only [Act.put, lzA, lzB, lzC]
            refine wl_yield (o := ⟨_, _, _, _, _, _⟩) (.int .i64 (k + 1 : Nat)) (yl_assign (by rfl) _ rfl _ rfl) ?_
            simp only [Act.put, lzA, lzB, lzC]
            refine wpList_nil ?_
            show _ ∧ _
            go_roundw
            case rel => exact ⟨k + 1, by rw [take_step rgB2 (0, 0) S.ints k hlt]; simp only [rgB2, List.append_assoc], rfl, by omega, G1, D⟩
            case measure => simp [intOf]; omega
          · obtain rfl : k = S.ints.length := by omega
            refine wp_seq_k (fun K10 hK10 => ?_)
            refine wp_seq_k (fun K11 hK11 => ?_)
            refine wp_region_lit ?_
            refine wl_yield (o := ⟨_, _, _, _, _, _⟩) (.int .i64 (S.ints.length : Nat)) (yl_move (by rfl) _ rfl _ rfl) ?_
            simp only [Act.put, lzA, lzB, lzC]
            refine wl_yield (o := ⟨_, _, _, _, _, _⟩) (.pointer (some ⟨g1, 1, none⟩)) (yt_fSt1 (by rfl) _ rfl g1 0 rfl) ?_
            simp only [Act.put, lzA, lzB, lzC]
            refine wl_yield (o := ⟨_, _, _, _, _, _⟩) (.slice pI S.ints.length cI) (yt_ldLr (by rfl) _ rfl _ _ rfl pI S.ints.length cI (fun _ h => by subst h; exact cell_heap G1 1)) ?_
            simp only [Act.put, lzA, lzB, lzC]
            refine wl_yield (o := ⟨_, _, _, _, _, _⟩) (.int .i64 (S.ints.length : Nat)) (yt_lenR (by rfl) _ rfl pI S.ints.length cI rfl) ?_
            simp only [Act.put, lzA, lzB, lzC]
            refine wl_yield (o := ⟨_, _, _, _, _, _⟩) (.bool false) (yt_lssI (by rfl) _ _ _ rfl ((S.ints.length : Nat) : Int) ((S.ints.length : Nat) : Int) false rfl rfl (decide_eq_false (by omega))) ?_
            simp only [Act.put, lzA, lzB, lzC]
            refine wpList_nil ?_
            refine hK11 _ _ ?_
            clear hK11 K11
            refine wp_cond_false rfl ?_
            refine wp_exit ?_
            refine hK8 _ _ ?_
            clear hK10 K10 hK8 K8
            refine wp_seq_k (fun K12 hK12 => ?_)
            refine wp_region_lit ?_
            refine wl_yield (o := ⟨_, _, _, _, _, _⟩) (.string (bs ([UInt8.ofNat (0 : Int).toNat] ++ enc S.ints.length ++ (S.ints.take S.ints.length).flatMap rgB2))) (yl_move (by rfl) _ rfl _ rfl) ?_
            simp only [Act.put, lzA, lzB, lzC]
            refine wl_yield (o := ⟨_, _, _, _, _, _⟩) (.pointer (some ⟨g1, 3, none⟩)) (yt_fSt3 (by rfl) _ rfl g1 0 rfl) ?_
            simp only [Act.put, lzA, lzB, lzC]
            refine wl_yield (o := ⟨_, _, _, _, _, _⟩) (.slice pS S.strs.length cS) (yt_ldLs (by rfl) _ rfl _ _ rfl pS S.strs.length cS (fun _ h => by subst h; exact cell_heap G1 3)) ?_
            simp only [Act.put, lzA, lzB, lzC]
            refine wl_yield (o := ⟨_, _, _, _, _, _⟩) (.int .i64 (S.strs.length : Nat)) (yt_lenT (by rfl) _ rfl pS S.strs.length cS rfl) ?_
            simp only [Act.put, lzA, lzB, lzC]
            refine wl_yield (o := ⟨_, _, _, _, _, _⟩) (.int .u64 ((S.strs.length : Nat) : Int)) (yw_iu (by rfl) _ rfl ((S.strs.length : Nat) : Int) rfl (by omega) (by omega)) ?_
            simp only [Act.put, lzA, lzB, lzC]
            refine wt_call (o := ⟨_, _, _, _, _, _⟩) (by rfl) 62 _ _ rfl #[.int .u64 ((S.strs.length : Nat) : Int)] rfl (run_call Tryz.func62 (by kernel_rfl) (by kernel_rfl)) ?_
            refine (c_refUint S.strs.length _ (by omega)).mono ?_
            rintro r v2 ⟨rfl, kb⟩
            replace D := grown_below D kb
            replace G1 := heap_on G1 kb
            clear kb
            refine Or.inl ⟨.string (bs (enc S.strs.length)), rfl, ?_⟩
            simp only [Act.put, lzA, lzB, lzC]
            refine wl_yield (o := ⟨_, _, _, _, _, _⟩) (.string (bs (([UInt8.ofNat (0 : Int).toNat] ++ enc S.ints.length ++ (S.ints.take S.ints.length).flatMap rgB2) ++ (enc S.strs.length)))) (yt_cat (by rfl) _ _ _ rfl ([UInt8.ofNat (0 : Int).toNat] ++ enc S.ints.length ++ (S.ints.take S.ints.length).flatMap rgB2) (enc S.strs.length) rfl rfl (by (try simp only [List.length_append, List.length_cons, List.length_nil]); first | omega | (have q1 := hr k; first | omega | (have q2 := rgB_le (hok.1.2 _ (getD_memA S.ints (0, 0) k hlt)); unfold rgB2 at q2; rw [List.length_append] at q2; omega)) | (have q1 := hr S.ints.length; first | omega | (have q3 := hs k; first | omega | (have q4 := stB_le (hok.2.2 _ (getD_memA S.strs ⟨#[]⟩ k hlt)); omega)) | (have q3 := hs S.strs.length; omega)))) ?_
            simp only [Act.put, lzA, lzB, lzC]
            refine wl_yield (o := ⟨_, _, _, _, _, _⟩) (.string (bs (([UInt8.ofNat (0 : Int).toNat] ++ enc S.ints.length ++ (S.ints.take S.ints.length).flatMap rgB2) ++ (enc S.strs.length)))) (yl_assign (by rfl) _ rfl _ rfl) ?_
            simp only [Act.put, lzA, lzB, lzC]
            refine wpList_nil ?_
            refine hK12 _ _ ?_
            clear hK12 K12
            refine wp_seq_k (fun K13 hK13 => ?_)
            refine wp_seq_k (fun K14 hK14 => ?_)
            refine wp_region_lit ?_
            refine wl_yield (o := ⟨_, _, _, _, _, _⟩) (.int .i64 0) (yl_assign (by rfl) _ rfl _ rfl) ?_
            simp only [Act.put, lzA, lzB, lzC]
            refine wpList_nil ?_
            refine hK14 _ _ ?_
            clear hK14 K14
            refine wp_block ?_
            go_loopw [4, 6] (fun x i wr => ∃ k : Nat, x = .string (bs (([UInt8.ofNat (0 : Int).toNat] ++ enc S.ints.length ++ (S.ints.take S.ints.length).flatMap rgB2) ++ enc S.strs.length ++ (S.strs.take k).flatMap stB2)) ∧ i = .int .i64 k ∧ k ≤ S.strs.length ∧ wr.heap[g1]? = some (.cells #[.bool (S.absent), .slice pI S.ints.length cI, .bool (S.co), .slice pS S.strs.length cS] 25 (0, 0)) ∧ w.grownBy wr none) (fun _ i _ => S.strs.length - (intOf i).toNat)
            case atStart => exact ⟨0, by rw [List.take_zero, List.flatMap_nil, List.append_nil], rfl, Nat.zero_le _, G1, D⟩
            case round =>
              clear D G1
              obtain ⟨k, rfl, rfl, hk, G1, D⟩ := hrel
              by_cases hlt : k < S.strs.length
              · obtain ⟨bS, oS, rfl, c0⟩ := str_cell (hT _ (below_none D)) k hlt
                refine wp_seq_k (fun K15 hK15 => ?_)
                refine wp_seq_k (fun K16 hK16 => ?_)
                refine wp_region_lit ?_
                refine wl_yield (o := ⟨_, _, _, _, _, _⟩) (.int .i64 (k : Nat)) (yl_move (by rfl) _ rfl _ rfl) ?_
                simp only [Act.put, lzA, lzB, lzC]
                refine wl_yield (o := ⟨_, _, _, _, _, _⟩) (.pointer (some ⟨g1, 3, none⟩)) (yt_fSt3 (by rfl) _ rfl g1 0 rfl) ?_
                simp only [Act.put, lzA, lzB, lzC]
                refine wl_yield (o := ⟨_, _, _, _, _, _⟩) (.slice (some ⟨bS, oS, none⟩) S.strs.length cS) (yt_ldLs (by rfl) _ rfl _ _ rfl (some ⟨bS, oS, none⟩) S.strs.length cS (fun _ h => by subst h; exact cell_heap G1 3)) ?_
                simp only [Act.put, lzA, lzB, lzC]
                refine wl_yield (o := ⟨_, _, _, _, _, _⟩) (.int .i64 (S.strs.length : Nat)) (yt_lenT (by rfl) _ rfl (some ⟨bS, oS, none⟩) S.strs.length cS rfl) ?_
                simp only [Act.put, lzA, lzB, lzC]
                refine wl_yield (o := ⟨_, _, _, _, _, _⟩) (.bool true) (yt_lssI (by rfl) _ _ _ rfl ((k : Nat) : Int) ((S.strs.length : Nat) : Int) true rfl rfl (decide_eq_true (by omega))) ?_
                simp only [Act.put, lzA, lzB, lzC]
                refine wpList_nil ?_
                refine hK16 _ _ ?_
                clear hK16 K16
                refine wp_cond_true rfl ?_
                refine wp_skip ?_
                refine hK15 _ _ ?_
                clear hK15 K15
                refine wp_seq_k (fun K17 hK17 => ?_)
                refine wp_block ?_
                refine wp_region_lit ?_
                refine wl_yield (o := ⟨_, _, _, _, _, _⟩) (.string (bs (([UInt8.ofNat (0 : Int).toNat] ++ enc S.ints.length ++ (S.ints.take S.ints.length).flatMap rgB2) ++ enc S.strs.length ++ (S.strs.take k).flatMap stB2))) (yl_move (by rfl) _ rfl _ rfl) ?_
                simp only [Act.put, lzA, lzB, lzC]
                refine wl_yield (o := ⟨_, _, _, _, _, _⟩) (.pointer (some ⟨g1, 3, none⟩)) (yt_fSt3 (by rfl) _ rfl g1 0 rfl) ?_
                simp only [Act.put, lzA, lzB, lzC]
                refine wl_yield (o := ⟨_, _, _, _, _, _⟩) (.slice (some ⟨bS, oS, none⟩) S.strs.length cS) (yt_ldLs (by rfl) _ rfl _ _ rfl (some ⟨bS, oS, none⟩) S.strs.length cS (fun _ h => by subst h; exact cell_heap G1 3)) ?_
                simp only [Act.put, lzA, lzB, lzC]
                refine wl_yield (o := ⟨_, _, _, _, _, _⟩) (.int .i64 (k : Nat)) (yl_move (by rfl) _ rfl _ rfl) ?_
                simp only [Act.put, lzA, lzB, lzC]
                refine wl_yield (o := ⟨_, _, _, _, _, _⟩) (.pointer (some ⟨bS, oS + k * 1, none⟩)) (yt_atT (by rfl) _ _ rfl bS oS _ _ k rfl rfl (hlt)) ?_
                simp only [Act.put, lzA, lzB, lzC]
                refine wl_yield (o := ⟨_, _, _, _, _, _⟩) (.string (S.strs.getD k ⟨#[]⟩)) (yt_ldS (by rfl) _ rfl _ _ rfl (S.strs.getD k ⟨#[]⟩) (fun _ h => by subst h; exact c0)) ?_
                simp only [Act.put, lzA, lzB, lzC]
                refine wt_call (o := ⟨_, _, _, _, _, _⟩) (by rfl) 73 _ _ rfl #[.string (S.strs.getD k ⟨#[]⟩)] rfl (run_call Tryz.func73 (by kernel_rfl) (by kernel_rfl)) ?_
                refine (c_refStr (S.strs.getD k ⟨#[]⟩) _ (hok.2.2 _ (getD_memA S.strs ⟨#[]⟩ k hlt))).mono ?_
                rintro r v3 ⟨rfl, kb⟩
                replace D := grown_below D kb
                replace G1 := heap_on G1 kb
                clear kb
                refine Or.inl ⟨.string (bs (stB2 (S.strs.getD k ⟨#[]⟩))), rfl, ?_⟩
                simp only [Act.put, lzA, lzB, lzC]
                refine wl_yield (o := ⟨_, _, _, _, _, _⟩) (.string (bs ((([UInt8.ofNat (0 : Int).toNat] ++ enc S.ints.length ++ (S.ints.take S.ints.length).flatMap rgB2) ++ enc S.strs.length ++ (S.strs.take k).flatMap stB2) ++ (stB2 (S.strs.getD k ⟨#[]⟩))))) (yt_cat (by rfl) _ _ _ rfl (([UInt8.ofNat (0 : Int).toNat] ++ enc S.ints.length ++ (S.ints.take S.ints.length).flatMap rgB2) ++ enc S.strs.length ++ (S.strs.take k).flatMap stB2) (stB2 (S.strs.getD k ⟨#[]⟩)) rfl rfl (by (try simp only [List.length_append, List.length_cons, List.length_nil]); first | omega | (have q1 := hr k; first | omega | (have q2 := rgB_le (hok.1.2 _ (getD_memA S.ints (0, 0) k hlt)); unfold rgB2 at q2; rw [List.length_append] at q2; omega)) | (have q1 := hr S.ints.length; first | omega | (have q3 := hs k; first | omega | (have q4 := stB_le (hok.2.2 _ (getD_memA S.strs ⟨#[]⟩ k hlt)); omega)) | (have q3 := hs S.strs.length; omega)))) ?_
                simp only [Act.put, lzA, lzB, lzC]
                refine wl_yield (o := ⟨_, _, _, _, _, _⟩) (.string (bs ((([UInt8.ofNat (0 : Int).toNat] ++ enc S.ints.length ++ (S.ints.take S.ints.length).flatMap rgB2) ++ enc S.strs.length ++ (S.strs.take k).flatMap stB2) ++ (stB2 (S.strs.getD k ⟨#[]⟩))))) (yl_assign (by rfl) _ rfl _ rfl) ?_
                simp only [Act.put, lzA, lzB, lzC]
                refine wpList_nil ?_
                refine hK17 _ _ ?_
                clear hK17 K17
                refine wp_region_lit ?_
                refine wl_yield (o := ⟨_, _, _, _, _, _⟩) (.int .i64 (k : Nat)) (yl_move (by rfl) _ rfl _ rfl) ?_
                simp only [Act.put, lzA, lzB, lzC]
                refine wl_yield (o := ⟨_, _, _, _, _, _⟩) (.int .i64 (k + 1 : Nat)) (yt_addI (by rfl) _ _ _ rfl ((k : Nat) : Int) 1 ((k + 1 : Nat) : Int) rfl rfl (by omega) (by omega) (by omega)) ?_
                simp only [Act.put, lzA, lzB, lzC]
                refine wl_yield (o := ⟨_, _, _, _, _, _⟩) (.int .i64 (k + 1 : Nat)) (yl_assign (by rfl) _ rfl _ rfl) ?_
                simp only [Act.put, lzA, lzB, lzC]
                refine wpList_nil ?_
                show _ ∧ _
                go_roundw
                case rel => exact ⟨k + 1, by rw [take_step stB2 ⟨#[]⟩ S.strs k hlt]; simp only [rgB2, List.append_assoc], rfl, by omega, G1, D⟩
                case measure => simp [intOf]; omega
              · obtain rfl : k = S.strs.length := by omega
                refine wp_seq_k (fun K15 hK15 => ?_)
                refine wp_seq_k (fun K16 hK16 => ?_)
                refine wp_region_lit ?_
                refine wl_yield (o := ⟨_, _, _, _, _, _⟩) (.int .i64 (S.strs.length : Nat)) (yl_move (by rfl) _ rfl _ rfl) ?_
                simp only [Act.put, lzA, lzB, lzC]
                refine wl_yield (o := ⟨_, _, _, _, _, _⟩) (.pointer (some ⟨g1, 3, none⟩)) (yt_fSt3 (by rfl) _ rfl g1 0 rfl) ?_
                simp only [Act.put, lzA, lzB, lzC]
                refine wl_yield (o := ⟨_, _, _, _, _, _⟩) (.slice pS S.strs.length cS) (yt_ldLs (by rfl) _ rfl _ _ rfl pS S.strs.length cS (fun _ h => by subst h; exact cell_heap G1 3)) ?_
                simp only [Act.put, lzA, lzB, lzC]
                refine wl_yield (o := ⟨_, _, _, _, _, _⟩) (.int .i64 (S.strs.length : Nat)) (yt_lenT (by rfl) _ rfl pS S.strs.length cS rfl) ?_
                simp only [Act.put, lzA, lzB, lzC]
                refine wl_yield (o := ⟨_, _, _, _, _, _⟩) (.bool false) (yt_lssI (by rfl) _ _ _ rfl ((S.strs.length : Nat) : Int) ((S.strs.length : Nat) : Int) false rfl rfl (decide_eq_false (by omega))) ?_
                simp only [Act.put, lzA, lzB, lzC]
                refine wpList_nil ?_
                refine hK16 _ _ ?_
                clear hK16 K16
                refine wp_cond_false rfl ?_
                refine wp_exit ?_
                refine hK13 _ _ ?_
                clear hK15 K15 hK13 K13
                refine wp_seq_k (fun K17 hK17 => ?_)
                refine wp_region_lit ?_
                refine wl_yield (o := ⟨_, _, _, _, _, _⟩) (.string (bs (([UInt8.ofNat (0 : Int).toNat] ++ enc S.ints.length ++ (S.ints.take S.ints.length).flatMap rgB2) ++ enc S.strs.length ++ (S.strs.take S.strs.length).flatMap stB2))) (yl_move (by rfl) _ rfl _ rfl) ?_
                simp only [Act.put, lzA, lzB, lzC]
                refine wl_yield (o := ⟨_, _, _, _, _, _⟩) (.string (bs (([UInt8.ofNat (0 : Int).toNat] ++ enc S.ints.length ++ (S.ints.take S.ints.length).flatMap rgB2) ++ enc S.strs.length ++ (S.strs.take S.strs.length).flatMap stB2))) (yl_assign (by rfl) _ rfl _ rfl) ?_
                simp only [Act.put, lzA, lzB, lzC]
                refine wpList_nil ?_
                refine hK17 _ _ ?_
                clear hK17 K17
                refine wp_ret ?_
                try simp only [Exit.inBlock, Exit.then]
                have hd := set_done8 (S := S) (k := 0) (by unfold flagS; rw [hab, hco]; try rfl)
                go_ret
                exact ⟨congrArg (fun z => Ending.returned (.string (bs z))) (by rw [← hd]), below_none D⟩
      refine wp_region_late (S := fun w' => w'.heap[g1]? = some (.cells #[.bool (S.absent), .slice pI S.ints.length cI, .bool (S.co), .slice pS S.strs.length cS] 25 (0, 0))) (late := fun j => [].contains j) (by kernel_rfl) ?_
      have kb : Below v1.heap.size v1 v1.drew := (Below.refl _ v1).drew
      replace D := grown_below D kb
      replace G1 := heap_on G1 kb
      clear kb
      generalize v1.drew = v2 at D G1 ⊢
      refine wpAnyL_pure (i := 0) (oi := ⟨_, _, _, _, _, _⟩) (v := .int .i64 0) rfl (by kernel_rfl) (by kernel_rfl) (by kernel_rfl) (fun _ _ _ h => h) (yl_move (by rfl) _ rfl _ rfl) ?_
      simp only [Act.put, lzA, lzB, lzC]
      refine wpAnyL_pure (i := 1) (oi := ⟨_, _, _, _, _, _⟩) (v := .int .u8 0) rfl (by kernel_rfl) (by kernel_rfl) (by kernel_rfl) (fun _ _ _ h => h) (yw_iy (by rfl) _ rfl 0 rfl (by decide) (by decide)) ?_
      simp only [Act.put, lzA, lzB, lzC]
      refine wpAnyL_pure (i := 4) (oi := ⟨_, _, _, _, _, _⟩) (v := .pointer (some ⟨g1, 1, none⟩)) rfl (by kernel_rfl) (by kernel_rfl) (by kernel_rfl) (fun _ _ _ h => h) (yt_fSt1 (by rfl) _ rfl g1 0 rfl) ?_
      simp only [Act.put, lzA, lzB, lzC]
      refine wpAnyL_load (i := 5) (oi := ⟨_, _, _, _, _, _⟩) (v := .slice pI S.ints.length cI) rfl (by kernel_rfl) (by kernel_rfl) (by kernel_rfl) (by kernel_rfl) (fun _ _ _ h => h) (yt_ldLr (by rfl) _ rfl _ _ rfl pI S.ints.length cI (fun _ h => cell_heap h 1)) G1 ?_
      simp only [Act.put, lzA, lzB, lzC]
      refine wpAnyL_pure (i := 6) (oi := ⟨_, _, _, _, _, _⟩) (v := .int .i64 (S.ints.length : Nat)) rfl (by kernel_rfl) (by kernel_rfl) (by kernel_rfl) (fun _ _ _ h => h) (yt_lenR (by rfl) _ rfl pI S.ints.length cI rfl) ?_
      simp only [Act.put, lzA, lzB, lzC]
      refine wpAnyL_pure (i := 7) (oi := ⟨_, _, _, _, _, _⟩) (v := .int .u64 ((S.ints.length : Nat) : Int)) rfl (by kernel_rfl) (by kernel_rfl) (by kernel_rfl) (fun _ _ _ h => h) (yw_iu (by rfl) _ rfl ((S.ints.length : Nat) : Int) rfl (by omega) (by omega)) ?_
      simp only [Act.put, lzA, lzB, lzC]
      refine wpAnyL_all (rs := [2, 8]) (by kernel_rfl) (by simp) ?_
      intro j hj
      simp only [List.mem_cons, List.not_mem_nil, or_false] at hj
      rcases hj with rfl | rfl
      · refine ot_row1Y (o := ⟨_, _, _, _, _, _⟩) rfl (by rfl) _ rfl 0 rfl (fun v3 g3 hg G3 kb => ?_)
        have n_g1_g3 : g1 ≠ g3 := by have := lt_heap G1; omega
        have ge_g3 : w.heap.size ≤ g3 := Nat.le_trans D.size hg
        clear hg
        replace D := grown_below D kb
        replace G1 := heap_on G1 kb
        clear kb
        refine ⟨fun _ _ => G1, ?_⟩
        simp only [Act.put, lzA, lzB, lzC]
        refine wpAnyL_all (rs := [3, 8]) (by kernel_rfl) (by simp) ?_
        intro j hj
        simp only [List.mem_cons, List.not_mem_nil, or_false] at hj
        rcases hj with rfl | rfl
        · refine ot_conv1 (o := ⟨_, _, _, _, _, _⟩) rfl (by rfl) _ rfl g3 rfl 0 (by decide) (by decide) G3 ?_
          refine ⟨fun _ _ => G1, ?_⟩
          simp only [Act.put, lzA, lzB, lzC]
          refine wpAnyL_all (rs := [8]) (by kernel_rfl) (by simp) ?_
          intro j hj
          have hj := List.mem_singleton.1 hj
          subst hj
          refine ot_call (o := ⟨_, _, _, _, _, _⟩) rfl (by rfl) 62 _ _ rfl #[.int .u64 ((S.ints.length : Nat) : Int)] rfl (run_call Tryz.func62 (by kernel_rfl) (by kernel_rfl)) ?_
          refine (c_refUint S.ints.length _ (by omega)).mono ?_
          rintro r v4 (⟨rfl, kb⟩)
          replace D := grown_below D kb
          replace G1 := heap_on G1 kb
          replace G3 := heap_on G3 kb
          clear kb
          refine Or.inl ⟨.string (bs (enc S.ints.length)), rfl, ⟨fun _ _ => G1, ?_⟩⟩
          simp only [Act.put, lzA, lzB, lzC]
          refine wpAnyL_pure (i := 9) (oi := ⟨_, _, _, _, _, _⟩) (v := .string (bs (([UInt8.ofNat (0 : Int).toNat]) ++ (enc S.ints.length)))) rfl (by kernel_rfl) (by kernel_rfl) (by kernel_rfl) (fun _ _ _ h => h) (yt_cat (by rfl) _ _ _ rfl ([UInt8.ofNat (0 : Int).toNat]) (enc S.ints.length) rfl rfl (by (try simp only [List.length_append, List.length_cons, List.length_nil]); first | omega | (have q1 := hr k; first | omega | (have q2 := rgB_le (hok.1.2 _ (getD_memA S.ints (0, 0) k hlt)); unfold rgB2 at q2; rw [List.length_append] at q2; omega)) | (have q1 := hr S.ints.length; first | omega | (have q3 := hs k; first | omega | (have q4 := stB_le (hok.2.2 _ (getD_memA S.strs ⟨#[]⟩ k hlt)); omega)) | (have q3 := hs S.strs.length; omega)))) ?_
          simp only [Act.put, lzA, lzB, lzC]
          refine wpAnyL_pure (i := 10) (oi := ⟨_, _, _, _, _, _⟩) (v := .string (bs (([UInt8.ofNat (0 : Int).toNat]) ++ (enc S.ints.length)))) rfl (by kernel_rfl) (by kernel_rfl) (by kernel_rfl) (fun _ _ _ h => h) (yl_assign (by rfl) _ rfl _ rfl) ?_
          simp only [Act.put, lzA, lzB, lzC]
          refine wpAnyL_done (by kernel_rfl) ?_ _
          exact NEXT _ _ G1 D
        · refine ot_call (o := ⟨_, _, _, _, _, _⟩) rfl (by rfl) 62 _ _ rfl #[.int .u64 ((S.ints.length : Nat) : Int)] rfl (run_call Tryz.func62 (by kernel_rfl) (by kernel_rfl)) ?_
          refine (c_refUint S.ints.length _ (by omega)).mono ?_
          rintro r v4 (⟨rfl, kb⟩)
          replace D := grown_below D kb
          replace G1 := heap_on G1 kb
          replace G3 := heap_on G3 kb
          clear kb
          refine Or.inl ⟨.string (bs (enc S.ints.length)), rfl, ⟨fun _ _ => G1, ?_⟩⟩
          simp only [Act.put, lzA, lzB, lzC]
          refine wpAnyL_all (rs := [3]) (by kernel_rfl) (by simp) ?_
          intro j hj
          have hj := List.mem_singleton.1 hj
          subst hj
          refine ot_conv1 (o := ⟨_, _, _, _, _, _⟩) rfl (by rfl) _ rfl g3 rfl 0 (by decide) (by decide) G3 ?_
          refine ⟨fun _ _ => G1, ?_⟩
          simp only [Act.put, lzA, lzB, lzC]
          refine wpAnyL_pure (i := 9) (oi := ⟨_, _, _, _, _, _⟩) (v := .string (bs (([UInt8.ofNat (0 : Int).toNat]) ++ (enc S.ints.length)))) rfl (by kernel_rfl) (by kernel_rfl) (by kernel_rfl) (fun _ _ _ h => h) (yt_cat (by rfl) _ _ _ rfl ([UInt8.ofNat (0 : Int).toNat]) (enc S.ints.length) rfl rfl (by (try simp only [List.length_append, List.length_cons, List.length_nil]); first | omega | (have q1 := hr k; first | omega | (have q2 := rgB_le (hok.1.2 _ (getD_memA S.ints (0, 0) k hlt)); unfold rgB2 at q2; rw [List.length_append] at q2; omega)) | (have q1 := hr S.ints.length; first | omega | (have q3 := hs k; first | omega | (have q4 := stB_le (hok.2.2 _ (getD_memA S.strs ⟨#[]⟩ k hlt)); omega)) | (have q3 := hs S.strs.length; omega)))) ?_
          simp only [Act.put, lzA, lzB, lzC]
          refine wpAnyL_pure (i := 10) (oi := ⟨_, _, _, _, _, _⟩) (v := .string (bs (([UInt8.ofNat (0 : Int).toNat]) ++ (enc S.ints.length)))) rfl (by kernel_rfl) (by kernel_rfl) (by kernel_rfl) (fun _ _ _ h => h) (yl_assign (by rfl) _ rfl _ rfl) ?_
          simp only [Act.put, lzA, lzB, lzC]
          refine wpAnyL_done (by kernel_rfl) ?_ _
          exact NEXT _ _ G1 D
      · refine ot_call (o := ⟨_, _, _, _, _, _⟩) rfl (by rfl) 62 _ _ rfl #[.int .u64 ((S.ints.length : Nat) : Int)] rfl (run_call Tryz.func62 (by kernel_rfl) (by kernel_rfl)) ?_
        refine (c_refUint S.ints.length _ (by omega)).mono ?_
        rintro r v3 (⟨rfl, kb⟩)
        replace D := grown_below D kb
        replace G1 := heap_on G1 kb
        clear kb
        refine Or.inl ⟨.string (bs (enc S.ints.length)), rfl, ⟨fun _ _ => G1, ?_⟩⟩
        simp only [Act.put, lzA, lzB, lzC]
        refine wpAnyL_all (rs := [2]) (by kernel_rfl) (by simp) ?_
        intro j hj
        have hj := List.mem_singleton.1 hj
        subst hj
        refine ot_row1Y (o := ⟨_, _, _, _, _, _⟩) rfl (by rfl) _ rfl 0 rfl (fun v4 g4 hg G4 kb => ?_)
        have n_g1_g4 : g1 ≠ g4 := by have := lt_heap G1; omega
        have ge_g4 : w.heap.size ≤ g4 := Nat.le_trans D.size hg
        clear hg
        replace D := grown_below D kb
        replace G1 := heap_on G1 kb
        clear kb
        refine ⟨fun _ _ => G1, ?_⟩
        simp only [Act.put, lzA, lzB, lzC]
        refine wpAnyL_all (rs := [3]) (by kernel_rfl) (by simp) ?_
        intro j hj
        have hj := List.mem_singleton.1 hj
        subst hj
        refine ot_conv1 (o := ⟨_, _, _, _, _, _⟩) rfl (by rfl) _ rfl g4 rfl 0 (by decide) (by decide) G4 ?_
        refine ⟨fun _ _ => G1, ?_⟩
        simp only [Act.put, lzA, lzB, lzC]
        refine wpAnyL_pure (i := 9) (oi := ⟨_, _, _, _, _, _⟩) (v := .string (bs (([UInt8.ofNat (0 : Int).toNat]) ++ (enc S.ints.length)))) rfl (by kernel_rfl) (by kernel_rfl) (by kernel_rfl) (fun _ _ _ h => h) (yt_cat (by rfl) _ _ _ rfl ([UInt8.ofNat (0 : Int).toNat]) (enc S.ints.length) rfl rfl (by (try simp only [List.length_append, List.length_cons, List.length_nil]); first | omega | (have q1 := hr k; first | omega | (have q2 := rgB_le (hok.1.2 _ (getD_memA S.ints (0, 0) k hlt)); unfold rgB2 at q2; rw [List.length_append] at q2; omega)) | (have q1 := hr S.ints.length; first | omega | (have q3 := hs k; first | omega | (have q4 := stB_le (hok.2.2 _ (getD_memA S.strs ⟨#[]⟩ k hlt)); omega)) | (have q3 := hs S.strs.length; omega)))) ?_
        simp only [Act.put, lzA, lzB, lzC]
        refine wpAnyL_pure (i := 10) (oi := ⟨_, _, _, _, _, _⟩) (v := .string (bs (([UInt8.ofNat (0 : Int).toNat]) ++ (enc S.ints.length)))) rfl (by kernel_rfl) (by kernel_rfl) (by kernel_rfl) (fun _ _ _ h => h) (yl_assign (by rfl) _ rfl _ rfl) ?_
        simp only [Act.put, lzA, lzB, lzC]
        refine wpAnyL_done (by kernel_rfl) ?_ _
        exact NEXT _ _ G1 D
theorem refSet8_any (s : SC) (S : SetV) (w : World) (hok : okSt S) (hs : SetAt w s.val S) :
    Calls Tryz.prog 63 #[s.val] w fun e w' => e = .returned (.string (bs (setB S))) ∧ Below w.heap.size w w' := by
  obtain ⟨e, h1, h2⟩ := setAt_parts hs
  have h := refSet8_one S s.p s.q s.c s.e w hok (fun W D => h1.on D) (fun W D => h2.on D)
  rw [e]
  exact h
end Go.Proofs.YtlmdcaemjaldfaaGreat
namespace Go.Proofs.YtlmdcaemjaldfaaGreat
open Go.RowKit
theorem BcAt.set4 {w : World} {g o : Nat} {c : BxC} (h : BcAt w g o c) (j : Nat) (hj : j < 4) : w.cell? ⟨g, o + j * 4, none⟩ = some (.bool (c.sc j).a) ∧ w.cell? ⟨g, o + j * 4 + 1, none⟩ = some (.slice (c.sc j).p (c.sc j).n (c.sc j).c) ∧ w.cell? ⟨g, o + j * 4 + 2, none⟩ = some (.bool (c.sc j).d) ∧ w.cell? ⟨g, o + j * 4 + 3, none⟩ = some (.slice (c.sc j).q (c.sc j).m (c.sc j).e) := by
  match j, hj with
  | 0, _ => exact ⟨h.r 0 _ rfl, h.r 1 _ rfl, h.r 2 _ rfl, h.r 3 _ rfl⟩
  | 1, _ => exact ⟨h.r 4 _ rfl, h.r 5 _ rfl, h.r 6 _ rfl, h.r 7 _ rfl⟩
  | 2, _ => exact ⟨h.r 8 _ rfl, h.r 9 _ rfl, h.r 10 _ rfl, h.r 11 _ rfl⟩
  | 3, _ => exact ⟨h.r 12 _ rfl, h.r 13 _ rfl, h.r 14 _ rfl, h.r 15 _ rfl⟩
section
variable {ops : Array Oper} {S : World → Prop} {o : Oper} {a : Act}
theorem yl_atBoxO (hw : Region.wanted o (yielded ops a.tmps) = true) (x y : Operand) (ho : o.op = .indexAddr 40 x y) (g off : Nat) (i : Nat) (hx : a.eval x = .pointer (some ⟨g, off, none⟩)) (hy : a.eval y = .int .i64 i) (hi : i < 4) : YieldsIf Tryz.prog ops S o (.pointer (some ⟨g, off + i * 4, none⟩)) a :=
  Or.inl ⟨hw, fun w hS => by
    simp only [execOp, ho, hx, hy]
    match i, hi with
    | 0, _ => go_simp
    | 1, _ => go_simp
    | 2, _ => go_simp
    | 3, _ => go_simp⟩
end
set_option maxHeartbeats 4000000 in
set_option maxRecDepth 100000 in
theorem refFilter_one (f : List BoxV) (p : Option Addr) (c : Nat) (cs : List BxC) (w : World) (hok : ∀ b ∈ f, okBx b) (hl : f.length ≤ 4) (hp : ∀ W, Below w.heap.size w W → ∀ k, k < f.length → ∃ g off, p = some ⟨g, off, none⟩ ∧ BcAt W g (off + k * 16) (cs.getD k bc0) ∧ BoxAt W (cs.getD k bc0).val (f.getD k zBox)) :
    Calls Tryz.prog 24 #[.slice p f.length c] w fun e w' => e = .returned (.string (bs (filB f))) ∧ Below w.heap.size w w' := by
  have D : w.grownBy w none := grown_refl _ _
  have hen := enc_len_le f.length (by omega)
  go_enter Tryz.func24, Tryz.ntmps24
  refine wp_seq_k (fun K1 hK1 => ?_)
  refine wp_region_lit ?_
  refine wl_yield (o := ⟨_, _, _, _, _, _⟩) (.string (bs ([]))) (yl_assign (by rfl) _ rfl _ rfl) ?_
  simp only [Act.put, lzA, lzB, lzC]
  refine wpList_nil ?_
  refine hK1 _ _ ?_
  clear hK1 K1
  refine wp_seq_k (fun K2 hK2 => ?_)
  refine wp_region_lit ?_
  refine wl_yield (o := ⟨_, _, _, _, _, _⟩) (.slice p f.length c) (yl_move (by rfl) _ rfl _ rfl) ?_
  simp only [Act.put, lzA, lzB, lzC]
  refine wl_yield (o := ⟨_, _, _, _, _, _⟩) (.int .i64 (f.length : Nat)) (yl_lenF (by rfl) _ rfl p f.length c rfl) ?_
  simp only [Act.put, lzA, lzB, lzC]
  refine wl_yield (o := ⟨_, _, _, _, _, _⟩) (.int .u64 ((f.length : Nat) : Int)) (yw_iu (by rfl) _ rfl ((f.length : Nat) : Int) rfl (by omega) (by omega)) ?_
  simp only [Act.put, lzA, lzB, lzC]
  refine wt_call (o := ⟨_, _, _, _, _, _⟩) (by rfl) 62 _ _ rfl #[.int .u64 ((f.length : Nat) : Int)] rfl (run_call Tryz.func62 (by kernel_rfl) (by kernel_rfl)) ?_
  refine (c_refUint f.length _ (by omega)).mono ?_
  rintro r v1 ⟨rfl, kb⟩
  replace D := grown_below D kb
  clear kb
  refine Or.inl ⟨.string (bs (enc f.length)), rfl, ?_⟩
  simp only [Act.put, lzA, lzB, lzC]
  refine wl_yield (o := ⟨_, _, _, _, _, _⟩) (.string (bs (enc f.length))) (yl_assign (by rfl) _ rfl _ rfl) ?_
  simp only [Act.put, lzA, lzB, lzC]
  refine wpList_nil ?_
  refine hK2 _ _ ?_
  clear hK2 K2
  refine wp_seq_k (fun K3 hK3 => ?_)
  refine wp_seq_k (fun K4 hK4 => ?_)
  refine wp_region_lit ?_
  refine wl_yield (o := ⟨_, _, _, _, _, _⟩) (.int .i64 0) (yl_assign (by rfl) _ rfl _ rfl) ?_
  simp only [Act.put, lzA, lzB, lzC]
  refine wpList_nil ?_
  refine hK4 _ _ ?_
  clear hK4 K4
  refine wp_block ?_
  go_loopw [3, 4] (fun x i wr => ∃ k : Nat, x = .string (bs (enc f.length ++ (f.take k).flatMap boxB)) ∧ i = .int .i64 k ∧ k ≤ f.length ∧ w.grownBy wr none) (fun _ i _ => f.length - (intOf i).toNat)
  case atStart => exact ⟨0, by rw [List.take_zero, List.flatMap_nil, List.append_nil], rfl, Nat.zero_le _, D⟩
  case round =>
    clear D
    obtain ⟨k, rfl, rfl, hk, D⟩ := hrel
    by_cases hlt : k < f.length
    · refine wp_seq_k (fun K5 hK5 => ?_)
      refine wp_seq_k (fun K6 hK6 => ?_)
      refine wp_region_lit ?_
      refine wl_yield (o := ⟨_, _, _, _, _, _⟩) (.int .i64 (k : Nat)) (yl_move (by rfl) _ rfl _ rfl) ?_
      simp only [Act.put, lzA, lzB, lzC]
      refine wl_yield (o := ⟨_, _, _, _, _, _⟩) (.slice p f.length c) (yl_move (by rfl) _ rfl _ rfl) ?_
      simp only [Act.put, lzA, lzB, lzC]
      refine wl_yield (o := ⟨_, _, _, _, _, _⟩) (.int .i64 (f.length : Nat)) (yl_lenF (by rfl) _ rfl p f.length c rfl) ?_
      simp only [Act.put, lzA, lzB, lzC]
      refine wl_yield (o := ⟨_, _, _, _, _, _⟩) (.bool true) (yt_lssI (by rfl) _ _ _ rfl ((k : Nat) : Int) ((f.length : Nat) : Int) true rfl rfl (decide_eq_true (by omega))) ?_
      simp only [Act.put, lzA, lzB, lzC]
      refine wpList_nil ?_
      refine hK6 _ _ ?_
      clear hK6 K6
      refine wp_cond_true rfl ?_
      refine wp_skip ?_
      refine hK5 _ _ ?_
      clear hK5 K5
      refine wp_seq_k (fun K7 hK7 => ?_)
      refine wp_block ?_
      refine wp_seq_k (fun K8 hK8 => ?_)
      refine wp_region_lit ?_
      refine wl_yield (o := ⟨_, _, _, _, _, _⟩) (.int .i64 0) (yl_assign (by rfl) _ rfl _ rfl) ?_
      simp only [Act.put, lzA, lzB, lzC]
      refine wpList_nil ?_
      refine hK8 _ _ ?_
      clear hK8 K8
      refine wp_block ?_
      go_loopw [3, 5] (fun x i wr => ∃ j : Nat, x = .string (bs ((enc f.length ++ (f.take k).flatMap boxB) ++ bxP (f.getD k zBox) j)) ∧ i = .int .i64 j ∧ j ≤ 4 ∧ w.grownBy wr none) (fun _ i _ => 4 - (intOf i).toNat)
      case atStart => exact ⟨0, (by show _ = Value.string (bs (_ ++ [])); rw [List.append_nil]), rfl, by omega, D⟩
      case round =>
        clear D
        obtain ⟨j, rfl, rfl, hj0, D⟩ := hrel
        by_cases hj : j < 4
        · obtain ⟨bI, oI, rfl, hat, hbx⟩ := hp _ (below_none D) k hlt
          refine wp_seq_k (fun K9 hK9 => ?_)
          refine wp_seq_k (fun K10 hK10 => ?_)
          refine wp_region_lit ?_
          refine wl_yield (o := ⟨_, _, _, _, _, _⟩) (.int .i64 (j : Nat)) (yl_move (by rfl) _ rfl _ rfl) ?_
          simp only [Act.put, lzA, lzB, lzC]
          refine wl_yield (o := ⟨_, _, _, _, _, _⟩) (.bool true) (yt_lssI (by rfl) _ _ _ rfl ((j : Nat) : Int) 4 true rfl rfl (decide_eq_true (by omega))) ?_
          simp only [Act.put, lzA, lzB, lzC]
          refine wpList_nil ?_
          refine hK10 _ _ ?_
          clear hK10 K10
          refine wp_cond_true rfl ?_
          refine wp_skip ?_
          refine hK9 _ _ ?_
          clear hK9 K9
          refine wp_seq_k (fun K11 hK11 => ?_)
          refine wp_block ?_
          refine wp_region_lit ?_
          refine wl_yield (o := ⟨_, _, _, _, _, _⟩) (.string (bs ((enc f.length ++ (f.take k).flatMap boxB) ++ bxP (f.getD k zBox) j))) (yl_move (by rfl) _ rfl _ rfl) ?_
          simp only [Act.put, lzA, lzB, lzC]
          refine wl_yield (o := ⟨_, _, _, _, _, _⟩) (.slice (some ⟨bI, oI, none⟩) f.length c) (yl_move (by rfl) _ rfl _ rfl) ?_
          simp only [Act.put, lzA, lzB, lzC]
          refine wl_yield (o := ⟨_, _, _, _, _, _⟩) (.int .i64 (k : Nat)) (yl_move (by rfl) _ rfl _ rfl) ?_
          simp only [Act.put, lzA, lzB, lzC]
          refine wl_yield (o := ⟨_, _, _, _, _, _⟩) (.int .i64 (j : Nat)) (yl_move (by rfl) _ rfl _ rfl) ?_
          simp only [Act.put, lzA, lzB, lzC]
          refine wl_yield (o := ⟨_, _, _, _, _, _⟩) (.pointer (some ⟨bI, oI + k * 16, none⟩)) (yl_fxAt (by rfl) _ _ rfl bI oI _ _ k rfl rfl (hlt)) ?_
          simp only [Act.put, lzA, lzB, lzC]
          refine wl_yield (o := ⟨_, _, _, _, _, _⟩) (.pointer (some ⟨bI, oI + k * 16 + j * 4, none⟩)) (yl_atBoxO (by rfl) _ _ rfl bI (oI + k * 16) j rfl rfl (hj)) ?_
          simp only [Act.put, lzA, lzB, lzC]
          refine wl_yield (o := ⟨_, _, _, _, _, _⟩) (SC.val (BxC.sc (cs.getD k bc0) j)) (yl_set (by rfl) _ rfl _ _ rfl _ _ _ _ (fun _ h => by subst h; exact BcAt.set4 hat j hj)) ?_
          simp only [Act.put, lzA, lzB, lzC]
          refine wt_call (o := ⟨_, _, _, _, _, _⟩) (by rfl) 63 _ _ rfl #[SC.val (BxC.sc (cs.getD k bc0) j)] rfl (run_call Tryz.func63 (by kernel_rfl) (by kernel_rfl)) ?_
          refine (refSet8_any (BxC.sc (cs.getD k bc0) j) (BoxV.get (f.getD k zBox) j) _ (okBx_get (hok _ (getD_memA f zBox k hlt)) j hj) (hbx.sc j hj)).mono ?_
          rintro r v2 ⟨rfl, kb⟩
          replace D := grown_below D kb
          clear kb
          refine Or.inl ⟨.string (bs (setB (BoxV.get (f.getD k zBox) j))), rfl, ?_⟩
          simp only [Act.put, lzA, lzB, lzC]
          refine wl_yield (o := ⟨_, _, _, _, _, _⟩) (.string (bs (((enc f.length ++ (f.take k).flatMap boxB) ++ bxP (f.getD k zBox) j) ++ (setB (BoxV.get (f.getD k zBox) j))))) (yt_cat (by rfl) _ _ _ rfl ((enc f.length ++ (f.take k).flatMap boxB) ++ bxP (f.getD k zBox) j) (setB (BoxV.get (f.getD k zBox) j)) rfl rfl (by (try simp only [List.length_append, List.length_nil]); have q1 := fil_le hok hl k; have q2 := bxP_le (hok _ (getD_memA f zBox k hlt)) j (by omega); have q3 := setB_le (okBx_get (hok _ (getD_memA f zBox k hlt)) j hj); omega)) ?_
          simp only [Act.put, lzA, lzB, lzC]
          refine wl_yield (o := ⟨_, _, _, _, _, _⟩) (.string (bs (((enc f.length ++ (f.take k).flatMap boxB) ++ bxP (f.getD k zBox) j) ++ (setB (BoxV.get (f.getD k zBox) j))))) (yl_assign (by rfl) _ rfl _ rfl) ?_
          simp only [Act.put, lzA, lzB, lzC]
          refine wpList_nil ?_
          refine hK11 _ _ ?_
          clear hK11 K11
          refine wp_region_lit ?_
          refine wl_yield (o := ⟨_, _, _, _, _, _⟩) (.int .i64 (j : Nat)) (yl_move (by rfl) _ rfl _ rfl) ?_
          simp only [Act.put, lzA, lzB, lzC]
          refine wl_yield (o := ⟨_, _, _, _, _, _⟩) (.int .i64 (j + 1 : Nat)) (yt_addI (by rfl) _ _ _ rfl ((j : Nat) : Int) 1 ((j + 1 : Nat) : Int) rfl rfl (by omega) (by omega) (by omega)) ?_
          simp only [Act.put, lzA, lzB, lzC]
          refine wl_yield (o := ⟨_, _, _, _, _, _⟩) (.int .i64 (j + 1 : Nat)) (yl_assign (by rfl) _ rfl _ rfl) ?_
          simp only [Act.put, lzA, lzB, lzC]
          refine wpList_nil ?_
          show _ ∧ _
          go_roundw
          case rel => exact ⟨j + 1, by rw [bxP_step]; simp only [List.append_assoc], rfl, by omega, D⟩
          case measure => simp [intOf]; omega
        · obtain rfl : j = 4 := by omega
          refine wp_seq_k (fun K9 hK9 => ?_)
          refine wp_seq_k (fun K10 hK10 => ?_)
          refine wp_region_lit ?_
          refine wl_yield (o := ⟨_, _, _, _, _, _⟩) (.int .i64 4) (yl_move (by rfl) _ rfl _ rfl) ?_
          simp only [Act.put, lzA, lzB, lzC]
          refine wl_yield (o := ⟨_, _, _, _, _, _⟩) (.bool false) (yt_lssI (by rfl) _ _ _ rfl 4 4 false rfl rfl (by decide)) ?_
          simp only [Act.put, lzA, lzB, lzC]
          refine wpList_nil ?_
          refine hK10 _ _ ?_
          clear hK10 K10
          refine wp_cond_false rfl ?_
          refine wp_exit ?_
          refine hK7 _ _ ?_
          clear hK9 K9 hK7 K7
          refine wp_region_lit ?_
          refine wl_yield (o := ⟨_, _, _, _, _, _⟩) (.int .i64 (k : Nat)) (yl_move (by rfl) _ rfl _ rfl) ?_
          simp only [Act.put, lzA, lzB, lzC]
          refine wl_yield (o := ⟨_, _, _, _, _, _⟩) (.int .i64 (k + 1 : Nat)) (yt_addI (by rfl) _ _ _ rfl ((k : Nat) : Int) 1 ((k + 1 : Nat) : Int) rfl rfl (by omega) (by omega) (by omega)) ?_
          simp only [Act.put, lzA, lzB, lzC]
          refine wl_yield (o := ⟨_, _, _, _, _, _⟩) (.int .i64 (k + 1 : Nat)) (yl_assign (by rfl) _ rfl _ rfl) ?_
          simp only [Act.put, lzA, lzB, lzC]
          refine wpList_nil ?_
          show _ ∧ _
          go_roundw
          case rel => exact ⟨k + 1, by rw [take_step boxB zBox f k hlt, ← bxP_all]; simp only [List.append_assoc], rfl, by omega, D⟩
          case measure => simp [intOf]; omega
    · obtain rfl : k = f.length := by omega
      refine wp_seq_k (fun K5 hK5 => ?_)
      refine wp_seq_k (fun K6 hK6 => ?_)
      refine wp_region_lit ?_
      refine wl_yield (o := ⟨_, _, _, _, _, _⟩) (.int .i64 (f.length : Nat)) (yl_move (by rfl) _ rfl _ rfl) ?_
      simp only [Act.put, lzA, lzB, lzC]
      refine wl_yield (o := ⟨_, _, _, _, _, _⟩) (.slice p f.length c) (yl_move (by rfl) _ rfl _ rfl) ?_
      simp only [Act.put, lzA, lzB, lzC]
      refine wl_yield (o := ⟨_, _, _, _, _, _⟩) (.int .i64 (f.length : Nat)) (yl_lenF (by rfl) _ rfl p f.length c rfl) ?_
      simp only [Act.put, lzA, lzB, lzC]
      refine wl_yield (o := ⟨_, _, _, _, _, _⟩) (.bool false) (yt_lssI (by rfl) _ _ _ rfl ((f.length : Nat) : Int) ((f.length : Nat) : Int) false rfl rfl (decide_eq_false (by omega))) ?_
      simp only [Act.put, lzA, lzB, lzC]
      refine wpList_nil ?_
      refine hK6 _ _ ?_
      clear hK6 K6
      refine wp_cond_false rfl ?_
      refine wp_exit ?_
      refine hK3 _ _ ?_
      clear hK5 K5 hK3 K3
      refine wp_seq_k (fun K7 hK7 => ?_)
      refine wp_region_lit ?_
      refine wl_yield (o := ⟨_, _, _, _, _, _⟩) (.string (bs (enc f.length ++ (f.take f.length).flatMap boxB))) (yl_move (by rfl) _ rfl _ rfl) ?_
      simp only [Act.put, lzA, lzB, lzC]
      refine wl_yield (o := ⟨_, _, _, _, _, _⟩) (.string (bs (enc f.length ++ (f.take f.length).flatMap boxB))) (yl_assign (by rfl) _ rfl _ rfl) ?_
      simp only [Act.put, lzA, lzB, lzC]
      refine wpList_nil ?_
      refine hK7 _ _ ?_
      clear hK7 K7
      refine wp_ret ?_
      try simp only [Exit.inBlock, Exit.then]
      rw [List.take_length] at *
      go_ret
      exact ⟨rfl, below_none D⟩
theorem refFilter_any (v : Value) (f : List BoxV) (w : World) (hv : Bxs w v f) (hok : ∀ b ∈ f, okBx b) (hl : f.length ≤ 4) :
    Calls Tryz.prog 24 #[v] w fun e w' => e = .returned (.string (bs (filB f))) ∧ Below w.heap.size w w' := by
  obtain ⟨p, c, cs, rfl, hp⟩ := bxs_parts hv
  exact refFilter_one f p c cs w hok hl hp
end Go.Proofs.YtlmdcaemjaldfaaGreat
namespace Go.Proofs.YtlmdcaemjaldfaaGreat
open Go.RowKit
def ev1 : EvV := evZ.put 0 (1, 1, ⟨#[]⟩)
def ev3 : EvV := evZ.put 0 (3, 0, ⟨#[]⟩)
theorem aw_f0 : rightF [] = true := by kernel_rfl
theorem aw_s0 : filB [] = [0] := by kernel_rfl
theorem aw_e1 : rightE ev1 = true := by kernel_rfl
theorem aw_s1 : evB ev1 = [1, 2, 0, 0, 0] := by kernel_rfl
theorem aw_e3 : rightE ev3 = false := by kernel_rfl
theorem aw_r1 : (rdF [1]).2 = 2 := by kernel_rfl
theorem aw_r2 : rdE [1, 2, 0, 0, 0] = (ev1, 0) := by kernel_rfl
theorem ev1_fit : evFit ev1 := ⟨Nat.zero_le _, Nat.zero_le _, Nat.zero_le _, Nat.zero_le _⟩
theorem ev3_fit : evFit ev3 := ⟨Nat.zero_le _, Nat.zero_le _, Nat.zero_le _, Nat.zero_le _⟩
theorem ev1_in : inE ev1 := fun i hi => by match i, hi with | 0, _ => exact ⟨by decide, by decide⟩ | 1, _ => exact ⟨by decide, by decide⟩ | 2, _ => exact ⟨by decide, by decide⟩ | 3, _ => exact ⟨by decide, by decide⟩
theorem ev3_in : inE ev3 := fun i hi => by match i, hi with | 0, _ => exact ⟨by decide, by decide⟩ | 1, _ => exact ⟨by decide, by decide⟩ | 2, _ => exact ⟨by decide, by decide⟩ | 3, _ => exact ⟨by decide, by decide⟩
section
variable {ops : Array Oper} {S : World → Prop} {o : Oper} {a : Act}
set_option maxRecDepth 100000 in
theorem yw_va11 (hw : Region.wanted o (yielded ops a.tmps) = true) (x y : Operand) (ho : o.op = .build 42 #[(0, x), (1, y)]) (p q : Int) (hx : a.eval x = .int .i64 p) (hy : a.eval y = .int .i64 q) : YieldsIf Tryz.prog ops S o (vVal (p, q, ⟨#[]⟩)) a :=
  Or.inl ⟨hw, fun w _ => by
    simp only [execOp, ho, List.map_toArray, List.map_cons, List.map_nil, hx, hy, vVal]
    go_simp⟩
set_option maxRecDepth 100000 in
theorem yw_ev0 (hw : Region.wanted o (yielded ops a.tmps) = true) (x : Operand) (ho : o.op = .build 44 #[(0, x)]) (v : Va) (hx : a.eval x = vVal v) : YieldsIf Tryz.prog ops S o (evVal (evZ.put 0 v)) a :=
  Or.inl ⟨hw, fun w _ => by
    simp only [execOp, ho, List.map_toArray, List.map_cons, List.map_nil, hx, vVal, evVal, evZ, vaZ, EvV.put]
    go_simp⟩
end
set_option maxHeartbeats 4000000 in
set_option maxRecDepth 100000 in
theorem awake8_any (w : World) :
    Calls Tryz.prog 20 #[] w fun r w' => r = .returned (.bool true) ∧ Below w.heap.size w w' := by
  have D : w.grownBy w none := grown_refl _ _
  go_enter Tryz.func20, Tryz.ntmps20
  refine wp_seq_k (fun K1 hK1 => ?_)
  refine wp_region_lit ?_
  refine wl_yield (o := ⟨_, _, _, _, _, _⟩) (.bool false) (yl_assign (by rfl) _ rfl _ rfl) ?_
  simp only [Act.put, lzA, lzB, lzC]
  refine wpList_nil ?_
  refine hK1 _ _ ?_
  clear hK1 K1
  refine wp_seq_k (fun K2 hK2 => ?_)
  refine wp_region_lit ?_
  refine wt_call (o := ⟨_, _, _, _, _, _⟩) (by rfl) 21 _ _ rfl #[.slice none 0 0] rfl (run_call Tryz.func21 (by kernel_rfl) (by kernel_rfl)) ?_
  refine (filter8_yes _ [] _ (bxs_nil _) aw_f0).mono ?_
  rintro r v1 ⟨rfl, kb⟩
  replace D := grown_below D kb
  clear kb
  refine Or.inl ⟨.tuple #[.string (bs (filB [])), .int .i64 0], rfl, ?_⟩
  simp only [Act.put, lzA, lzB, lzC]
  refine wl_yield (o := ⟨_, _, _, _, _, _⟩) (.tuple #[.string (bs (filB [])), .int .i64 0]) (yl_move (by rfl) _ rfl _ rfl) ?_
  simp only [Act.put, lzA, lzB, lzC]
  refine wl_yield (o := ⟨_, _, _, _, _, _⟩) (.string (bs (filB []))) (yl_extract0 (by rfl) _ rfl _ _ rfl) ?_
  simp only [Act.put, lzA, lzB, lzC]
  refine wl_yield (o := ⟨_, _, _, _, _, _⟩) (.int .i64 0) (yl_extract1 (by rfl) _ rfl _ _ rfl) ?_
  simp only [Act.put, lzA, lzB, lzC]
  refine wl_yield (o := ⟨_, _, _, _, _, _⟩) (.string (bs (filB []))) (yl_assign (by rfl) _ rfl _ rfl) ?_
  simp only [Act.put, lzA, lzB, lzC]
  refine wl_yield (o := ⟨_, _, _, _, _, _⟩) (.int .i64 0) (yl_assign (by rfl) _ rfl _ rfl) ?_
  simp only [Act.put, lzA, lzB, lzC]
  refine wpList_nil ?_
  refine hK2 _ _ ?_
  clear hK2 K2
  refine wp_seq_k (fun K3 hK3 => ?_)
  refine wp_region_lit ?_
  refine wl_yield (o := ⟨_, _, _, _, _, _⟩) (vVal (1, 1, ⟨#[]⟩)) (yw_va11 (by rfl) _ _ rfl 1 1 rfl rfl) ?_
  simp only [Act.put, lzA, lzB, lzC]
  refine wl_yield (o := ⟨_, _, _, _, _, _⟩) (evVal ev1) (yw_ev0 (by rfl) _ rfl (1, 1, ⟨#[]⟩) rfl) ?_
  simp only [Act.put, lzA, lzB, lzC]
  refine wt_call (o := ⟨_, _, _, _, _, _⟩) (by rfl) 30 _ _ rfl #[evVal ev1] rfl (run_call Tryz.func30 (by kernel_rfl) (by kernel_rfl)) ?_
  refine (event8_yes ev1 _ ev1_fit ev1_in aw_e1).mono ?_
  rintro r v2 ⟨rfl, kb⟩
  replace D := grown_below D kb
  clear kb
  refine Or.inl ⟨.tuple #[.string (bs (evB ev1)), .int .i64 0], rfl, ?_⟩
  simp only [Act.put, lzA, lzB, lzC]
  refine wl_yield (o := ⟨_, _, _, _, _, _⟩) (.tuple #[.string (bs (evB ev1)), .int .i64 0]) (yl_move (by rfl) _ rfl _ rfl) ?_
  simp only [Act.put, lzA, lzB, lzC]
  refine wl_yield (o := ⟨_, _, _, _, _, _⟩) (.string (bs (evB ev1))) (yl_extract0 (by rfl) _ rfl _ _ rfl) ?_
  simp only [Act.put, lzA, lzB, lzC]
  refine wl_yield (o := ⟨_, _, _, _, _, _⟩) (.int .i64 0) (yl_extract1 (by rfl) _ rfl _ _ rfl) ?_
  simp only [Act.put, lzA, lzB, lzC]
  refine wl_yield (o := ⟨_, _, _, _, _, _⟩) (.string (bs (evB ev1))) (yl_assign (by rfl) _ rfl _ rfl) ?_
  simp only [Act.put, lzA, lzB, lzC]
  refine wl_yield (o := ⟨_, _, _, _, _, _⟩) (.int .i64 0) (yl_assign (by rfl) _ rfl _ rfl) ?_
  simp only [Act.put, lzA, lzB, lzC]
  refine wpList_nil ?_
  refine hK3 _ _ ?_
  clear hK3 K3
  refine wp_seq_k (fun K4 hK4 => ?_)
  refine wp_region_lit ?_
  refine wl_yield (o := ⟨_, _, _, _, _, _⟩) (vVal (3, 0, ⟨#[]⟩)) (yw_buildV1 (by rfl) _ rfl 3 rfl) ?_
  simp only [Act.put, lzA, lzB, lzC]
  refine wl_yield (o := ⟨_, _, _, _, _, _⟩) (evVal ev3) (yw_ev0 (by rfl) _ rfl (3, 0, ⟨#[]⟩) rfl) ?_
  simp only [Act.put, lzA, lzB, lzC]
  refine wt_call (o := ⟨_, _, _, _, _, _⟩) (by rfl) 30 _ _ rfl #[evVal ev3] rfl (run_call Tryz.func30 (by kernel_rfl) (by kernel_rfl)) ?_
  refine (event8_no ev3 _ ev3_fit ev3_in aw_e3).mono ?_
  rintro r v3 ⟨rfl, kb⟩
  replace D := grown_below D kb
  clear kb
  refine Or.inl ⟨.tuple #[.string (bs ([])), .int .i64 1], rfl, ?_⟩
  simp only [Act.put, lzA, lzB, lzC]
  refine wl_yield (o := ⟨_, _, _, _, _, _⟩) (.tuple #[.string (bs ([])), .int .i64 1]) (yl_move (by rfl) _ rfl _ rfl) ?_
  simp only [Act.put, lzA, lzB, lzC]
  refine wl_yield (o := ⟨_, _, _, _, _, _⟩) (.string (bs ([]))) (yl_extract0 (by rfl) _ rfl _ _ rfl) ?_
  simp only [Act.put, lzA, lzB, lzC]
  refine wl_yield (o := ⟨_, _, _, _, _, _⟩) (.int .i64 1) (yl_extract1 (by rfl) _ rfl _ _ rfl) ?_
  simp only [Act.put, lzA, lzB, lzC]
  refine wl_yield (o := ⟨_, _, _, _, _, _⟩) (.string (bs ([]))) (yl_assign (by rfl) _ rfl _ rfl) ?_
  simp only [Act.put, lzA, lzB, lzC]
  refine wl_yield (o := ⟨_, _, _, _, _, _⟩) (.int .i64 1) (yl_assign (by rfl) _ rfl _ rfl) ?_
  simp only [Act.put, lzA, lzB, lzC]
  refine wpList_nil ?_
  refine hK4 _ _ ?_
  clear hK4 K4
  refine wp_seq_k (fun K5 hK5 => ?_)
  refine wp_region_lit ?_
  refine wt_call (o := ⟨_, _, _, _, _, _⟩) (by rfl) 23 _ _ rfl #[.string (bs ([1]))] rfl (run_call Tryz.func23 (by kernel_rfl) (by kernel_rfl)) ?_
  refine (readFilter_any [1] _ (by decide)).mono ?_
  rintro r v4 (⟨p, n, c, z, rfl, ⟨-, hzz⟩, kb⟩)
  · rw [aw_r1] at hzz
    subst hzz
    replace D := grown_below D kb
    clear kb
    refine Or.inl ⟨.tuple #[.slice p n c, .int .i64 2], rfl, ?_⟩
    simp only [Act.put, lzA, lzB, lzC]
    refine wl_yield (o := ⟨_, _, _, _, _, _⟩) (.tuple #[.slice p n c, .int .i64 2]) (yl_move (by rfl) _ rfl _ rfl) ?_
    simp only [Act.put, lzA, lzB, lzC]
    refine wl_yield (o := ⟨_, _, _, _, _, _⟩) (.slice p n c) (yl_extract0 (by rfl) _ rfl _ _ rfl) ?_
    simp only [Act.put, lzA, lzB, lzC]
    refine wl_yield (o := ⟨_, _, _, _, _, _⟩) (.int .i64 2) (yl_extract1 (by rfl) _ rfl _ _ rfl) ?_
    simp only [Act.put, lzA, lzB, lzC]
    refine wl_yield (o := ⟨_, _, _, _, _, _⟩) (.slice p n c) (yl_assign (by rfl) _ rfl _ rfl) ?_
    simp only [Act.put, lzA, lzB, lzC]
    refine wl_yield (o := ⟨_, _, _, _, _, _⟩) (.int .i64 2) (yl_assign (by rfl) _ rfl _ rfl) ?_
    simp only [Act.put, lzA, lzB, lzC]
    refine wpList_nil ?_
    refine hK5 _ _ ?_
    clear hK5 K5
    refine wp_seq_k (fun K6 hK6 => ?_)
    refine wp_region_lit ?_
    refine wl_yield (o := ⟨_, _, _, _, _, _⟩) (.string (bs (evB ev1))) (yl_move (by rfl) _ rfl _ rfl) ?_
    simp only [Act.put, lzA, lzB, lzC]
    refine wt_call (o := ⟨_, _, _, _, _, _⟩) (by rfl) 27 _ _ rfl #[.string (bs (evB ev1))] rfl (run_call Tryz.func27 (by kernel_rfl) (by kernel_rfl)) ?_
    refine (readEvent8_any (evB ev1) _ (by rw [aw_s1]; decide)).mono ?_
    rintro r v5 ⟨rfl, kb⟩
    replace D := grown_below D kb
    clear kb
    refine Or.inl ⟨.tuple #[evVal ev1, .int .i64 0], by rw [aw_s1, aw_r2], ?_⟩
    simp only [Act.put, lzA, lzB, lzC]
    refine wl_yield (o := ⟨_, _, _, _, _, _⟩) (.tuple #[evVal ev1, .int .i64 0]) (yl_move (by rfl) _ rfl _ rfl) ?_
    simp only [Act.put, lzA, lzB, lzC]
    refine wl_yield (o := ⟨_, _, _, _, _, _⟩) (evVal ev1) (yl_extract0 (by rfl) _ rfl _ _ rfl) ?_
    simp only [Act.put, lzA, lzB, lzC]
    refine wl_yield (o := ⟨_, _, _, _, _, _⟩) (.int .i64 0) (yl_extract1 (by rfl) _ rfl _ _ rfl) ?_
    simp only [Act.put, lzA, lzB, lzC]
    refine wt_allocEv (o := ⟨_, _, _, _, _, _⟩) (by rfl) rfl (fun v6 g6 hg G6 kb => ?_)
    simp only [Act.put, lzA, lzB, lzC]
    have ge_g6 : w.heap.size ≤ g6 := Nat.le_trans D.size hg
    clear hg
    replace D := grown_below D kb
    clear kb
    replace G6 : EvIn v6 g6 evZ := G6
    refine wt_putEv (o := ⟨_, _, _, _, _, _⟩) rfl _ _ rfl g6 rfl ev1 rfl G6 rfl (fun v7 X kg => ?_)
    simp only [Act.put, lzA, lzB, lzC]
    replace D := gr_new D ge_g6 kg
    clear kg
    replace G6 : EvIn v7 g6 ev1 := X
    clear X
    refine wl_yield (o := ⟨_, _, _, _, _, _⟩) (.int .i64 0) (yl_assign (by rfl) _ rfl _ rfl) ?_
    simp only [Act.put, lzA, lzB, lzC]
    refine wpList_nil ?_
    refine hK6 _ _ ?_
    clear hK6 K6
    refine wp_seq_k (fun K7 hK7 => ?_)
    refine wp_region_lit ?_
    refine wl_yield (o := ⟨_, _, _, _, _, _⟩) (.string (bs (filB []))) (yl_move (by rfl) _ rfl _ rfl) ?_
    simp only [Act.put, lzA, lzB, lzC]
    refine wl_yield (o := ⟨_, _, _, _, _, _⟩) (.bool true) (yt_eqS (by rfl) _ _ _ rfl (filB []) ([0]) true rfl rfl (by rw [aw_s0]; decide)) ?_
    simp only [Act.put, lzA, lzB, lzC]
    refine wl_yield (o := ⟨_, _, _, _, _, _⟩) (.bool true) (yl_move (by rfl) _ rfl _ rfl) ?_
    simp only [Act.put, lzA, lzB, lzC]
    refine wl_yield (o := ⟨_, _, _, _, _, _⟩) (.int .i64 0) (yl_move (by rfl) _ rfl _ rfl) ?_
    simp only [Act.put, lzA, lzB, lzC]
    refine wl_yield (o := ⟨_, _, _, _, _, _⟩) (.bool true) (yt_eqlE (by rfl) _ _ _ rfl 0 0 true rfl rfl (by decide)) ?_
    simp only [Act.put, lzA, lzB, lzC]
    refine wl_yield (o := ⟨_, _, _, _, _, _⟩) (.bool true) (yl_pickT (by rfl) _ _ _ rfl rfl _ rfl) ?_
    simp only [Act.put, lzA, lzB, lzC]
    refine wl_yield (o := ⟨_, _, _, _, _, _⟩) (.bool true) (yl_move (by rfl) _ rfl _ rfl) ?_
    simp only [Act.put, lzA, lzB, lzC]
    refine wl_yield (o := ⟨_, _, _, _, _, _⟩) (.string (bs (evB ev1))) (yl_move (by rfl) _ rfl _ rfl) ?_
    simp only [Act.put, lzA, lzB, lzC]
    refine wl_yield (o := ⟨_, _, _, _, _, _⟩) (.bool true) (yt_eqS (by rfl) _ _ _ rfl (evB ev1) ([1, 2, 0, 0, 0]) true rfl rfl (by rw [aw_s1]; decide)) ?_
    simp only [Act.put, lzA, lzB, lzC]
    refine wl_yield (o := ⟨_, _, _, _, _, _⟩) (.bool true) (yl_pickT (by rfl) _ _ _ rfl rfl _ rfl) ?_
    simp only [Act.put, lzA, lzB, lzC]
    refine wl_yield (o := ⟨_, _, _, _, _, _⟩) (.bool true) (yl_move (by rfl) _ rfl _ rfl) ?_
    simp only [Act.put, lzA, lzB, lzC]
    refine wl_yield (o := ⟨_, _, _, _, _, _⟩) (.int .i64 0) (yl_move (by rfl) _ rfl _ rfl) ?_
    simp only [Act.put, lzA, lzB, lzC]
    refine wl_yield (o := ⟨_, _, _, _, _, _⟩) (.bool true) (yt_eqlE (by rfl) _ _ _ rfl 0 0 true rfl rfl (by decide)) ?_
    simp only [Act.put, lzA, lzB, lzC]
    refine wl_yield (o := ⟨_, _, _, _, _, _⟩) (.bool true) (yl_pickT (by rfl) _ _ _ rfl rfl _ rfl) ?_
    simp only [Act.put, lzA, lzB, lzC]
    refine wl_yield (o := ⟨_, _, _, _, _, _⟩) (.bool true) (yl_move (by rfl) _ rfl _ rfl) ?_
    simp only [Act.put, lzA, lzB, lzC]
    refine wl_yield (o := ⟨_, _, _, _, _, _⟩) (.int .i64 1) (yl_move (by rfl) _ rfl _ rfl) ?_
    simp only [Act.put, lzA, lzB, lzC]
    refine wl_yield (o := ⟨_, _, _, _, _, _⟩) (.bool true) (yt_eqlE (by rfl) _ _ _ rfl 1 1 true rfl rfl (by decide)) ?_
    simp only [Act.put, lzA, lzB, lzC]
    refine wl_yield (o := ⟨_, _, _, _, _, _⟩) (.bool true) (yl_pickT (by rfl) _ _ _ rfl rfl _ rfl) ?_
    simp only [Act.put, lzA, lzB, lzC]
    refine wl_yield (o := ⟨_, _, _, _, _, _⟩) (.bool true) (yl_move (by rfl) _ rfl _ rfl) ?_
    simp only [Act.put, lzA, lzB, lzC]
    refine wl_yield (o := ⟨_, _, _, _, _, _⟩) (.int .i64 2) (yl_move (by rfl) _ rfl _ rfl) ?_
    simp only [Act.put, lzA, lzB, lzC]
    refine wl_yield (o := ⟨_, _, _, _, _, _⟩) (.bool true) (yt_eqlE (by rfl) _ _ _ rfl 2 2 true rfl rfl (by decide)) ?_
    simp only [Act.put, lzA, lzB, lzC]
    refine wl_yield (o := ⟨_, _, _, _, _, _⟩) (.bool true) (yl_pickT (by rfl) _ _ _ rfl rfl _ rfl) ?_
    simp only [Act.put, lzA, lzB, lzC]
    refine wl_yield (o := ⟨_, _, _, _, _, _⟩) (.bool true) (yl_move (by rfl) _ rfl _ rfl) ?_
    simp only [Act.put, lzA, lzB, lzC]
    refine wl_yield (o := ⟨_, _, _, _, _, _⟩) (.pointer (some ⟨g6, 0, none⟩)) (yl_atEv (by rfl) _ _ rfl g6 0 rfl rfl (by omega)) ?_
    simp only [Act.put, lzA, lzB, lzC]
    refine wl_yield (o := ⟨_, _, _, _, _, _⟩) (.pointer (some ⟨g6, 1, none⟩)) (yt_fVa1 (by rfl) _ rfl g6 0 rfl) ?_
    simp only [Act.put, lzA, lzB, lzC]
    refine wl_yield (o := ⟨_, _, _, _, _, _⟩) (.int .i64 1) (yt_ldI (by rfl) _ rfl _ _ rfl 1 (fun _ h => by subst h; exact (EvIn.cells G6).2.1)) ?_
    simp only [Act.put, lzA, lzB, lzC]
    refine wl_yield (o := ⟨_, _, _, _, _, _⟩) (.bool true) (yt_eqlI (by rfl) _ _ _ rfl 1 1 true rfl rfl (by decide)) ?_
    simp only [Act.put, lzA, lzB, lzC]
    refine wl_yield (o := ⟨_, _, _, _, _, _⟩) (.bool true) (yl_pickT (by rfl) _ _ _ rfl rfl _ rfl) ?_
    simp only [Act.put, lzA, lzB, lzC]
    refine wl_yield (o := ⟨_, _, _, _, _, _⟩) (.bool true) (yl_move (by rfl) _ rfl _ rfl) ?_
    simp only [Act.put, lzA, lzB, lzC]
    refine wl_yield (o := ⟨_, _, _, _, _, _⟩) (.int .i64 0) (yl_move (by rfl) _ rfl _ rfl) ?_
    simp only [Act.put, lzA, lzB, lzC]
    refine wl_yield (o := ⟨_, _, _, _, _, _⟩) (.bool true) (yt_eqlE (by rfl) _ _ _ rfl 0 0 true rfl rfl (by decide)) ?_
    simp only [Act.put, lzA, lzB, lzC]
    refine wl_yield (o := ⟨_, _, _, _, _, _⟩) (.bool true) (yl_pickT (by rfl) _ _ _ rfl rfl _ rfl) ?_
    simp only [Act.put, lzA, lzB, lzC]
    refine wl_yield (o := ⟨_, _, _, _, _, _⟩) (.bool true) (yl_assign (by rfl) _ rfl _ rfl) ?_
    simp only [Act.put, lzA, lzB, lzC]
    refine wpList_nil ?_
    refine hK7 _ _ ?_
    clear hK7 K7
    refine wp_ret ?_
    go_ret
    exact ⟨rfl, below_none D⟩
end Go.Proofs.YtlmdcaemjaldfaaGreat
namespace Go.Proofs.YtlmdcaemjaldfaaGreat
open Go.RowKit
section
variable {ops : Array Oper} {S : World → Prop} {o : Oper} {a : Act}
end
end Go.Proofs.YtlmdcaemjaldfaaGreat
namespace Go.Proofs.YtlmdcaemjaldfaaGreat
open Go.ChangeShapes Go.WideShapes Go.ChangeAt Go.WideMaps Go.WideElems Go.RowKit Go.Joins
section
variable {H : Type} {enc : TypeId × Value → H} {W : World} {base : Nat} {sp : Nat → Bool} {held : Bool}
end
section
variable {H : Type} {enc : TypeId × Value → H} {W : World}
end
end Go.Proofs.YtlmdcaemjaldfaaGreat
namespace Go.Proofs.YtlmdcaemjaldfaaGreat
open Go.Deep Go.ChangeShapes Go.WideShapes Go.ChangeAt Go.WideMaps Go.WideElems Go.RowKit Go.Joins
theorem cut3 {α : Type} (k : Nat) {l : List α} (h : l.length = k + 3) : ∃ a b c r, l = a :: b :: c :: r ∧ r.length = k := by
  cases l with
  | nil => simp at h
  | cons a l => cases l with
    | nil => simp at h
    | cons b l => cases l with
      | nil => simp at h
      | cons c l => exact ⟨a, b, c, l, rfl, by simpa using h⟩
section
variable {H : Type} {enc : TypeId × Value → H} {W : World}
end
end Go.Proofs.YtlmdcaemjaldfaaGreat
namespace Go.Proofs.YtlmdcaemjaldfaaGreat
open Go.Deep Go.ChangeShapes Go.WideShapes Go.ChangeAt Go.WideMaps Go.WideElems Go.RowKit Go.Joins
theorem cut4 {α : Type} (k : Nat) {l : List α} (h : l.length = k + 4) : ∃ a b c d r, l = a :: b :: c :: d :: r ∧ r.length = k := by
  obtain ⟨a, b, c, r, rfl, hr⟩ := cut3 (k + 1) (l := l) (by omega)
  cases r with
  | nil => simp at hr
  | cons d r => exact ⟨a, b, c, d, r, rfl, by simpa using hr⟩
theorem cellsBx : Tryz.prog.cellsOf 40 = 16 := by kernel_rfl
section
variable {H : Type} {enc : TypeId × Value → H} {W : World}
end
end Go.Proofs.YtlmdcaemjaldfaaGreat
namespace Go.Proofs.YtlmdcaemjaldfaaGreat
open Go.Deep Go.ChangeShapes Go.WideShapes Go.ChangeAt Go.WideMaps Go.WideElems Go.RowKit Go.Joins
section
variable {H : Type} {enc : TypeId × Value → H} {W : World}
set_option maxRecDepth 100000 in
theorem open_boxc {fuel : Nat} {cs : List Value} {z : DataW H × List MemPlace} (hl : cs.length = 16) (hf : DataW.trod enc Tryz.prog W 0 (fun _ => true) true fuel 40 cs = some z) : ∃ (c : BxC) (b : BoxV), cs = c.list ∧ BoxAt W c.val b := by
  obtain ⟨a0, a1, a2, a3, l1, rfl, q1⟩ := cut4 12 (show cs.length = 12 + 4 from hl)
  obtain ⟨b0, b1, b2, b3, l2, rfl, q2⟩ := cut4 8 q1
  obtain ⟨c0, c1, c2, c3, l3, rfl, q3⟩ := cut4 4 q2
  obtain ⟨d0, d1, d2, d3, l4, rfl, q4⟩ := cut4 0 q3
  obtain rfl : l4 = [] := List.length_eq_zero_iff.1 q4
  obtain ⟨xs, m, _, hx, _, hlen, he⟩ := DataW.trod_array Tryz.underlying40 hf
  simp only [cellsSet] at he
  have g0 := he 0 (by omega)
  have g1 := he 1 (by omega)
  have g2 := he 2 (by omega)
  have g3 := he 3 (by omega)
  match xs, hlen with
  | [y0, y1, y2, y3], _ =>
    simp at g0 g1 g2 g3
    obtain ⟨S0, h0⟩ := open_setc g0
    obtain ⟨S1, h1⟩ := open_setc g1
    obtain ⟨S2, h2⟩ := open_setc g2
    obtain ⟨S3, h3⟩ := open_setc g3
    obtain ⟨s0, e0⟩ := h0.sc
    obtain ⟨s1, e1⟩ := h1.sc
    obtain ⟨s2, e2⟩ := h2.sc
    obtain ⟨s3, e3⟩ := h3.sc
    rw [e0] at h0
    rw [e1] at h1
    rw [e2] at h2
    rw [e3] at h3
    unfold SC.val at e0 e1 e2 e3
    simp at e0 e1 e2 e3
    obtain ⟨rfl, rfl, rfl, rfl⟩ := e0
    obtain ⟨rfl, rfl, rfl, rfl⟩ := e1
    obtain ⟨rfl, rfl, rfl, rfl⟩ := e2
    obtain ⟨rfl, rfl, rfl, rfl⟩ := e3
    exact ⟨⟨s0, s1, s2, s3⟩, ⟨S0, S1, S2, S3⟩, rfl, boxAt_of h0 h1 h2 h3⟩
set_option maxRecDepth 100000 in
theorem open_boxesA {r : Reach} {b0 : Nat} {v : Value} {d : DataW H} {p : List MemPlace} (hv : Value.okWide Tryz.prog W r b0 31 v) (h : DataW.Trod enc Tryz.prog W 0 (fun _ => true) true 31 v d p) :
    ∃ l : List BoxV, Bxs W v l ∧ nilOk v := by
  obtain ⟨a0, len0, cap0, rfl⟩ := Go.WideShapes.okWide_slice Tryz.underlying31 hv
  obtain ⟨fuel, hf⟩ := h
  rcases DataW.trod_slice Tryz.underlying31 hf with ⟨h0, _⟩ | ⟨a, len, cap, elems, rest, n', rfl, h0, _, hb, hlc, hm, hel, he, _, _⟩
  · simp [Value.cells] at h0
    obtain ⟨rfl, rfl, rfl⟩ := h0
    exact ⟨[], bxs_nil W, fun _ _ _ => rfl⟩
  · simp [Value.cells] at h0
    obtain ⟨rfl, rfl, rfl⟩ := h0
    have hone : ∀ i, i < len0 → ∃ cs' z, W.cells? 0 (a.add (i * 16)) 16 = some cs' ∧ DataW.trod enc Tryz.prog W 0 (fun _ => true) true n' 40 cs' = some z := fun i hi => by
      have h1 := he i hi
      rw [cellsBx, List.getElem?_eq_getElem (by omega), Option.bind_eq_some_iff] at h1
      obtain ⟨cs', h2, h3⟩ := h1
      exact ⟨cs', _, h2, h3⟩
    have hspot : 0 < len0 → a.spot = none := fun hpos => by
      obtain ⟨cs0, _, z1, _⟩ := hone 0 hpos
      obtain ⟨_, zl, zc⟩ := World.cells?_some z1
      have z0 := zc 0 (by omega)
      rw [List.getElem?_eq_getElem (by omega)] at z0
      simpa [Addr.add] using World.cell?_spot z0
    have hall : ∀ i, i < len0 → ∃ q : BxC × BoxV, W.rangeAt a.block (a.off + i * 16) q.1.list ∧ BoxAt W q.1.val q.2 := fun i hi => by
      obtain ⟨cs', z, h1, h2⟩ := hone i hi
      obtain ⟨_, zl, zc⟩ := World.cells?_some h1
      obtain ⟨c, b, hd, hx⟩ := open_boxc zl h2
      obtain ⟨bk, off, spot⟩ := a
      have hs : spot = none := hspot (by omega)
      subst hs hd
      have fj : ∀ j, ((Addr.mk bk off none).add (i * 16)).add j = ⟨bk, off + i * 16 + j, none⟩ := fun j => by rw [Go.Deep.add_add, Go.WideShapes.add_plain]; congr 1; omega
      refine ⟨(c, b), fun j u hu => ?_, hx⟩
      have hj : j < 16 := by
        have := (List.getElem?_eq_some_iff.1 hu).1
        rwa [BxC.list_len] at this
      have q := zc j hj
      rw [fj] at q
      exact q.trans hu
    have : Inhabited (BxC × BoxV) := ⟨(bc0, zBox)⟩
    obtain ⟨f, hf'⟩ := choose_lt hall
    refine ⟨(List.range len0).map fun i => (f i).2, ⟨(List.range len0).map fun i => (f i).1, ⟨by simp; unfold maxLen at hm; omega, some a, cap0, by simp, fun i hi => ?_⟩, by simp, fun i hi => ?_⟩, fun n c e => by cases e⟩
    · simp at hi
      obtain ⟨q1, q2⟩ := hf' i hi
      have hsp := hspot (by omega)
      have hg : ((List.range len0).map fun i => (f i).1).getD i bc0 = (f i).1 := by
        rw [List.getD_eq_getElem?_getD, List.getElem?_map, List.getElem?_range hi]
        rfl
      rw [hg]
      refine ⟨a.block, a.off, by rw [← hsp], ?_, q1⟩
      have := q1 0 _ (List.getElem?_eq_getElem (by rw [BxC.list_len]; omega))
      exact lt_cell (a := ⟨a.block, _, none⟩) this
    · simp at hi
      obtain ⟨q1, q2⟩ := hf' i hi
      have hg : ((List.range len0).map fun i => (f i).1).getD i bc0 = (f i).1 := by
        rw [List.getD_eq_getElem?_getD, List.getElem?_map, List.getElem?_range hi]
        rfl
      have hg2 : ((List.range len0).map fun i => (f i).2).getD i zBox = (f i).2 := by
        rw [List.getD_eq_getElem?_getD, List.getElem?_map, List.getElem?_range hi]
        rfl
      rw [hg, hg2]
      exact q2
end
theorem Bxs.boxesAt {w : World} {v : Value} {l : List BoxV} (h : Bxs w v l) : BoxesAt w v l := by
  obtain ⟨cs, ⟨h1, a, cap, rfl, hel⟩, hl, ha⟩ := h
  rw [hl] at h1 hel ⊢
  refine ⟨h1, a, cap, rfl, fun i hi => ?_⟩
  obtain ⟨g, off, rfl, hg, hr⟩ := hel i hi
  have hb := ha i hi
  obtain ⟨⟨h0, h1, h2, h3⟩, ⟨a0, a1, a2, a3⟩, ⟨b0, b1, b2, b3⟩, ⟨c0, c1, c2, c3⟩, d0, d1, d2, d3⟩ := sc_forms (s0 := (cs.getD i bc0).s0) (s1 := (cs.getD i bc0).s1) (s2 := (cs.getD i bc0).s2) (s3 := (cs.getD i bc0).s3) hb
  have e : l.getD i noBox = l.getD i zBox := rfl
  rw [e, ← a0, ← a2, ← b0, ← b2, ← c0, ← c2, ← d0, ← d2]
  exact ⟨g, off, _, _, _, _, _, _, _, _, rfl, hg, ⟨hr 0 _ rfl, hr 1 _ rfl, hr 2 _ rfl, hr 3 _ rfl, hr 4 _ rfl, hr 5 _ rfl, hr 6 _ rfl, hr 7 _ rfl, hr 8 _ rfl, hr 9 _ rfl, hr 10 _ rfl, hr 11 _ rfl, hr 12 _ rfl, hr 13 _ rfl, hr 14 _ rfl, hr 15 _ rfl⟩, h0, h1, h2, h3⟩
end Go.Proofs.YtlmdcaemjaldfaaGreat
