import Derived.Test.YtlmdcaemjaldfaaGreatDoorR1
import Derived.Test.YtlmdcaemjaldfaaGreatDoorR3
import Derived.Test.YtlmdcaemjaldfaaGreatDoorR2
import Derived.Recover
set_option linter.unusedSimpArgs false
set_option linter.unusedVariables false
namespace Go.Proofs.YtlmdcaemjaldfaaGreatDoor
open Go.RowKit
attribute [local go_sem ↓] Go.wp_at_zero Go.wp_at_succ
set_option maxHeartbeats 1000000 in
set_option maxRecDepth 100000 in
theorem quote_any (s : ByteArray) (w : World) (hs : s.size ≤ 1048576) :
    Calls Tryz.prog 39 #[.string s] w fun e w' => e = .returned (.string ⟨(quoteL s.data.toList).toArray⟩) ∧ Below w.heap.size w w' := by
  obtain ⟨i0, hi, hz0, hz1, hz2⟩ := info_parts infoByte
  go_enter Tryz.func39, Tryz.ntmps39
  go_wp2_with (at_make; refine wpList_make_own _ rfl _ _ 110 rfl w.heap.size 5 i0 (.int .u8 0) 1 Tryz.underlying110 hi hz0 hz1 _ _ _ (s.size + 2) rfl rfl (by omega) ?b2 ?b3 (Nat.le_refl _) ?_)
  case b2 => rw [hz2]; omega
  case b3 => unfold maxLen; omega
  intro w0 hown0 hgrow0
  have hb0 : Below w.heap.size w w0 := (Below.refl _ _).grown hgrow0 (Nat.le_refl _) (fun k h => by cases h)
  have hz := hb0.size
  have hO0 : Own w0 w.heap.size (.slice (some ⟨w.heap.size, 0, none⟩) 0 (s.size + 2)) [] := hown0
  clear hown0 hgrow0 hi hz0 hz1 hz2
  go_wp2_with (at_builtin; refine wpList_app _ rfl _ _ rfl w.heap.size _ [] rfl (hO0.alloc _) w0.heap.size 1 1 _ [39] rfl rfl (heap_top _ _) rfl (by simp) (by simp; omega) ?_)
  intro v1 w1 hO1 hbw1
  have hb1 : Below w.heap.size w w1 := (hb0.alloc hz _).trans hbw1
  have H1 : Hid (Own w1 w.heap.size v1 (39 :: qBytes (s.data.toList.take 0))) := hide (by simpa [qBytes] using hO1)
  clear hO1 hbw1 hO0
  go_wp2
  go_loopw [3, 15] (fun v i wr => ∃ k : Nat, k ≤ s.size ∧ i = .int .i64 k ∧ Hid (Own wr w.heap.size v (39 :: qBytes (s.data.toList.take k))) ∧ Below w.heap.size w wr) (fun _ i _ => s.size - (intOf i).toNat)
  case atStart => exact ⟨0, Nat.zero_le _, rfl, H1, hb1⟩
  case round =>
    obtain ⟨k, hk, rfl, hO, hnx⟩ := hrel
    clear hb0 hb1 hz H1
    have hzr := hnx.size
    have hq := qBytes_len (s.data.toList.take k)
    have hl : (s.data.toList.take k).length ≤ k := List.length_take_le _ _
    have hq2 : (39 :: qBytes (s.data.toList.take k)).length ≤ 3 * k + 1 := by simp; omega
    clear hq hl
    by_cases hlt : k < s.size
    · have hst := hide (quote_step s k hlt)
      generalize hL : 39 :: qBytes (s.data.toList.take k) = L at hO hst hq2
      clear hL
      cases he : escB (s[k].toNat : Int)
      · go_wp2_with (first | (go_at_call 67; refine (escaped_any _ _).mono ?_; rintro e w' ⟨rfl, rfl⟩) | (at_builtin; refine wpList_app _ rfl _ _ rfl w.heap.size _ L rfl (hO.out.alloc _) _ 1 1 _ [s[k]] rfl rfl (heap_top _ _) rfl (by omega) (by simp; omega) ?_; intro v2 w2 hO2 hb2))
        refine ⟨⟨k + 1, by omega, by go_num, hide ?_, (hnx.alloc hzr _).trans hb2⟩, by simp [intOf]; omega⟩
        rw [hst.out]
        unfold qByte
        rw [he]
        exact hO2
      · go_wp2_with (go_at_call 67; refine (escaped_any _ _).mono ?_; rintro e w' ⟨rfl, rfl⟩)
        have hc := s[k].toNat_lt
        have hi1 : ∀ W, (Instr.index 9 (.string ⟨#[48, 49, 50, 51, 52, 53, 54, 55, 56, 57, 97, 98, 99, 100, 101, 102]⟩) (.int .u8 (IntKind.u8.wrap ((s[k].toNat : Int) / 16)))).run Tryz.prog W = .ok (.int .u8 ((hexD (s[k].toNat / 16)).toNat : Int)) W := fun W => by
          rw [hi_nibble]; exact dig_at _ (by omega) W
        have hi2 : ∀ W, (Instr.index 9 (.string ⟨#[48, 49, 50, 51, 52, 53, 54, 55, 56, 57, 97, 98, 99, 100, 101, 102]⟩) (.int .u8 ((s[k].toNat : Int).tmod 16))).run Tryz.prog W = .ok (.int .u8 ((hexD (s[k].toNat % 16)).toNat : Int)) W := fun W => by
          rw [lo_nibble]; exact dig_at _ (by omega) W
        clear hc
        go_region_law ((refine step_app _ rfl _ _ rfl w.heap.size _ L rfl (by exact (hO.out.drew.alloc _)) _ 3 3 _ [92, hexD (s[k].toNat / 16), hexD (s[k].toNat % 16)] rfl (by omega) rfl (by exact heap_top _ _) rfl (by omega) (by simp; omega) ?_; intro v2 w2 hO2 hb2))
        all_goals
          go_wp2
          refine ⟨⟨k + 1, by omega, by go_num, hide ?_, (hnx.drew.alloc hzr _).trans hb2⟩, by simp [intOf]; omega⟩
          rw [hst.out]
          unfold qByte
          rw [he]
          exact hO2
    · generalize hL : 39 :: qBytes (s.data.toList.take k) = L at hO hq2
      have HL := hide hL
      clear hL
      go_wp2_with (at_builtin; refine wpList_app _ rfl _ _ rfl w.heap.size _ L rfl (hO.out.alloc _) _ 1 1 _ [39] rfl rfl (heap_top _ _) rfl (by omega) (by simp; omega) ?_; intro v2 w2 hO2 hb2; refine Hid.out ?_)
      refine hide ?_
      obtain ⟨g, n, cap, rfl⟩ := own_form hO2 (by simp)
      have hcv := conv_own hO2
      go_wp2
      go_ret
      refine ⟨ret_str ?_, (hnx.alloc hzr _).trans hb2⟩
      rw [← HL.out, List.take_of_length_le (by simp; omega)]
      rfl
end Go.Proofs.YtlmdcaemjaldfaaGreatDoor
namespace Go.Proofs.YtlmdcaemjaldfaaGreatDoor
open Go.RowKit
def textL (k n : Int) (s : ByteArray) : List UInt8 :=
  if rightB k n s = true then (if k = 1 then Lib.itoa n else if k = 2 then quoteL s.data.toList else [45]) else []
theorem ret_list {a b : List UInt8} (h : a = b) : Ending.returned (.string ⟨a.toArray⟩) = .returned (.string ⟨b.toArray⟩) := by rw [h]
theorem right_small {k n : Int} {s : ByteArray} (h : rightB k n s = true) : s.size ≤ 8 := by
  unfold rightB at h
  have e : s.toList.isEmpty = true → s.size ≤ 8 := fun h => by
    rw [List.isEmpty_iff, ByteArray.toList_eq] at h
    rw [Lib.size_eq, h]; simp
  split at h
  · simp at h; exact e (by simp [h.2])
  · split at h
    · exact e h
    · split at h
      · simp at h; omega
      · cases h
set_option maxHeartbeats 1000000 in
set_option maxRecDepth 100000 in
theorem text_any (k n : Int) (s : ByteArray) (w : World) (hE : Env w) (n0 : -9223372036854775808 ≤ n) (n1 : n ≤ 9223372036854775807) (hs : s.size ≤ maxLen) :
    Calls Tryz.prog 32 #[.agg #[.int .i64 k, .int .i64 n, .string s]] w fun e w' => e = .returned (.string ⟨(textL k n s).toArray⟩) ∧ Below w.heap.size w w' := by
  have HR := fun (W : World) => hide (w_right_any k n s W hs)
  have HE := hide (hE.alloc (.cells #[.int .i64 k, .int .i64 n, .string s] 40))
  have HB := hide ((Below.refl w.heap.size w).alloc (Nat.le_refl _) (.cells #[.int .i64 k, .int .i64 n, .string s] 40))
  have HI := fun (W : World) (h : Env W) => hide (itoa_any n n0 n1 W h)
  clear hE
  cases hr : rightB k n s
  · rw [hr] at HR
    have hT : Hid (textL k n s = []) := hide (by unfold textL; rw [hr]; rfl)
    go_enter Tryz.func32, Tryz.ntmps32
    go_wp2_with fail
    refine (unhide (HR _)).mono ?_
    rintro e w1 ⟨rfl, hb1⟩
    have HB1 := hide (below_alloc hb1)
    clear hb1
    go_wp2
    go_ret
    exact ⟨ret_list hT.out.symm, HB1.out⟩
  · have h8 := right_small hr
    rw [hr] at HR
    have HQ := fun (W : World) => hide (quote_any s W (by omega))
    have hT : Hid (textL k n s = if k = 1 then Lib.itoa n else if k = 2 then quoteL s.data.toList else [45]) := hide (by unfold textL; rw [hr]; rfl)
    clear hr
    by_cases k1 : k = 1
    · subst k1
      go_enter Tryz.func32, Tryz.ntmps32
      go_wp2_with fail
      refine (unhide (HR _)).mono ?_
      rintro e w1 ⟨rfl, hb1⟩
      have HB1 := hide (below_alloc hb1)
      have HE1 := hide (HE.out.on hb1)
      obtain ⟨hc, hf⟩ := bcell hb1
      have c0 := hc w.heap.size 0 (by simp)
      have c1 := hc w.heap.size 1 (by simp)
      have c2 := hc w.heap.size 2 (by simp)
      simp at c0 c1 c2
      clear hb1 hc hf
      go_wp2_with fail
      refine (unhide (HI _ HE1.out)).mono ?_
      rintro e w2 ⟨rfl, hb2⟩
      have HB2 := hide (HB1.out.trans (hb2.mono HB1.out.size))
      clear hb2
      go_wp2
      go_ret
      exact ⟨ret_list (by rw [hT.out]; rfl), HB2.out⟩
    have k1' : (k == 1) = false := beq_eq_false_iff_ne.2 k1
    by_cases k2 : k = 2
    · subst k2
      go_enter Tryz.func32, Tryz.ntmps32
      go_wp2_with fail
      refine (unhide (HR _)).mono ?_
      rintro e w1 ⟨rfl, hb1⟩
      have HB1 := hide (below_alloc hb1)
      obtain ⟨hc, hf⟩ := bcell hb1
      have c0 := hc w.heap.size 0 (by simp)
      have c1 := hc w.heap.size 1 (by simp)
      have c2 := hc w.heap.size 2 (by simp)
      simp at c0 c1 c2
      clear hb1 hc hf
      go_wp2_with fail
      refine (unhide (HQ _)).mono ?_
      rintro e w2 ⟨rfl, hb2⟩
      have HB2 := hide (HB1.out.trans (hb2.mono HB1.out.size))
      clear hb2
      go_wp2
      go_ret
      exact ⟨ret_list (by rw [hT.out]; rfl), HB2.out⟩
    have k2' : (k == 2) = false := beq_eq_false_iff_ne.2 k2
    go_enter Tryz.func32, Tryz.ntmps32
    go_wp2_with fail
    refine (unhide (HR _)).mono ?_
    rintro e w1 ⟨rfl, hb1⟩
    have HB1 := hide (below_alloc hb1)
    obtain ⟨hc, hf⟩ := bcell hb1
    have c0 := hc w.heap.size 0 (by simp)
    have c1 := hc w.heap.size 1 (by simp)
    have c2 := hc w.heap.size 2 (by simp)
    simp at c0 c1 c2
    clear hb1 hc hf
    go_wp2
    go_ret
    exact ⟨ret_list (by rw [hT.out, if_neg k1, if_neg k2]), HB1.out⟩
end Go.Proofs.YtlmdcaemjaldfaaGreatDoor
namespace Go.Proofs.YtlmdcaemjaldfaaGreatDoor
open Go.RowKit
section
variable {ops : Array Oper} {S : World → Prop} {o : Oper} {a : Act}
theorem yt_lenR (hw : Region.wanted o (yielded ops a.tmps) = true) (x : Operand) (ho : o.op = .call { callee := .builtin .len, args := #[x], argTypes := #[23] }) (p : Option Addr) (n c : Nat) (hx : a.eval x = .slice p n c) : YieldsIf Tryz.prog ops S o (.int .i64 n) a :=
  Or.inl ⟨hw, fun w hS => by
    unfold execOp
    simp only [ho, resolve, invoke, builtin, Sem.run_bind, Sem.run_pure, Result.andThen_ok, List.map_toArray, List.map_cons, List.map_nil, hx]
    go_simp⟩
theorem yt_lenT (hw : Region.wanted o (yielded ops a.tmps) = true) (x : Operand) (ho : o.op = .call { callee := .builtin .len, args := #[x], argTypes := #[24] }) (p : Option Addr) (n c : Nat) (hx : a.eval x = .slice p n c) : YieldsIf Tryz.prog ops S o (.int .i64 n) a :=
  Or.inl ⟨hw, fun w hS => by
    unfold execOp
    simp only [ho, resolve, invoke, builtin, Sem.run_bind, Sem.run_pure, Result.andThen_ok, List.map_toArray, List.map_cons, List.map_nil, hx]
    go_simp⟩
set_option maxRecDepth 100000 in
theorem yt_atR (hw : Region.wanted o (yielded ops a.tmps) = true) (x y : Operand) (ho : o.op = .indexAddr 23 x y) (b off n c i : Nat) (hx : a.eval x = .slice (some ⟨b, off, none⟩) n c) (hy : a.eval y = .int .i64 i) (hi : i < n) : YieldsIf Tryz.prog ops S o (.pointer (some ⟨b, off + i * 2, none⟩)) a :=
  Or.inl ⟨hw, fun w hS => by
    simp only [execOp, ho, hx, hy]
    go_simp⟩
set_option maxRecDepth 100000 in
theorem yt_atT (hw : Region.wanted o (yielded ops a.tmps) = true) (x y : Operand) (ho : o.op = .indexAddr 24 x y) (b off n c i : Nat) (hx : a.eval x = .slice (some ⟨b, off, none⟩) n c) (hy : a.eval y = .int .i64 i) (hi : i < n) : YieldsIf Tryz.prog ops S o (.pointer (some ⟨b, off + i * 1, none⟩)) a :=
  Or.inl ⟨hw, fun w hS => by
    simp only [execOp, ho, hx, hy]
    go_simp⟩
set_option maxRecDepth 100000 in
theorem yt_atX (hw : Region.wanted o (yielded ops a.tmps) = true) (x y : Operand) (ho : o.op = .indexAddr 27 x y) (b off n c i : Nat) (hx : a.eval x = .slice (some ⟨b, off, none⟩) n c) (hy : a.eval y = .int .i64 i) (hi : i < n) : YieldsIf Tryz.prog ops S o (.pointer (some ⟨b, off + i * 7, none⟩)) a :=
  Or.inl ⟨hw, fun w hS => by
    simp only [execOp, ho, hx, hy]
    go_simp⟩
theorem yt_ldRg (hw : Region.wanted o (yielded ops a.tmps) = true) (x : Operand) (ho : o.op = .load 96 x) (g : Nat) (k : Nat) (hx : a.eval x = .pointer (some ⟨g, k, none⟩)) (p q : Int)
    (h : ∀ w, S w → w.cell? ⟨g, k, none⟩ = some (.int .i64 p) ∧ w.cell? ⟨g, k + 1, none⟩ = some (.int .i64 q)) : YieldsIf Tryz.prog ops S o (.agg #[.int .i64 p, .int .i64 q]) a :=
  Or.inl ⟨hw, fun w hS => by
    obtain ⟨c0, c1⟩ := h w hS
    simp only [execOp, ho, hx]
    go_simp⟩
set_option maxRecDepth 100000 in
theorem yt_buildV1 (hw : Region.wanted o (yielded ops a.tmps) = true) (x : Operand) (ho : o.op = .build 40 #[(0, x)]) (k : Int) (hx : a.eval x = .int .i64 k) : YieldsIf Tryz.prog ops S o (vVal (k, 0, ⟨#[]⟩)) a :=
  Or.inl ⟨hw, fun w _ => by
    simp only [execOp, ho, List.map_toArray, List.map_cons, List.map_nil, hx, vVal]
    go_simp⟩
set_option maxRecDepth 100000 in
theorem yt_buildV2 (hw : Region.wanted o (yielded ops a.tmps) = true) (x y : Operand) (ho : o.op = .build 40 #[(0, x), (1, y)]) (k z : Int) (hx : a.eval x = .int .i64 k) (hy : a.eval y = .int .i64 z) : YieldsIf Tryz.prog ops S o (vVal (k, z, ⟨#[]⟩)) a :=
  Or.inl ⟨hw, fun w _ => by
    simp only [execOp, ho, List.map_toArray, List.map_cons, List.map_nil, hx, hy, vVal]
    go_simp⟩
end
theorem below_none {w w' : World} (h : w.grownBy w' none) : Below w.heap.size w w' := ⟨h.os, h.tape, h.output, h.size, fun i hi => h.block i hi (by simp)⟩
theorem textL_int (n : Int) : textL 1 n ⟨#[]⟩ = Lib.itoa n := by
  unfold textL
  rw [if_pos (by unfold rightB; rw [if_neg (by decide), if_pos rfl, ByteArray.toList_eq]; rfl), if_pos rfl]
theorem textL_abs : textL 0 0 ⟨#[]⟩ = [45] := by
  unfold textL
  rw [if_pos (by unfold rightB; rw [if_pos rfl, ByteArray.toList_eq]; rfl), if_neg (by decide), if_neg (by decide)]
theorem c_textI (n : Int) (w : World) (hE : Env w) (h0 : -9223372036854775808 ≤ n) (h1 : n ≤ 9223372036854775807) : Calls Tryz.prog 32 #[vVal (1, n, ⟨#[]⟩)] w fun e w' => e = .returned (.string (bs (Lib.itoa n))) ∧ Below w.heap.size w w' := by
  have := text_any 1 n ⟨#[]⟩ w hE h0 h1 (Nat.zero_le _)
  rw [textL_int] at this
  exact this
theorem c_textA (w : World) (hE : Env w) : Calls Tryz.prog 32 #[vVal (0, 0, ⟨#[]⟩)] w fun e w' => e = .returned (.string (bs [45])) ∧ Below w.heap.size w w' := by
  have := text_any 0 0 ⟨#[]⟩ w hE (by decide) (by decide) (Nat.zero_le _)
  rw [textL_abs] at this
  exact this
theorem c_quote (s : ByteArray) (w : World) (hs : s.size ≤ 1048576) : Calls Tryz.prog 39 #[.string s] w fun e w' => e = .returned (.string (bs (quoteL s.data.toList))) ∧ Below w.heap.size w w' := quote_any s w hs
theorem itoa_le (n : Int) (h0 : -9223372036854775808 ≤ n) (h1 : n ≤ 9223372036854775807) : (Lib.itoa n).length ≤ 21 := Lib.itoa_length_le n h0 h1
set_option maxHeartbeats 1000000 in
set_option maxRecDepth 100000 in
theorem rangeText_any (r : Rg) (w : World) (HE : Env w) (hr : -9223372036854775808 ≤ r.1 ∧ r.1 ≤ 9223372036854775807 ∧ -9223372036854775808 ≤ r.2 ∧ r.2 ≤ 9223372036854775807) :
    Calls Tryz.prog 38 #[.agg #[.int .i64 r.1, .int .i64 r.2]] w fun e w' => e = .returned (.string (bs (rgTxt r))) ∧ Below w.heap.size w w' := by
  have w6 : 6 ≤ w.heap.size := HE.big
  have D : w.grownBy w none := grown_refl _ _
  have t1 := itoa_le r.1 (by omega) (by omega)
  have t2 := itoa_le r.2 (by omega) (by omega)
  go_enter Tryz.func38, Tryz.ntmps38
  refine wp_seq_k (fun K1 hK1 => ?_)
  refine wp_region_lit ?_
  refine wt_boxRg (o := ⟨_, _, _, _, _, _⟩) (by rfl) _ rfl (r) rfl (fun v1 g1 hg G1 kb => ?_)
  simp only [Act.put, lzA, lzB, lzC]
  have ge_g1 : w.heap.size ≤ g1 := Nat.le_trans D.size hg
  have six_g1 : 6 ≤ g1 := Nat.le_trans w6 ge_g1
  clear hg
  replace D := grown_below D kb
  replace HE := HE.on kb
  clear kb
  replace G1 : v1.heap[g1]? = some (.cells #[.int .i64 (r.1), .int .i64 (r.2)] 96 (0, 0)) := G1
  refine wl_yield (o := ⟨_, _, _, _, _, _⟩) (.string (bs ([]))) (yl_assign (by rfl) _ rfl _ rfl) ?_
  simp only [Act.put, lzA, lzB, lzC]
  refine wpList_nil ?_
  refine hK1 _ _ ?_
  clear hK1 K1
  refine wp_seq_k (fun K2 hK2 => ?_)
  refine wp_region_lit ?_
  refine wl_yield (o := ⟨_, _, _, _, _, _⟩) (.pointer (some ⟨g1, 0, none⟩)) (yt_fRg0 (by rfl) _ rfl g1 0 rfl) ?_
  simp only [Act.put, lzA, lzB, lzC]
  refine wl_yield (o := ⟨_, _, _, _, _, _⟩) (.int .i64 (r.1)) (yt_ldI (by rfl) _ rfl _ _ rfl r.1 (fun _ h => by subst h; exact cell_heap G1 0)) ?_
  simp only [Act.put, lzA, lzB, lzC]
  refine wl_yield (o := ⟨_, _, _, _, _, _⟩) (.agg #[.int .i64 1, .int .i64 (r.1), .string ⟨#[]⟩]) (yt_buildV2 (by rfl) _ _ rfl 1 r.1 rfl rfl) ?_
  simp only [Act.put, lzA, lzB, lzC]
  refine wt_call (o := ⟨_, _, _, _, _, _⟩) (by rfl) 32 _ _ rfl #[.agg #[.int .i64 1, .int .i64 (r.1), .string ⟨#[]⟩]] rfl (run_call Tryz.func32 (by kernel_rfl) (by kernel_rfl)) ?_
  refine (c_textI r.1 _ HE (by omega) (by omega)).mono ?_
  rintro r v2 ⟨rfl, kb⟩
  replace D := grown_below D kb
  replace HE := HE.on kb
  replace G1 := heap_on G1 kb
  clear kb
  refine Or.inl ⟨.string (bs (Lib.itoa r.1)), rfl, ?_⟩
  simp only [Act.put, lzA, lzB, lzC]
  refine wl_yield (o := ⟨_, _, _, _, _, _⟩) (.string (bs (Lib.itoa r.1))) (yl_assign (by rfl) _ rfl _ rfl) ?_
  simp only [Act.put, lzA, lzB, lzC]
  refine wpList_nil ?_
  refine hK2 _ _ ?_
  clear hK2 K2
  refine wp_seq_k (fun K3 hK3 => ?_)
  refine wp_seq_k (fun K4 hK4 => ?_)
  refine wp_region_lit ?_
  refine wl_yield (o := ⟨_, _, _, _, _, _⟩) (.pointer (some ⟨g1, 0, none⟩)) (yt_fRg0 (by rfl) _ rfl g1 0 rfl) ?_
  simp only [Act.put, lzA, lzB, lzC]
  refine wl_yield (o := ⟨_, _, _, _, _, _⟩) (.int .i64 (r.1)) (yt_ldI (by rfl) _ rfl _ _ rfl r.1 (fun _ h => by subst h; exact cell_heap G1 0)) ?_
  simp only [Act.put, lzA, lzB, lzC]
  refine wl_yield (o := ⟨_, _, _, _, _, _⟩) (.pointer (some ⟨g1, 1, none⟩)) (yt_fRg1 (by rfl) _ rfl g1 0 rfl) ?_
  simp only [Act.put, lzA, lzB, lzC]
  refine wl_yield (o := ⟨_, _, _, _, _, _⟩) (.int .i64 (r.2)) (yt_ldI (by rfl) _ rfl _ _ rfl r.2 (fun _ h => by subst h; exact cell_heap G1 1)) ?_
  simp only [Act.put, lzA, lzB, lzC]
  refine wl_yield (o := ⟨_, _, _, _, _, _⟩) (.bool (decide (r.2 ≤ r.1))) (yt_geqI (by rfl) _ _ _ rfl r.1 r.2 (decide (r.2 ≤ r.1)) rfl rfl (rfl)) ?_
  simp only [Act.put, lzA, lzB, lzC]
  refine wpList_nil ?_
  refine hK4 _ _ ?_
  clear hK4 K4
  refine wp_cond_split (t := (decide (r.2 ≤ r.1))) rfl (fun hc => ?_) (fun hc => ?_)
  · refine wp_seq_k (fun K5 hK5 => ?_)
    refine wp_region_lit ?_
    refine wl_yield (o := ⟨_, _, _, _, _, _⟩) (.string (bs (Lib.itoa r.1))) (yl_move (by rfl) _ rfl _ rfl) ?_
    simp only [Act.put, lzA, lzB, lzC]
    refine wl_yield (o := ⟨_, _, _, _, _, _⟩) (.string (bs (Lib.itoa r.1))) (yl_assign (by rfl) _ rfl _ rfl) ?_
    simp only [Act.put, lzA, lzB, lzC]
    refine wpList_nil ?_
    refine hK5 _ _ ?_
    clear hK5 K5
    refine wp_ret ?_
    go_ret
    exact ⟨ret_str (by rw [show rgTxt r = Lib.itoa r.1 from if_neg (by have := of_decide_eq_true hc; omega)]), below_none D⟩
  · refine wp_skip ?_
    refine hK3 _ _ ?_
    clear hK3 K3
    refine wp_seq_k (fun K5 hK5 => ?_)
    refine wp_region_lit ?_
    refine wl_yield (o := ⟨_, _, _, _, _, _⟩) (.string (bs (Lib.itoa r.1))) (yl_move (by rfl) _ rfl _ rfl) ?_
    simp only [Act.put, lzA, lzB, lzC]
    refine wl_yield (o := ⟨_, _, _, _, _, _⟩) (.string (bs ((Lib.itoa r.1) ++ ([46, 46])))) (yt_cat (by rfl) _ _ _ rfl (Lib.itoa r.1) ([46, 46]) rfl rfl (by simp; omega)) ?_
    simp only [Act.put, lzA, lzB, lzC]
    refine wl_yield (o := ⟨_, _, _, _, _, _⟩) (.pointer (some ⟨g1, 1, none⟩)) (yt_fRg1 (by rfl) _ rfl g1 0 rfl) ?_
    simp only [Act.put, lzA, lzB, lzC]
    refine wl_yield (o := ⟨_, _, _, _, _, _⟩) (.int .i64 (r.2)) (yt_ldI (by rfl) _ rfl _ _ rfl r.2 (fun _ h => by subst h; exact cell_heap G1 1)) ?_
    simp only [Act.put, lzA, lzB, lzC]
    refine wl_yield (o := ⟨_, _, _, _, _, _⟩) (.agg #[.int .i64 1, .int .i64 (r.2), .string ⟨#[]⟩]) (yt_buildV2 (by rfl) _ _ rfl 1 r.2 rfl rfl) ?_
    simp only [Act.put, lzA, lzB, lzC]
    refine wt_call (o := ⟨_, _, _, _, _, _⟩) (by rfl) 32 _ _ rfl #[.agg #[.int .i64 1, .int .i64 (r.2), .string ⟨#[]⟩]] rfl (run_call Tryz.func32 (by kernel_rfl) (by kernel_rfl)) ?_
    refine (c_textI r.2 _ HE (by omega) (by omega)).mono ?_
    rintro r v3 ⟨rfl, kb⟩
    replace D := grown_below D kb
    replace HE := HE.on kb
    replace G1 := heap_on G1 kb
    clear kb
    refine Or.inl ⟨.string (bs (Lib.itoa r.2)), rfl, ?_⟩
    simp only [Act.put, lzA, lzB, lzC]
    refine wl_yield (o := ⟨_, _, _, _, _, _⟩) (.string (bs (((Lib.itoa r.1) ++ ([46, 46])) ++ (Lib.itoa r.2)))) (yt_cat (by rfl) _ _ _ rfl ((Lib.itoa r.1) ++ ([46, 46])) (Lib.itoa r.2) rfl rfl (by simp; omega)) ?_
    simp only [Act.put, lzA, lzB, lzC]
    refine wl_yield (o := ⟨_, _, _, _, _, _⟩) (.string (bs (((Lib.itoa r.1) ++ ([46, 46])) ++ (Lib.itoa r.2)))) (yl_assign (by rfl) _ rfl _ rfl) ?_
    simp only [Act.put, lzA, lzB, lzC]
    refine wpList_nil ?_
    refine hK5 _ _ ?_
    clear hK5 K5
    refine wp_ret ?_
    go_ret
    exact ⟨ret_str (by rw [show rgTxt r = Lib.itoa r.1 ++ (46 :: 46 :: Lib.itoa r.2) from if_pos (by have := of_decide_eq_false hc; omega), List.append_assoc]; rfl), below_none D⟩
end Go.Proofs.YtlmdcaemjaldfaaGreatDoor
namespace Go.Proofs.YtlmdcaemjaldfaaGreatDoor
open Go.RowKit
theorem joinL_eq : ∀ l : List (List UInt8), joinL l = List.intercalate [32] l
  | [] => rfl
  | [a] => by simp [joinL, List.intercalate]
  | a :: b :: l => by
    have ih := joinL_eq (b :: l)
    rw [joinL_cons a (b :: l) (by simp), ih]
    simp [List.intercalate, List.intersperse]
theorem joinL_le {α : Type} (txt : α → List UInt8) (m : Nat) : ∀ (xs : List α), (∀ x ∈ xs, (txt x).length ≤ m) → (joinL (xs.map txt)).length ≤ xs.length * (m + 1)
  | [], _ => by simp [joinL]
  | [x], h => by
    have := h x (by simp)
    simp [joinL]
    omega
  | x :: y :: l, h => by
    have h1 := h x (by simp)
    have ih := joinL_le txt m (y :: l) fun z hz => h z (by simp [hz])
    rw [List.map_cons, joinL_cons _ _ (by simp), List.length_append, List.length_cons, List.length_cons, Nat.add_mul]
    omega
theorem stCells1_map : ∀ l : List ByteArray, stCells1 l = l.map Value.string
  | [] => rfl
  | x :: l => by
    have ih := stCells1_map l
    unfold stCells1 at ih ⊢
    rw [List.flatMap_cons, ih]
    rfl
theorem c_join {w : World} {B c : Nat} {p : Option Addr} {xs : List ByteArray} (h : RowS w B (.slice p xs.length c) xs) (hn : xs.length ≤ 1000000) (hlen : (joinL (xs.map (·.data.toList))).length ≤ 140737488355328) :
    Calls Tryz.prog 33 #[.slice p xs.length c, .string (bs [32])] w fun e w' => e = .returned (.string (bs (joinL (xs.map (·.data.toList))))) ∧ Below w.heap.size w w' := by
  by_cases h0 : xs.length = 0
  · have e : xs = [] := List.length_eq_zero_iff.1 h0
    subst e
    exact (Tryz.strings_Join_none p c (bs [32]) w).mono fun e w' hh => ⟨hh.1, by rw [hh.2]; exact Below.refl _ _⟩
  · obtain ⟨p', c', e, h1, h2, h3⟩ := ownsRow_form h
    injection e with e1 e2 e3
    subst e1 e3
    cases p with
    | none => exact absurd (h3 rfl).1 h0
    | some a =>
      obtain ⟨g, cur, e, _, hg⟩ := ownsRow_at h
      subst e
      have hc : (bs [32]).data.toList = [32] := rfl
      have hj : Lib.join (xs.map (·.data.toList)) (bs [32]).data.toList = joinL (xs.map (·.data.toList)) := by rw [joinL_eq]; rfl
      have := Tryz.strings_Join g 0 c xs (bs [32]) w (fun j x hx => by
        rw [Nat.zero_add]
        refine ownsRow_cell h j _ ?_
        rw [stCells1_map, List.getElem?_map, hx]
        rfl) (lt_heap hg) (by omega) h1 (by rw [hj]; exact hlen)
      rw [hj] at this
      exact this
theorem rng_at {w W : World} {p : Option Addr} {n c : Nat} {l : List Rg} (h : RngsAt w (.slice p n c) l) (D : w.grownBy W none) (i : Nat) (hi : i < l.length) : ∃ b off, p = some ⟨b, off, none⟩ ∧ W.cell? ⟨b, off + i * 2, none⟩ = some (.int .i64 (l.getD i (0, 0)).1) ∧ W.cell? ⟨b, off + i * 2 + 1, none⟩ = some (.int .i64 (l.getD i (0, 0)).2) := by
  obtain ⟨_, _, a, cap, e, hh⟩ := h.on (below_none D)
  injection e with e1 e2 e3
  subst e1
  obtain ⟨b, off, hp, _, h1, h2⟩ := hh i hi
  exact ⟨b, off, hp, h1, h2⟩
theorem str_at {w W : World} {p : Option Addr} {n c : Nat} {l : List ByteArray} (h : StrsAt w (.slice p n c) l) (D : w.grownBy W none) (i : Nat) (hi : i < l.length) : ∃ b off, p = some ⟨b, off, none⟩ ∧ W.cell? ⟨b, off + i * 1, none⟩ = some (.string (l.getD i ⟨#[]⟩)) := by
  obtain ⟨_, _, a, cap, e, hh⟩ := h.on (below_none D)
  injection e with e1 e2 e3
  subst e1
  obtain ⟨b, off, hp, _, h1⟩ := hh i hi
  exact ⟨b, off, hp, by rw [Nat.mul_one]; exact h1⟩
def txI (S : SetV) (k : Nat) : List ByteArray := (if S.absent then [bs [45]] else []) ++ (S.ints.take k).map fun r => bs (rgTxt r)
def txS (S : SetV) (k : Nat) : List ByteArray := txI S S.ints.length ++ ((if S.co then [bs [126]] else []) ++ (S.strs.take k).map fun s => bs (quoteL s.data.toList))
theorem take_map_snoc {α β : Type} (f : α → β) (l : List α) (d : α) (k : Nat) (hk : k < l.length) : (l.take (k + 1)).map f = (l.take k).map f ++ [f (l.getD k d)] := by
  rw [List.take_add_one, List.getElem?_eq_getElem hk, List.map_append, List.getD_eq_getElem?_getD, List.getElem?_eq_getElem hk]
  rfl
theorem txI_step (S : SetV) (k : Nat) (hk : k < S.ints.length) : txI S (k + 1) = txI S k ++ [bs (rgTxt (S.ints.getD k (0, 0)))] := by
  unfold txI
  rw [take_map_snoc _ _ (0, 0) k hk, List.append_assoc]
theorem txS_step (S : SetV) (k : Nat) (hk : k < S.strs.length) : txS S (k + 1) = txS S k ++ [bs (quoteL (S.strs.getD k ⟨#[]⟩).data.toList)] := by
  unfold txS
  rw [take_map_snoc _ _ ⟨#[]⟩ k hk, List.append_assoc, List.append_assoc]
theorem txS_all (S : SetV) : (txS S S.strs.length).map (·.data.toList) = (partsS S).map ptTxt := by
  unfold txS txI partsS
  rw [List.take_length, List.take_length]
  have h1 : (if S.absent then [bs [45]] else []).map (·.data.toList) = (if S.absent then [ptAb] else []).map ptTxt := by cases S.absent <;> rfl
  have h2 : (S.ints.map fun r => bs (rgTxt r)).map (·.data.toList) = (S.ints.map ptRg).map ptTxt := by
    rw [List.map_map, List.map_map]
    exact List.map_congr_left fun r _ => bs_list _
  have h3 : (if S.co then [bs [126]] else []).map (·.data.toList) = (if S.co then [ptCo] else []).map ptTxt := by cases S.co <;> rfl
  have h4 : (S.strs.map fun s => bs (quoteL s.data.toList)).map (·.data.toList) = (S.strs.map ptSt).map ptTxt := by
    rw [List.map_map, List.map_map]
    exact List.map_congr_left fun r _ => bs_list _
  rw [List.map_append, List.map_append, List.map_append, List.map_append, List.map_append, List.map_append, h1, h2, h3, h4, List.append_assoc]
theorem pt_le {S : SetV} (hi : inI64 S.ints) (hs : ∀ s ∈ S.strs, s.size ≤ 8) : ∀ p ∈ partsS S, (ptTxt p).length ≤ 44 := by
  intro p hp
  unfold partsS at hp
  simp only [List.mem_append, List.mem_map] at hp
  rcases hp with hp | ⟨r, hr, rfl⟩ | hp | ⟨s, hs', rfl⟩
  · split at hp
    · rw [List.mem_singleton.1 hp]; show 1 ≤ 44; omega
    · cases hp
  · have := hi r hr
    have t1 := itoa_le r.1 (by omega) (by omega)
    have t2 := itoa_le r.2 (by omega) (by omega)
    show (rgTxt r).length ≤ 44
    unfold rgTxt
    split
    · simp; omega
    · omega
  · split at hp
    · rw [List.mem_singleton.1 hp]; show 1 ≤ 44; omega
    · cases hp
  · have h8 := hs s hs'
    have := qBytes_len s.data.toList
    rw [← Lib.size_eq] at this
    show (39 :: (qBytes s.data.toList ++ [39])).length ≤ 44
    simp only [List.length_cons, List.length_append, List.length_nil]
    omega
theorem partsS_len (S : SetV) : (partsS S).length ≤ S.ints.length + S.strs.length + 2 := by
  unfold partsS
  simp only [List.length_append, List.length_map]
  have h1 : (if S.absent then [ptAb] else []).length ≤ 1 := by split <;> simp
  have h2 : (if S.co then [ptCo] else []).length ≤ 1 := by split <;> simp
  omega
theorem setTxt_le {S : SetV} (hi : inI64 S.ints) (hs : ∀ s ∈ S.strs, s.size ≤ 8) : (setTxt S).length ≤ (S.ints.length + S.strs.length + 2) * 45 + 2 := by
  have h1 := joinL_le ptTxt 44 (partsS S) (pt_le hi hs)
  have h2 := partsS_len S
  have h3 := Nat.mul_le_mul_right 45 h2
  unfold setTxt
  simp only [List.length_cons, List.length_append, List.length_nil]
  omega
theorem txI_len (S : SetV) (k : Nat) : (txI S k).length ≤ S.ints.length + 1 := by
  unfold txI
  have h1 : (if S.absent then [bs [45]] else []).length ≤ 1 := by split <;> simp
  simp only [List.length_append, List.length_map, List.length_take]
  omega
theorem txS_len (S : SetV) (k : Nat) : (txS S k).length ≤ S.ints.length + S.strs.length + 2 := by
  have h0 := txI_len S S.ints.length
  have h1 : (if S.co then [bs [126]] else []).length ≤ 1 := by split <;> simp
  unfold txS
  simp only [List.length_append, List.length_map, List.length_take]
  omega
set_option maxHeartbeats 1000000 in
set_option maxRecDepth 100000 in
theorem setText_any (S : SetV) (pI pS : Option Addr) (cI cS : Nat) (w : World) (HE : Env w) (hI : RngsAt w (.slice pI S.ints.length cI) S.ints) (hT : StrsAt w (.slice pS S.strs.length cS) S.strs) (hok : okB S) (l1 : S.ints.length ≤ 1000) (l2 : S.strs.length ≤ 1000) :
    Calls Tryz.prog 16 #[.agg #[.bool S.absent, .slice pI S.ints.length cI, .bool S.co, .slice pS S.strs.length cS]] w fun e w' => e = .returned (.string (bs (setTxt S))) ∧ Below w.heap.size w w' := by
  have w6 : 6 ≤ w.heap.size := HE.big
  have D : w.grownBy w none := grown_refl _ _
  have hb : ∀ k, k < S.ints.length → -9223372036854775808 ≤ (S.ints.getD k (0, 0)).1 ∧ (S.ints.getD k (0, 0)).1 ≤ 9223372036854775807 ∧ -9223372036854775808 ≤ (S.ints.getD k (0, 0)).2 ∧ (S.ints.getD k (0, 0)).2 ≤ 9223372036854775807 := fun k hk => hok.1 _ (by rw [List.getD_eq_getElem?_getD, List.getElem?_eq_getElem hk]; exact List.getElem_mem hk)
  have h8 : ∀ k, k < S.strs.length → (S.strs.getD k ⟨#[]⟩).size ≤ 1048576 := fun k hk => by
    have := hok.2 (S.strs.getD k ⟨#[]⟩) (by rw [List.getD_eq_getElem?_getD, List.getElem?_eq_getElem hk]; exact List.getElem_mem hk)
    omega
  have hjl : (joinL ((partsS S).map ptTxt)).length ≤ 140737488355328 := by
    have h1 := joinL_le ptTxt 44 (partsS S) (pt_le hok.1 hok.2)
    have h2 := partsS_len S
    omega
  have hjl2 : (joinL ((txS S S.strs.length).map (·.data.toList))).length ≤ 140737488355328 := by rw [txS_all]; exact hjl
  go_enter Tryz.func16, Tryz.ntmps16
  refine wp_seq_k (fun K1 hK1 => ?_)
  refine wp_region_lit ?_
  refine wt_boxSt (o := ⟨_, _, _, _, _, _⟩) (by rfl) _ rfl (⟨S.absent, pI, S.ints.length, cI, S.co, pS, S.strs.length, cS⟩) rfl (fun v1 g1 hg G1 kb => ?_)
  simp only [Act.put, lzA, lzB, lzC]
  have ge_g1 : w.heap.size ≤ g1 := Nat.le_trans D.size hg
  have six_g1 : 6 ≤ g1 := Nat.le_trans w6 ge_g1
  clear hg
  replace D := grown_below D kb
  replace HE := HE.on kb
  clear kb
  replace G1 : v1.heap[g1]? = some (.cells #[.bool (S.absent), .slice pI S.ints.length cI, .bool (S.co), .slice pS S.strs.length cS] 26 (0, 0)) := G1
  refine wl_yield (o := ⟨_, _, _, _, _, _⟩) (.string (bs ([]))) (yl_assign (by rfl) _ rfl _ rfl) ?_
  simp only [Act.put, lzA, lzB, lzC]
  refine wpList_nil ?_
  refine hK1 _ _ ?_
  clear hK1 K1
  refine wp_seq_k (fun K2 hK2 => ?_)
  have RP : RowS v1 w.heap.size (.slice none 0 0) [] := RowS.nil _ _
  refine wp_region_lit ?_
  refine wl_yield (o := ⟨_, _, _, _, _, _⟩) (.slice none 0 0) (yl_assign (by rfl) _ rfl _ rfl) ?_
  simp only [Act.put, lzA, lzB, lzC]
  refine wpList_nil ?_
  refine hK2 _ _ ?_
  clear hK2 K2
  refine wp_seq_k (fun K3 hK3 => ?_)
  refine wp_seq_k (fun K4 hK4 => ?_)
  refine wp_region_lit ?_
  refine wl_yield (o := ⟨_, _, _, _, _, _⟩) (.pointer (some ⟨g1, 0, none⟩)) (yt_fSt0 (by rfl) _ rfl g1 0 rfl) ?_
  simp only [Act.put, lzA, lzB, lzC]
  refine wl_yield (o := ⟨_, _, _, _, _, _⟩) (.bool (S.absent)) (yt_ldB (by rfl) _ rfl _ _ rfl S.absent (fun _ h => by subst h; exact cell_heap G1 0)) ?_
  simp only [Act.put, lzA, lzB, lzC]
  refine wpList_nil ?_
  refine hK4 _ _ ?_
  clear hK4 K4
  refine wp_cond_split (t := S.absent) rfl (fun hc => ?_) (fun hc => ?_)
  · have hab : S.absent = true := hc
    refine wp_region_lit ?_
    refine wl_yield (o := ⟨_, _, _, _, _, _⟩) (.slice none 0 0) (yl_move (by rfl) _ rfl _ rfl) ?_
    simp only [Act.put, lzA, lzB, lzC]
    refine wl_yield (o := ⟨_, _, _, _, _, _⟩) (.agg #[.int .i64 0, .int .i64 0, .string ⟨#[]⟩]) (yt_buildV1 (by rfl) _ rfl 0 rfl) ?_
    simp only [Act.put, lzA, lzB, lzC]
    refine wt_call (o := ⟨_, _, _, _, _, _⟩) (by rfl) 32 _ _ rfl #[.agg #[.int .i64 0, .int .i64 0, .string ⟨#[]⟩]] rfl (run_call Tryz.func32 (by kernel_rfl) (by kernel_rfl)) ?_
    refine (c_textA _ HE).mono ?_
    rintro r v2 ⟨rfl, kb⟩
    replace D := grown_below D kb
    replace RP := ownsRow_on RP kb
    replace HE := HE.on kb
    replace G1 := heap_on G1 kb
    clear kb
    refine Or.inl ⟨.string (bs ([45])), rfl, ?_⟩
    simp only [Act.put, lzA, lzB, lzC]
    refine wt_row1S (o := ⟨_, _, _, _, _, _⟩) (by rfl) _ rfl (bs ([45])) rfl (fun v3 g3 hg G3 kb => ?_)
    have n_g1_g3 : g1 ≠ g3 := by have := lt_heap G1; omega
    have ge_g3 : w.heap.size ≤ g3 := Nat.le_trans D.size hg
    have six_g3 : 6 ≤ g3 := Nat.le_trans w6 ge_g3
    clear hg
    replace D := grown_below D kb
    replace RP := ownsRow_on RP kb
    replace HE := HE.on kb
    replace G1 := heap_on G1 kb
    clear kb
    simp only [Act.put, lzA, lzB, lzC]
    refine wt_appS (o := ⟨_, _, _, _, _, _⟩) (by rfl) _ _ rfl w.heap.size _ ([]) rfl RP _ (bs ([45])) rfl G3 ((by first | (simp; done) | (have := txI_len S k; omega) | (have := txS_len S k; omega) | (have := txI_len S S.ints.length; omega))) (D.size) (fun v4' v4 hrow kg hown => ?_)
    clear G3
    replace HE := Env.gro HE RP kg w6
    replace G1 := heap_gro G1 kg (own_ne RP G1 (by decide))
    replace D := gr_own D (fun g hg => Nat.le_trans (Nat.le_refl _) (World.ownsRow.lt RP g hg).1) kg
    clear kg hown
    replace RP := hrow
    clear hrow
    obtain ⟨p4, c4, rfl, -, -, -⟩ := ownsRow_form RP
    simp only [Act.put, lzA, lzB, lzC]
    refine wl_yield (o := ⟨_, _, _, _, _, _⟩) (.slice p4 (([] ++ [(bs ([45]))]).length) c4) (yl_assign (by rfl) _ rfl _ rfl) ?_
    simp only [Act.put, lzA, lzB, lzC]
    refine wpList_nil ?_
    refine hK3 _ _ ?_
    clear hK3 K3
    refine wp_seq_k (fun K5 hK5 => ?_)
    refine wp_seq_k (fun K6 hK6 => ?_)
    refine wp_region_lit ?_
    refine wl_yield (o := ⟨_, _, _, _, _, _⟩) (.pointer (some ⟨g1, 1, none⟩)) (yt_fSt1 (by rfl) _ rfl g1 0 rfl) ?_
    simp only [Act.put, lzA, lzB, lzC]
    refine wl_yield (o := ⟨_, _, _, _, _, _⟩) (.slice pI S.ints.length cI) (yt_ldLr (by rfl) _ rfl _ _ rfl pI S.ints.length cI (fun _ h => by subst h; exact cell_heap G1 1)) ?_
    simp only [Act.put, lzA, lzB, lzC]
    refine wl_yield (o := ⟨_, _, _, _, _, _⟩) (.int .i64 (S.ints.length : Nat)) (yt_lenR (by rfl) _ rfl pI S.ints.length cI rfl) ?_
    simp only [Act.put, lzA, lzB, lzC]
    refine wl_yield (o := ⟨_, _, _, _, _, _⟩) (.int .i64 0) (yl_move (by rfl) _ rfl _ rfl) ?_
    simp only [Act.put, lzA, lzB, lzC]
    refine wpList_nil ?_
    refine hK6 _ _ ?_
    clear hK6 K6
    refine wp_block ?_
    have E0 : [] ++ [(bs ([45]))] = txI S 0 := by unfold txI; simp [hab]
    go_loopw [3, 18] (fun x i wr => ∃ (k : Nat) (p : Option Addr) (c : Nat), i = .int .i64 k ∧ k ≤ S.ints.length ∧ x = .slice p (txI S k).length c ∧ RowS wr w.heap.size (.slice p (txI S k).length c) (txI S k) ∧ wr.heap[g1]? = some (.cells #[.bool (S.absent), .slice pI S.ints.length cI, .bool (S.co), .slice pS S.strs.length cS] 26 (0, 0)) ∧ Env wr ∧ w.grownBy wr none) (fun _ i _ => S.ints.length - (intOf i).toNat)
    case atStart => exact ⟨0, p4, c4, rfl, by omega, (by rw [← E0]; try rfl), (by rw [← E0]; exact RP), G1, HE, D⟩
    case round =>
      clear D HE RP G1
      obtain ⟨k, p, c, rfl, hk, rfl, RP, G1, HE, D⟩ := hrel
      by_cases hlt : k < S.ints.length
      · obtain ⟨bI, oI, rfl, hc0, hc1⟩ := rng_at hI D k hlt
        refine wp_seq_k (fun K7 hK7 => ?_)
        refine wp_region_lit ?_
        refine wl_yield (o := ⟨_, _, _, _, _, _⟩) (.bool true) (yt_lssI (by rfl) _ _ _ rfl (((k : Nat) : Int)) (((S.ints.length : Nat) : Int)) true rfl rfl (decide_eq_true (by omega))) ?_
        simp only [Act.put, lzA, lzB, lzC]
        refine wpList_nil ?_
        refine hK7 _ _ ?_
        clear hK7 K7
        refine wp_seq_k (fun K8 hK8 => ?_)
        refine wp_cond_true rfl ?_
        refine wp_skip ?_
        refine hK8 _ _ ?_
        clear hK8 K8
        refine wp_seq_k (fun K9 hK9 => ?_)
        refine wp_block ?_
        refine wp_seq_k (fun K10 hK10 => ?_)
        refine wp_region_lit ?_
        refine wl_yield (o := ⟨_, _, _, _, _, _⟩) (.pointer (some ⟨bI, oI + k * 2, none⟩)) (yt_atR (by rfl) _ _ rfl bI oI _ _ k rfl rfl (hlt)) ?_
        simp only [Act.put, lzA, lzB, lzC]
        refine wl_yield (o := ⟨_, _, _, _, _, _⟩) (.agg #[.int .i64 ((S.ints.getD k (0, 0))).1, .int .i64 ((S.ints.getD k (0, 0))).2]) (yt_ldRg (by rfl) _ rfl _ (oI + k * 2) rfl _ _ (fun _ h => by subst h; exact ⟨hc0, hc1⟩)) ?_
        simp only [Act.put, lzA, lzB, lzC]
        refine wt_allocRg (o := ⟨_, _, _, _, _, _⟩) (by rfl) rfl (fun v5 g5 hg G5 kb => ?_)
        simp only [Act.put, lzA, lzB, lzC]
        have n_g1_g5 : g1 ≠ g5 := by have := lt_heap G1; omega
        have ge_g5 : w.heap.size ≤ g5 := Nat.le_trans D.size hg
        have six_g5 : 6 ≤ g5 := Nat.le_trans w6 ge_g5
        clear hg
        replace D := grown_below D kb
        replace RP := ownsRow_on RP kb
        replace HE := HE.on kb
        replace G1 := heap_on G1 kb
        clear kb
        replace G5 : v5.heap[g5]? = some (.cells #[.int .i64 0, .int .i64 0] 96 (0, 0)) := G5
        refine wt_putRg (o := ⟨_, _, _, _, _, _⟩) rfl _ _ rfl _ rfl ((S.ints.getD k (0, 0))) rfl G5 rfl (fun v6 X kg => ?_)
        simp only [Act.put, lzA, lzB, lzC]
        replace RP := row_gr_heap RP kg G5 (by decide)
        replace D := gr_new D ge_g5 kg
        replace HE := Env.gr HE kg six_g5
        replace G1 := heap_gr G1 kg n_g1_g5
        clear kg
        replace G5 : v6.heap[g5]? = some (.cells #[.int .i64 (((S.ints.getD k (0, 0))).1), .int .i64 (((S.ints.getD k (0, 0))).2)] 96 (0, 0)) := X
        clear X
        refine wpList_nil ?_
        refine hK10 _ _ ?_
        clear hK10 K10
        refine wp_region_lit ?_
        refine wl_yield (o := ⟨_, _, _, _, _, _⟩) (.slice p ((txI S k).length) c) (yl_move (by rfl) _ rfl _ rfl) ?_
        simp only [Act.put, lzA, lzB, lzC]
        refine wl_yield (o := ⟨_, _, _, _, _, _⟩) (.agg #[.int .i64 (((S.ints.getD k (0, 0))).1), .int .i64 (((S.ints.getD k (0, 0))).2)]) (yt_ldRg (by rfl) _ rfl _ 0 rfl _ _ (fun _ h => by subst h; exact ⟨cell_heap G5 0, cell_heap G5 1⟩)) ?_
        simp only [Act.put, lzA, lzB, lzC]
        refine wt_call (o := ⟨_, _, _, _, _, _⟩) (by rfl) 38 _ _ rfl #[.agg #[.int .i64 (((S.ints.getD k (0, 0))).1), .int .i64 (((S.ints.getD k (0, 0))).2)]] rfl (run_call Tryz.func38 (by kernel_rfl) (by kernel_rfl)) ?_
        refine (rangeText_any (S.ints.getD k (0, 0)) _ HE (hb k hlt)).mono ?_
        rintro r v7 ⟨rfl, kb⟩
        replace D := grown_below D kb
        replace RP := ownsRow_on RP kb
        replace HE := HE.on kb
        replace G1 := heap_on G1 kb
        replace G5 := heap_on G5 kb
        clear kb
        refine Or.inl ⟨.string (bs (rgTxt (S.ints.getD k (0, 0)))), rfl, ?_⟩
        simp only [Act.put, lzA, lzB, lzC]
        refine wt_row1S (o := ⟨_, _, _, _, _, _⟩) (by rfl) _ rfl (bs (rgTxt (S.ints.getD k (0, 0)))) rfl (fun v8 g8 hg G8 kb => ?_)
        have n_g1_g8 : g1 ≠ g8 := by have := lt_heap G1; omega
        have n_g5_g8 : g5 ≠ g8 := by have := lt_heap G5; omega
        have ge_g8 : w.heap.size ≤ g8 := Nat.le_trans D.size hg
        have six_g8 : 6 ≤ g8 := Nat.le_trans w6 ge_g8
        clear hg
        replace D := grown_below D kb
        replace RP := ownsRow_on RP kb
        replace HE := HE.on kb
        replace G1 := heap_on G1 kb
        replace G5 := heap_on G5 kb
        clear kb
        simp only [Act.put, lzA, lzB, lzC]
        refine wt_appS (o := ⟨_, _, _, _, _, _⟩) (by rfl) _ _ rfl w.heap.size _ (txI S k) rfl RP _ (bs (rgTxt (S.ints.getD k (0, 0)))) rfl G8 ((by first | (simp; done) | (have := txI_len S k; omega) | (have := txS_len S k; omega) | (have := txI_len S S.ints.length; omega))) (D.size) (fun v9' v9 hrow kg hown => ?_)
        clear G8
        replace HE := Env.gro HE RP kg w6
        replace G1 := heap_gro G1 kg (own_ne RP G1 (by decide))
        replace G5 := heap_gro G5 kg (own_ne RP G5 (by decide))
        replace D := gr_own D (fun g hg => Nat.le_trans (Nat.le_refl _) (World.ownsRow.lt RP g hg).1) kg
        clear kg hown
        replace RP := hrow
        clear hrow
        obtain ⟨p9, c9, rfl, -, -, -⟩ := ownsRow_form RP
        simp only [Act.put, lzA, lzB, lzC]
        refine wl_yield (o := ⟨_, _, _, _, _, _⟩) (.slice p9 ((txI S k ++ [(bs (rgTxt (S.ints.getD k (0, 0))))]).length) c9) (yl_assign (by rfl) _ rfl _ rfl) ?_
        simp only [Act.put, lzA, lzB, lzC]
        refine wpList_nil ?_
        refine hK9 _ _ ?_
        clear hK9 K9
        refine wp_region_lit ?_
        refine wl_yield (o := ⟨_, _, _, _, _, _⟩) (.int .i64 (k + 1 : Nat)) (yt_addI (by rfl) _ _ _ rfl (((k : Nat) : Int)) 1 (((k + 1 : Nat) : Int)) rfl rfl (by omega) (by omega) (by omega)) ?_
        simp only [Act.put, lzA, lzB, lzC]
        refine wl_yield (o := ⟨_, _, _, _, _, _⟩) (.int .i64 (k + 1 : Nat)) (yl_move (by rfl) _ rfl _ rfl) ?_
        simp only [Act.put, lzA, lzB, lzC]
        refine wpList_nil ?_
        show _ ∧ _
        go_roundw
        case rel => exact ⟨k + 1, p9, c9, rfl, by omega, by rw [txI_step S k hlt], by rw [txI_step S k hlt]; exact RP, G1, HE, D⟩
        case measure => simp [intOf]; omega
      · obtain rfl : k = S.ints.length := by omega
        refine wp_seq_k (fun K7 hK7 => ?_)
        refine wp_region_lit ?_
        refine wl_yield (o := ⟨_, _, _, _, _, _⟩) (.bool false) (yt_lssI (by rfl) _ _ _ rfl (((S.ints.length : Nat) : Int)) (((S.ints.length : Nat) : Int)) false rfl rfl (decide_eq_false (by omega))) ?_
        simp only [Act.put, lzA, lzB, lzC]
        refine wpList_nil ?_
        refine hK7 _ _ ?_
        clear hK7 K7
        refine wp_seq_k (fun K8 hK8 => ?_)
        refine wp_cond_false rfl ?_
        refine wp_exit ?_
        refine hK5 _ _ ?_
        clear hK8 K8 hK5 K5
        refine wp_seq_k (fun K9 hK9 => ?_)
        refine wp_seq_k (fun K10 hK10 => ?_)
        refine wp_region_lit ?_
        refine wl_yield (o := ⟨_, _, _, _, _, _⟩) (.pointer (some ⟨g1, 2, none⟩)) (yt_fSt2 (by rfl) _ rfl g1 0 rfl) ?_
        simp only [Act.put, lzA, lzB, lzC]
        refine wl_yield (o := ⟨_, _, _, _, _, _⟩) (.bool (S.co)) (yt_ldB (by rfl) _ rfl _ _ rfl S.co (fun _ h => by subst h; exact cell_heap G1 2)) ?_
        simp only [Act.put, lzA, lzB, lzC]
        refine wpList_nil ?_
        refine hK10 _ _ ?_
        clear hK10 K10
        refine wp_cond_split (t := S.co) rfl (fun hc => ?_) (fun hc => ?_)
        · have hco : S.co = true := hc
          refine wp_region_lit ?_
          refine wl_yield (o := ⟨_, _, _, _, _, _⟩) (.slice p ((txI S S.ints.length).length) c) (yl_move (by rfl) _ rfl _ rfl) ?_
          simp only [Act.put, lzA, lzB, lzC]
          refine wt_row1S (o := ⟨_, _, _, _, _, _⟩) (by rfl) _ rfl (bs ([126])) rfl (fun v5 g5 hg G5 kb => ?_)
          have n_g1_g5 : g1 ≠ g5 := by have := lt_heap G1; omega
          have ge_g5 : w.heap.size ≤ g5 := Nat.le_trans D.size hg
          have six_g5 : 6 ≤ g5 := Nat.le_trans w6 ge_g5
          clear hg
          replace D := grown_below D kb
          replace RP := ownsRow_on RP kb
          replace HE := HE.on kb
          replace G1 := heap_on G1 kb
          clear kb
          simp only [Act.put, lzA, lzB, lzC]
          refine wt_appS (o := ⟨_, _, _, _, _, _⟩) (by rfl) _ _ rfl w.heap.size _ (txI S S.ints.length) rfl RP _ (bs ([126])) rfl G5 ((by first | (simp; done) | (have := txI_len S k; omega) | (have := txS_len S k; omega) | (have := txI_len S S.ints.length; omega))) (D.size) (fun v6' v6 hrow kg hown => ?_)
          clear G5
          replace HE := Env.gro HE RP kg w6
          replace G1 := heap_gro G1 kg (own_ne RP G1 (by decide))
          replace D := gr_own D (fun g hg => Nat.le_trans (Nat.le_refl _) (World.ownsRow.lt RP g hg).1) kg
          clear kg hown
          replace RP := hrow
          clear hrow
          obtain ⟨p6, c6, rfl, -, -, -⟩ := ownsRow_form RP
          simp only [Act.put, lzA, lzB, lzC]
          refine wl_yield (o := ⟨_, _, _, _, _, _⟩) (.slice p6 ((txI S S.ints.length ++ [(bs ([126]))]).length) c6) (yl_assign (by rfl) _ rfl _ rfl) ?_
          simp only [Act.put, lzA, lzB, lzC]
          refine wpList_nil ?_
          refine hK9 _ _ ?_
          clear hK9 K9
          refine wp_seq_k (fun K11 hK11 => ?_)
          refine wp_seq_k (fun K12 hK12 => ?_)
          refine wp_region_lit ?_
          refine wl_yield (o := ⟨_, _, _, _, _, _⟩) (.pointer (some ⟨g1, 3, none⟩)) (yt_fSt3 (by rfl) _ rfl g1 0 rfl) ?_
          simp only [Act.put, lzA, lzB, lzC]
          refine wl_yield (o := ⟨_, _, _, _, _, _⟩) (.slice pS S.strs.length cS) (yt_ldLs (by rfl) _ rfl _ _ rfl pS S.strs.length cS (fun _ h => by subst h; exact cell_heap G1 3)) ?_
          simp only [Act.put, lzA, lzB, lzC]
          refine wl_yield (o := ⟨_, _, _, _, _, _⟩) (.int .i64 (S.strs.length : Nat)) (yt_lenT (by rfl) _ rfl pS S.strs.length cS rfl) ?_
          simp only [Act.put, lzA, lzB, lzC]
          refine wl_yield (o := ⟨_, _, _, _, _, _⟩) (.int .i64 0) (yl_move (by rfl) _ rfl _ rfl) ?_
          simp only [Act.put, lzA, lzB, lzC]
          refine wpList_nil ?_
          refine hK12 _ _ ?_
          clear hK12 K12
          refine wp_block ?_
          have E0 : txI S S.ints.length ++ [(bs ([126]))] = txS S 0 := by unfold txS; simp [hco]
          go_loopw [3, 36] (fun x i wr => ∃ (k : Nat) (p : Option Addr) (c : Nat), i = .int .i64 k ∧ k ≤ S.strs.length ∧ x = .slice p (txS S k).length c ∧ RowS wr w.heap.size (.slice p (txS S k).length c) (txS S k) ∧ wr.heap[g1]? = some (.cells #[.bool (S.absent), .slice pI S.ints.length cI, .bool (S.co), .slice pS S.strs.length cS] 26 (0, 0)) ∧ Env wr ∧ w.grownBy wr none) (fun _ i _ => S.strs.length - (intOf i).toNat)
          case atStart => exact ⟨0, p6, c6, rfl, by omega, (by rw [← E0]; try rfl), (by rw [← E0]; exact RP), G1, HE, D⟩
          case round =>
            clear D HE RP G1
            obtain ⟨k, p, c, rfl, hk, rfl, RP, G1, HE, D⟩ := hrel
            by_cases hlt : k < S.strs.length
            · obtain ⟨bI, oI, rfl, hc0⟩ := str_at hT D k hlt
              refine wp_seq_k (fun K13 hK13 => ?_)
              refine wp_region_lit ?_
              refine wl_yield (o := ⟨_, _, _, _, _, _⟩) (.bool true) (yt_lssI (by rfl) _ _ _ rfl (((k : Nat) : Int)) (((S.strs.length : Nat) : Int)) true rfl rfl (decide_eq_true (by omega))) ?_
              simp only [Act.put, lzA, lzB, lzC]
              refine wpList_nil ?_
              refine hK13 _ _ ?_
              clear hK13 K13
              refine wp_seq_k (fun K14 hK14 => ?_)
              refine wp_cond_true rfl ?_
              refine wp_skip ?_
              refine hK14 _ _ ?_
              clear hK14 K14
              refine wp_seq_k (fun K15 hK15 => ?_)
              refine wp_block ?_
              refine wp_seq_k (fun K16 hK16 => ?_)
              refine wp_region_lit ?_
              refine wl_yield (o := ⟨_, _, _, _, _, _⟩) (.pointer (some ⟨bI, oI + k * 1, none⟩)) (yt_atT (by rfl) _ _ rfl bI oI _ _ k rfl rfl (hlt)) ?_
              simp only [Act.put, lzA, lzB, lzC]
              refine wl_yield (o := ⟨_, _, _, _, _, _⟩) (.string (S.strs.getD k ⟨#[]⟩)) (yt_ldS (by rfl) _ rfl _ _ rfl (S.strs.getD k ⟨#[]⟩) (fun _ h => by subst h; exact hc0)) ?_
              simp only [Act.put, lzA, lzB, lzC]
              refine wl_yield (o := ⟨_, _, _, _, _, _⟩) (.string (S.strs.getD k ⟨#[]⟩)) (yl_assign (by rfl) _ rfl _ rfl) ?_
              simp only [Act.put, lzA, lzB, lzC]
              refine wpList_nil ?_
              refine hK16 _ _ ?_
              clear hK16 K16
              refine wp_region_lit ?_
              refine wl_yield (o := ⟨_, _, _, _, _, _⟩) (.slice p ((txS S k).length) c) (yl_move (by rfl) _ rfl _ rfl) ?_
              simp only [Act.put, lzA, lzB, lzC]
              refine wl_yield (o := ⟨_, _, _, _, _, _⟩) (.string (S.strs.getD k ⟨#[]⟩)) (yl_move (by rfl) _ rfl _ rfl) ?_
              simp only [Act.put, lzA, lzB, lzC]
              refine wt_call (o := ⟨_, _, _, _, _, _⟩) (by rfl) 39 _ _ rfl #[.string (S.strs.getD k ⟨#[]⟩)] rfl (run_call Tryz.func39 (by kernel_rfl) (by kernel_rfl)) ?_
              refine (c_quote (S.strs.getD k ⟨#[]⟩) _ (h8 k hlt)).mono ?_
              rintro r v7 ⟨rfl, kb⟩
              replace D := grown_below D kb
              replace RP := ownsRow_on RP kb
              replace HE := HE.on kb
              replace G1 := heap_on G1 kb
              clear kb
              refine Or.inl ⟨.string (bs (quoteL (S.strs.getD k ⟨#[]⟩).data.toList)), rfl, ?_⟩
              simp only [Act.put, lzA, lzB, lzC]
              refine wt_row1S (o := ⟨_, _, _, _, _, _⟩) (by rfl) _ rfl (bs (quoteL (S.strs.getD k ⟨#[]⟩).data.toList)) rfl (fun v8 g8 hg G8 kb => ?_)
              have n_g1_g8 : g1 ≠ g8 := by have := lt_heap G1; omega
              have ge_g8 : w.heap.size ≤ g8 := Nat.le_trans D.size hg
              have six_g8 : 6 ≤ g8 := Nat.le_trans w6 ge_g8
              clear hg
              replace D := grown_below D kb
              replace RP := ownsRow_on RP kb
              replace HE := HE.on kb
              replace G1 := heap_on G1 kb
              clear kb
              simp only [Act.put, lzA, lzB, lzC]
              refine wt_appS (o := ⟨_, _, _, _, _, _⟩) (by rfl) _ _ rfl w.heap.size _ (txS S k) rfl RP _ (bs (quoteL (S.strs.getD k ⟨#[]⟩).data.toList)) rfl G8 ((by first | (simp; done) | (have := txI_len S k; omega) | (have := txS_len S k; omega) | (have := txI_len S S.ints.length; omega))) (D.size) (fun v9' v9 hrow kg hown => ?_)
              clear G8
              replace HE := Env.gro HE RP kg w6
              replace G1 := heap_gro G1 kg (own_ne RP G1 (by decide))
              replace D := gr_own D (fun g hg => Nat.le_trans (Nat.le_refl _) (World.ownsRow.lt RP g hg).1) kg
              clear kg hown
              replace RP := hrow
              clear hrow
              obtain ⟨p9, c9, rfl, -, -, -⟩ := ownsRow_form RP
              simp only [Act.put, lzA, lzB, lzC]
              refine wl_yield (o := ⟨_, _, _, _, _, _⟩) (.slice p9 ((txS S k ++ [(bs (quoteL (S.strs.getD k ⟨#[]⟩).data.toList))]).length) c9) (yl_assign (by rfl) _ rfl _ rfl) ?_
              simp only [Act.put, lzA, lzB, lzC]
              refine wpList_nil ?_
              refine hK15 _ _ ?_
              clear hK15 K15
              refine wp_region_lit ?_
              refine wl_yield (o := ⟨_, _, _, _, _, _⟩) (.int .i64 (k + 1 : Nat)) (yt_addI (by rfl) _ _ _ rfl (((k : Nat) : Int)) 1 (((k + 1 : Nat) : Int)) rfl rfl (by omega) (by omega) (by omega)) ?_
              simp only [Act.put, lzA, lzB, lzC]
              refine wl_yield (o := ⟨_, _, _, _, _, _⟩) (.int .i64 (k + 1 : Nat)) (yl_move (by rfl) _ rfl _ rfl) ?_
              simp only [Act.put, lzA, lzB, lzC]
              refine wpList_nil ?_
              show _ ∧ _
              go_roundw
              case rel => exact ⟨k + 1, p9, c9, rfl, by omega, by rw [txS_step S k hlt], by rw [txS_step S k hlt]; exact RP, G1, HE, D⟩
              case measure => simp [intOf]; omega
            · obtain rfl : k = S.strs.length := by omega
              refine wp_seq_k (fun K13 hK13 => ?_)
              refine wp_region_lit ?_
              refine wl_yield (o := ⟨_, _, _, _, _, _⟩) (.bool false) (yt_lssI (by rfl) _ _ _ rfl (((S.strs.length : Nat) : Int)) (((S.strs.length : Nat) : Int)) false rfl rfl (decide_eq_false (by omega))) ?_
              simp only [Act.put, lzA, lzB, lzC]
              refine wpList_nil ?_
              refine hK13 _ _ ?_
              clear hK13 K13
              refine wp_seq_k (fun K14 hK14 => ?_)
              refine wp_cond_false rfl ?_
              refine wp_exit ?_
              refine hK11 _ _ ?_
              clear hK14 K14 hK11 K11
              refine wp_seq_k (fun K15 hK15 => ?_)
              refine wp_region_lit ?_
              refine wl_yield (o := ⟨_, _, _, _, _, _⟩) (.slice p ((txS S S.strs.length).length) c) (yl_move (by rfl) _ rfl _ rfl) ?_
              simp only [Act.put, lzA, lzB, lzC]
              refine wt_call (o := ⟨_, _, _, _, _, _⟩) (by rfl) 33 _ _ rfl #[.slice p ((txS S S.strs.length).length) c, .string (bs ([32]))] rfl (run_call Tryz.func33 (by kernel_rfl) (by kernel_rfl)) ?_
              refine (c_join RP (by have := txS_len S S.strs.length; omega) (by rw [txS_all]; exact hjl)).mono ?_
              rintro r v7 ⟨rfl, kb⟩
              replace D := grown_below D kb
              replace RP := ownsRow_on RP kb
              replace HE := HE.on kb
              replace G1 := heap_on G1 kb
              clear kb
              refine Or.inl ⟨.string (bs (joinL ((txS S S.strs.length).map (·.data.toList)))), rfl, ?_⟩
              simp only [Act.put, lzA, lzB, lzC]
              refine wl_yield (o := ⟨_, _, _, _, _, _⟩) (.string (bs (([91]) ++ (joinL ((txS S S.strs.length).map (·.data.toList)))))) (yt_cat (by rfl) _ _ _ rfl ([91]) (joinL ((txS S S.strs.length).map (·.data.toList))) rfl rfl (by simp only [List.length_cons, List.length_append, List.length_nil]; omega)) ?_
              simp only [Act.put, lzA, lzB, lzC]
              refine wl_yield (o := ⟨_, _, _, _, _, _⟩) (.string (bs ((([91]) ++ (joinL ((txS S S.strs.length).map (·.data.toList)))) ++ ([93])))) (yt_cat (by rfl) _ _ _ rfl (([91]) ++ (joinL ((txS S S.strs.length).map (·.data.toList)))) ([93]) rfl rfl (by simp only [List.length_cons, List.length_append, List.length_nil]; omega)) ?_
              simp only [Act.put, lzA, lzB, lzC]
              refine wl_yield (o := ⟨_, _, _, _, _, _⟩) (.string (bs ((([91]) ++ (joinL ((txS S S.strs.length).map (·.data.toList)))) ++ ([93])))) (yl_assign (by rfl) _ rfl _ rfl) ?_
              simp only [Act.put, lzA, lzB, lzC]
              refine wpList_nil ?_
              refine hK15 _ _ ?_
              clear hK15 K15
              refine wp_ret ?_
              have hj : bs ([91] ++ joinL ((txS S S.strs.length).map (·.data.toList)) ++ [93]) = bs (setTxt S) := by rw [txS_all]; rfl
              go_ret
              exact ⟨ret_str hj, below_none D⟩
        · have hco : S.co = false := hc
          refine wp_skip ?_
          refine hK9 _ _ ?_
          clear hK9 K9
          refine wp_seq_k (fun K11 hK11 => ?_)
          refine wp_seq_k (fun K12 hK12 => ?_)
          refine wp_region_lit ?_
          refine wl_yield (o := ⟨_, _, _, _, _, _⟩) (.pointer (some ⟨g1, 3, none⟩)) (yt_fSt3 (by rfl) _ rfl g1 0 rfl) ?_
          simp only [Act.put, lzA, lzB, lzC]
          refine wl_yield (o := ⟨_, _, _, _, _, _⟩) (.slice pS S.strs.length cS) (yt_ldLs (by rfl) _ rfl _ _ rfl pS S.strs.length cS (fun _ h => by subst h; exact cell_heap G1 3)) ?_
          simp only [Act.put, lzA, lzB, lzC]
          refine wl_yield (o := ⟨_, _, _, _, _, _⟩) (.int .i64 (S.strs.length : Nat)) (yt_lenT (by rfl) _ rfl pS S.strs.length cS rfl) ?_
          simp only [Act.put, lzA, lzB, lzC]
          refine wl_yield (o := ⟨_, _, _, _, _, _⟩) (.int .i64 0) (yl_move (by rfl) _ rfl _ rfl) ?_
          simp only [Act.put, lzA, lzB, lzC]
          refine wpList_nil ?_
          refine hK12 _ _ ?_
          clear hK12 K12
          refine wp_block ?_
          have E0 : txI S S.ints.length = txS S 0 := by unfold txS; simp [hco]
          go_loopw [3, 36] (fun x i wr => ∃ (k : Nat) (p : Option Addr) (c : Nat), i = .int .i64 k ∧ k ≤ S.strs.length ∧ x = .slice p (txS S k).length c ∧ RowS wr w.heap.size (.slice p (txS S k).length c) (txS S k) ∧ wr.heap[g1]? = some (.cells #[.bool (S.absent), .slice pI S.ints.length cI, .bool (S.co), .slice pS S.strs.length cS] 26 (0, 0)) ∧ Env wr ∧ w.grownBy wr none) (fun _ i _ => S.strs.length - (intOf i).toNat)
          case atStart => exact ⟨0, p, c, rfl, by omega, (by rw [← E0]; try rfl), (by rw [← E0]; exact RP), G1, HE, D⟩
          case round =>
            clear D HE RP G1
            obtain ⟨k, p, c, rfl, hk, rfl, RP, G1, HE, D⟩ := hrel
            by_cases hlt : k < S.strs.length
            · obtain ⟨bI, oI, rfl, hc0⟩ := str_at hT D k hlt
              refine wp_seq_k (fun K13 hK13 => ?_)
              refine wp_region_lit ?_
              refine wl_yield (o := ⟨_, _, _, _, _, _⟩) (.bool true) (yt_lssI (by rfl) _ _ _ rfl (((k : Nat) : Int)) (((S.strs.length : Nat) : Int)) true rfl rfl (decide_eq_true (by omega))) ?_
              simp only [Act.put, lzA, lzB, lzC]
              refine wpList_nil ?_
              refine hK13 _ _ ?_
              clear hK13 K13
              refine wp_seq_k (fun K14 hK14 => ?_)
              refine wp_cond_true rfl ?_
              refine wp_skip ?_
              refine hK14 _ _ ?_
              clear hK14 K14
              refine wp_seq_k (fun K15 hK15 => ?_)
              refine wp_block ?_
              refine wp_seq_k (fun K16 hK16 => ?_)
              refine wp_region_lit ?_
              refine wl_yield (o := ⟨_, _, _, _, _, _⟩) (.pointer (some ⟨bI, oI + k * 1, none⟩)) (yt_atT (by rfl) _ _ rfl bI oI _ _ k rfl rfl (hlt)) ?_
              simp only [Act.put, lzA, lzB, lzC]
              refine wl_yield (o := ⟨_, _, _, _, _, _⟩) (.string (S.strs.getD k ⟨#[]⟩)) (yt_ldS (by rfl) _ rfl _ _ rfl (S.strs.getD k ⟨#[]⟩) (fun _ h => by subst h; exact hc0)) ?_
              simp only [Act.put, lzA, lzB, lzC]
              refine wl_yield (o := ⟨_, _, _, _, _, _⟩) (.string (S.strs.getD k ⟨#[]⟩)) (yl_assign (by rfl) _ rfl _ rfl) ?_
              simp only [Act.put, lzA, lzB, lzC]
              refine wpList_nil ?_
              refine hK16 _ _ ?_
              clear hK16 K16
              refine wp_region_lit ?_
              refine wl_yield (o := ⟨_, _, _, _, _, _⟩) (.slice p ((txS S k).length) c) (yl_move (by rfl) _ rfl _ rfl) ?_
              simp only [Act.put, lzA, lzB, lzC]
              refine wl_yield (o := ⟨_, _, _, _, _, _⟩) (.string (S.strs.getD k ⟨#[]⟩)) (yl_move (by rfl) _ rfl _ rfl) ?_
              simp only [Act.put, lzA, lzB, lzC]
              refine wt_call (o := ⟨_, _, _, _, _, _⟩) (by rfl) 39 _ _ rfl #[.string (S.strs.getD k ⟨#[]⟩)] rfl (run_call Tryz.func39 (by kernel_rfl) (by kernel_rfl)) ?_
              refine (c_quote (S.strs.getD k ⟨#[]⟩) _ (h8 k hlt)).mono ?_
              rintro r v5 ⟨rfl, kb⟩
              replace D := grown_below D kb
              replace RP := ownsRow_on RP kb
              replace HE := HE.on kb
              replace G1 := heap_on G1 kb
              clear kb
              refine Or.inl ⟨.string (bs (quoteL (S.strs.getD k ⟨#[]⟩).data.toList)), rfl, ?_⟩
              simp only [Act.put, lzA, lzB, lzC]
              refine wt_row1S (o := ⟨_, _, _, _, _, _⟩) (by rfl) _ rfl (bs (quoteL (S.strs.getD k ⟨#[]⟩).data.toList)) rfl (fun v6 g6 hg G6 kb => ?_)
              have n_g1_g6 : g1 ≠ g6 := by have := lt_heap G1; omega
              have ge_g6 : w.heap.size ≤ g6 := Nat.le_trans D.size hg
              have six_g6 : 6 ≤ g6 := Nat.le_trans w6 ge_g6
              clear hg
              replace D := grown_below D kb
              replace RP := ownsRow_on RP kb
              replace HE := HE.on kb
              replace G1 := heap_on G1 kb
              clear kb
              simp only [Act.put, lzA, lzB, lzC]
              refine wt_appS (o := ⟨_, _, _, _, _, _⟩) (by rfl) _ _ rfl w.heap.size _ (txS S k) rfl RP _ (bs (quoteL (S.strs.getD k ⟨#[]⟩).data.toList)) rfl G6 ((by first | (simp; done) | (have := txI_len S k; omega) | (have := txS_len S k; omega) | (have := txI_len S S.ints.length; omega))) (D.size) (fun v7' v7 hrow kg hown => ?_)
              clear G6
              replace HE := Env.gro HE RP kg w6
              replace G1 := heap_gro G1 kg (own_ne RP G1 (by decide))
              replace D := gr_own D (fun g hg => Nat.le_trans (Nat.le_refl _) (World.ownsRow.lt RP g hg).1) kg
              clear kg hown
              replace RP := hrow
              clear hrow
              obtain ⟨p7, c7, rfl, -, -, -⟩ := ownsRow_form RP
              simp only [Act.put, lzA, lzB, lzC]
              refine wl_yield (o := ⟨_, _, _, _, _, _⟩) (.slice p7 ((txS S k ++ [(bs (quoteL (S.strs.getD k ⟨#[]⟩).data.toList))]).length) c7) (yl_assign (by rfl) _ rfl _ rfl) ?_
              simp only [Act.put, lzA, lzB, lzC]
              refine wpList_nil ?_
              refine hK15 _ _ ?_
              clear hK15 K15
              refine wp_region_lit ?_
              refine wl_yield (o := ⟨_, _, _, _, _, _⟩) (.int .i64 (k + 1 : Nat)) (yt_addI (by rfl) _ _ _ rfl (((k : Nat) : Int)) 1 (((k + 1 : Nat) : Int)) rfl rfl (by omega) (by omega) (by omega)) ?_
              simp only [Act.put, lzA, lzB, lzC]
              refine wl_yield (o := ⟨_, _, _, _, _, _⟩) (.int .i64 (k + 1 : Nat)) (yl_move (by rfl) _ rfl _ rfl) ?_
              simp only [Act.put, lzA, lzB, lzC]
              refine wpList_nil ?_
              show _ ∧ _
              go_roundw
              case rel => exact ⟨k + 1, p7, c7, rfl, by omega, by rw [txS_step S k hlt], by rw [txS_step S k hlt]; exact RP, G1, HE, D⟩
              case measure => simp [intOf]; omega
            · obtain rfl : k = S.strs.length := by omega
              refine wp_seq_k (fun K13 hK13 => ?_)
              refine wp_region_lit ?_
              refine wl_yield (o := ⟨_, _, _, _, _, _⟩) (.bool false) (yt_lssI (by rfl) _ _ _ rfl (((S.strs.length : Nat) : Int)) (((S.strs.length : Nat) : Int)) false rfl rfl (decide_eq_false (by omega))) ?_
              simp only [Act.put, lzA, lzB, lzC]
              refine wpList_nil ?_
              refine hK13 _ _ ?_
              clear hK13 K13
              refine wp_seq_k (fun K14 hK14 => ?_)
              refine wp_cond_false rfl ?_
              refine wp_exit ?_
              refine hK11 _ _ ?_
              clear hK14 K14 hK11 K11
              refine wp_seq_k (fun K15 hK15 => ?_)
              refine wp_region_lit ?_
              refine wl_yield (o := ⟨_, _, _, _, _, _⟩) (.slice p ((txS S S.strs.length).length) c) (yl_move (by rfl) _ rfl _ rfl) ?_
              simp only [Act.put, lzA, lzB, lzC]
              refine wt_call (o := ⟨_, _, _, _, _, _⟩) (by rfl) 33 _ _ rfl #[.slice p ((txS S S.strs.length).length) c, .string (bs ([32]))] rfl (run_call Tryz.func33 (by kernel_rfl) (by kernel_rfl)) ?_
              refine (c_join RP (by have := txS_len S S.strs.length; omega) (by rw [txS_all]; exact hjl)).mono ?_
              rintro r v5 ⟨rfl, kb⟩
              replace D := grown_below D kb
              replace RP := ownsRow_on RP kb
              replace HE := HE.on kb
              replace G1 := heap_on G1 kb
              clear kb
              refine Or.inl ⟨.string (bs (joinL ((txS S S.strs.length).map (·.data.toList)))), rfl, ?_⟩
              simp only [Act.put, lzA, lzB, lzC]
              refine wl_yield (o := ⟨_, _, _, _, _, _⟩) (.string (bs (([91]) ++ (joinL ((txS S S.strs.length).map (·.data.toList)))))) (yt_cat (by rfl) _ _ _ rfl ([91]) (joinL ((txS S S.strs.length).map (·.data.toList))) rfl rfl (by simp only [List.length_cons, List.length_append, List.length_nil]; omega)) ?_
              simp only [Act.put, lzA, lzB, lzC]
              refine wl_yield (o := ⟨_, _, _, _, _, _⟩) (.string (bs ((([91]) ++ (joinL ((txS S S.strs.length).map (·.data.toList)))) ++ ([93])))) (yt_cat (by rfl) _ _ _ rfl (([91]) ++ (joinL ((txS S S.strs.length).map (·.data.toList)))) ([93]) rfl rfl (by simp only [List.length_cons, List.length_append, List.length_nil]; omega)) ?_
              simp only [Act.put, lzA, lzB, lzC]
              refine wl_yield (o := ⟨_, _, _, _, _, _⟩) (.string (bs ((([91]) ++ (joinL ((txS S S.strs.length).map (·.data.toList)))) ++ ([93])))) (yl_assign (by rfl) _ rfl _ rfl) ?_
              simp only [Act.put, lzA, lzB, lzC]
              refine wpList_nil ?_
              refine hK15 _ _ ?_
              clear hK15 K15
              refine wp_ret ?_
              have hj : bs ([91] ++ joinL ((txS S S.strs.length).map (·.data.toList)) ++ [93]) = bs (setTxt S) := by rw [txS_all]; rfl
              go_ret
              exact ⟨ret_str hj, below_none D⟩
  · have hab : S.absent = false := hc
    refine wp_skip ?_
    refine hK3 _ _ ?_
    clear hK3 K3
    refine wp_seq_k (fun K5 hK5 => ?_)
    refine wp_seq_k (fun K6 hK6 => ?_)
    refine wp_region_lit ?_
    refine wl_yield (o := ⟨_, _, _, _, _, _⟩) (.pointer (some ⟨g1, 1, none⟩)) (yt_fSt1 (by rfl) _ rfl g1 0 rfl) ?_
    simp only [Act.put, lzA, lzB, lzC]
    refine wl_yield (o := ⟨_, _, _, _, _, _⟩) (.slice pI S.ints.length cI) (yt_ldLr (by rfl) _ rfl _ _ rfl pI S.ints.length cI (fun _ h => by subst h; exact cell_heap G1 1)) ?_
    simp only [Act.put, lzA, lzB, lzC]
    refine wl_yield (o := ⟨_, _, _, _, _, _⟩) (.int .i64 (S.ints.length : Nat)) (yt_lenR (by rfl) _ rfl pI S.ints.length cI rfl) ?_
    simp only [Act.put, lzA, lzB, lzC]
    refine wl_yield (o := ⟨_, _, _, _, _, _⟩) (.int .i64 0) (yl_move (by rfl) _ rfl _ rfl) ?_
    simp only [Act.put, lzA, lzB, lzC]
    refine wpList_nil ?_
    refine hK6 _ _ ?_
    clear hK6 K6
    refine wp_block ?_
    have E0 : [] = txI S 0 := by unfold txI; simp [hab]
    go_loopw [3, 18] (fun x i wr => ∃ (k : Nat) (p : Option Addr) (c : Nat), i = .int .i64 k ∧ k ≤ S.ints.length ∧ x = .slice p (txI S k).length c ∧ RowS wr w.heap.size (.slice p (txI S k).length c) (txI S k) ∧ wr.heap[g1]? = some (.cells #[.bool (S.absent), .slice pI S.ints.length cI, .bool (S.co), .slice pS S.strs.length cS] 26 (0, 0)) ∧ Env wr ∧ w.grownBy wr none) (fun _ i _ => S.ints.length - (intOf i).toNat)
    case atStart => exact ⟨0, none, 0, rfl, by omega, (by rw [← E0]; try rfl), (by rw [← E0]; exact RP), G1, HE, D⟩
    case round =>
      clear D HE RP G1
      obtain ⟨k, p, c, rfl, hk, rfl, RP, G1, HE, D⟩ := hrel
      by_cases hlt : k < S.ints.length
      · obtain ⟨bI, oI, rfl, hc0, hc1⟩ := rng_at hI D k hlt
        refine wp_seq_k (fun K7 hK7 => ?_)
        refine wp_region_lit ?_
        refine wl_yield (o := ⟨_, _, _, _, _, _⟩) (.bool true) (yt_lssI (by rfl) _ _ _ rfl (((k : Nat) : Int)) (((S.ints.length : Nat) : Int)) true rfl rfl (decide_eq_true (by omega))) ?_
        simp only [Act.put, lzA, lzB, lzC]
        refine wpList_nil ?_
        refine hK7 _ _ ?_
        clear hK7 K7
        refine wp_seq_k (fun K8 hK8 => ?_)
        refine wp_cond_true rfl ?_
        refine wp_skip ?_
        refine hK8 _ _ ?_
        clear hK8 K8
        refine wp_seq_k (fun K9 hK9 => ?_)
        refine wp_block ?_
        refine wp_seq_k (fun K10 hK10 => ?_)
        refine wp_region_lit ?_
        refine wl_yield (o := ⟨_, _, _, _, _, _⟩) (.pointer (some ⟨bI, oI + k * 2, none⟩)) (yt_atR (by rfl) _ _ rfl bI oI _ _ k rfl rfl (hlt)) ?_
        simp only [Act.put, lzA, lzB, lzC]
        refine wl_yield (o := ⟨_, _, _, _, _, _⟩) (.agg #[.int .i64 ((S.ints.getD k (0, 0))).1, .int .i64 ((S.ints.getD k (0, 0))).2]) (yt_ldRg (by rfl) _ rfl _ (oI + k * 2) rfl _ _ (fun _ h => by subst h; exact ⟨hc0, hc1⟩)) ?_
        simp only [Act.put, lzA, lzB, lzC]
        refine wt_allocRg (o := ⟨_, _, _, _, _, _⟩) (by rfl) rfl (fun v2 g2 hg G2 kb => ?_)
        simp only [Act.put, lzA, lzB, lzC]
        have n_g1_g2 : g1 ≠ g2 := by have := lt_heap G1; omega
        have ge_g2 : w.heap.size ≤ g2 := Nat.le_trans D.size hg
        have six_g2 : 6 ≤ g2 := Nat.le_trans w6 ge_g2
        clear hg
        replace D := grown_below D kb
        replace RP := ownsRow_on RP kb
        replace HE := HE.on kb
        replace G1 := heap_on G1 kb
        clear kb
        replace G2 : v2.heap[g2]? = some (.cells #[.int .i64 0, .int .i64 0] 96 (0, 0)) := G2
        refine wt_putRg (o := ⟨_, _, _, _, _, _⟩) rfl _ _ rfl _ rfl ((S.ints.getD k (0, 0))) rfl G2 rfl (fun v3 X kg => ?_)
        simp only [Act.put, lzA, lzB, lzC]
        replace RP := row_gr_heap RP kg G2 (by decide)
        replace D := gr_new D ge_g2 kg
        replace HE := Env.gr HE kg six_g2
        replace G1 := heap_gr G1 kg n_g1_g2
        clear kg
        replace G2 : v3.heap[g2]? = some (.cells #[.int .i64 (((S.ints.getD k (0, 0))).1), .int .i64 (((S.ints.getD k (0, 0))).2)] 96 (0, 0)) := X
        clear X
        refine wpList_nil ?_
        refine hK10 _ _ ?_
        clear hK10 K10
        refine wp_region_lit ?_
        refine wl_yield (o := ⟨_, _, _, _, _, _⟩) (.slice p ((txI S k).length) c) (yl_move (by rfl) _ rfl _ rfl) ?_
        simp only [Act.put, lzA, lzB, lzC]
        refine wl_yield (o := ⟨_, _, _, _, _, _⟩) (.agg #[.int .i64 (((S.ints.getD k (0, 0))).1), .int .i64 (((S.ints.getD k (0, 0))).2)]) (yt_ldRg (by rfl) _ rfl _ 0 rfl _ _ (fun _ h => by subst h; exact ⟨cell_heap G2 0, cell_heap G2 1⟩)) ?_
        simp only [Act.put, lzA, lzB, lzC]
        refine wt_call (o := ⟨_, _, _, _, _, _⟩) (by rfl) 38 _ _ rfl #[.agg #[.int .i64 (((S.ints.getD k (0, 0))).1), .int .i64 (((S.ints.getD k (0, 0))).2)]] rfl (run_call Tryz.func38 (by kernel_rfl) (by kernel_rfl)) ?_
        refine (rangeText_any (S.ints.getD k (0, 0)) _ HE (hb k hlt)).mono ?_
        rintro r v4 ⟨rfl, kb⟩
        replace D := grown_below D kb
        replace RP := ownsRow_on RP kb
        replace HE := HE.on kb
        replace G1 := heap_on G1 kb
        replace G2 := heap_on G2 kb
        clear kb
        refine Or.inl ⟨.string (bs (rgTxt (S.ints.getD k (0, 0)))), rfl, ?_⟩
        simp only [Act.put, lzA, lzB, lzC]
        refine wt_row1S (o := ⟨_, _, _, _, _, _⟩) (by rfl) _ rfl (bs (rgTxt (S.ints.getD k (0, 0)))) rfl (fun v5 g5 hg G5 kb => ?_)
        have n_g1_g5 : g1 ≠ g5 := by have := lt_heap G1; omega
        have n_g2_g5 : g2 ≠ g5 := by have := lt_heap G2; omega
        have ge_g5 : w.heap.size ≤ g5 := Nat.le_trans D.size hg
        have six_g5 : 6 ≤ g5 := Nat.le_trans w6 ge_g5
        clear hg
        replace D := grown_below D kb
        replace RP := ownsRow_on RP kb
        replace HE := HE.on kb
        replace G1 := heap_on G1 kb
        replace G2 := heap_on G2 kb
        clear kb
        simp only [Act.put, lzA, lzB, lzC]
        refine wt_appS (o := ⟨_, _, _, _, _, _⟩) (by rfl) _ _ rfl w.heap.size _ (txI S k) rfl RP _ (bs (rgTxt (S.ints.getD k (0, 0)))) rfl G5 ((by first | (simp; done) | (have := txI_len S k; omega) | (have := txS_len S k; omega) | (have := txI_len S S.ints.length; omega))) (D.size) (fun v6' v6 hrow kg hown => ?_)
        clear G5
        replace HE := Env.gro HE RP kg w6
        replace G1 := heap_gro G1 kg (own_ne RP G1 (by decide))
        replace G2 := heap_gro G2 kg (own_ne RP G2 (by decide))
        replace D := gr_own D (fun g hg => Nat.le_trans (Nat.le_refl _) (World.ownsRow.lt RP g hg).1) kg
        clear kg hown
        replace RP := hrow
        clear hrow
        obtain ⟨p6, c6, rfl, -, -, -⟩ := ownsRow_form RP
        simp only [Act.put, lzA, lzB, lzC]
        refine wl_yield (o := ⟨_, _, _, _, _, _⟩) (.slice p6 ((txI S k ++ [(bs (rgTxt (S.ints.getD k (0, 0))))]).length) c6) (yl_assign (by rfl) _ rfl _ rfl) ?_
        simp only [Act.put, lzA, lzB, lzC]
        refine wpList_nil ?_
        refine hK9 _ _ ?_
        clear hK9 K9
        refine wp_region_lit ?_
        refine wl_yield (o := ⟨_, _, _, _, _, _⟩) (.int .i64 (k + 1 : Nat)) (yt_addI (by rfl) _ _ _ rfl (((k : Nat) : Int)) 1 (((k + 1 : Nat) : Int)) rfl rfl (by omega) (by omega) (by omega)) ?_
        simp only [Act.put, lzA, lzB, lzC]
        refine wl_yield (o := ⟨_, _, _, _, _, _⟩) (.int .i64 (k + 1 : Nat)) (yl_move (by rfl) _ rfl _ rfl) ?_
        simp only [Act.put, lzA, lzB, lzC]
        refine wpList_nil ?_
        show _ ∧ _
        go_roundw
        case rel => exact ⟨k + 1, p6, c6, rfl, by omega, by rw [txI_step S k hlt], by rw [txI_step S k hlt]; exact RP, G1, HE, D⟩
        case measure => simp [intOf]; omega
      · obtain rfl : k = S.ints.length := by omega
        refine wp_seq_k (fun K7 hK7 => ?_)
        refine wp_region_lit ?_
        refine wl_yield (o := ⟨_, _, _, _, _, _⟩) (.bool false) (yt_lssI (by rfl) _ _ _ rfl (((S.ints.length : Nat) : Int)) (((S.ints.length : Nat) : Int)) false rfl rfl (decide_eq_false (by omega))) ?_
        simp only [Act.put, lzA, lzB, lzC]
        refine wpList_nil ?_
        refine hK7 _ _ ?_
        clear hK7 K7
        refine wp_seq_k (fun K8 hK8 => ?_)
        refine wp_cond_false rfl ?_
        refine wp_exit ?_
        refine hK5 _ _ ?_
        clear hK8 K8 hK5 K5
        refine wp_seq_k (fun K9 hK9 => ?_)
        refine wp_seq_k (fun K10 hK10 => ?_)
        refine wp_region_lit ?_
        refine wl_yield (o := ⟨_, _, _, _, _, _⟩) (.pointer (some ⟨g1, 2, none⟩)) (yt_fSt2 (by rfl) _ rfl g1 0 rfl) ?_
        simp only [Act.put, lzA, lzB, lzC]
        refine wl_yield (o := ⟨_, _, _, _, _, _⟩) (.bool (S.co)) (yt_ldB (by rfl) _ rfl _ _ rfl S.co (fun _ h => by subst h; exact cell_heap G1 2)) ?_
        simp only [Act.put, lzA, lzB, lzC]
        refine wpList_nil ?_
        refine hK10 _ _ ?_
        clear hK10 K10
        refine wp_cond_split (t := S.co) rfl (fun hc => ?_) (fun hc => ?_)
        · have hco : S.co = true := hc
          refine wp_region_lit ?_
          refine wl_yield (o := ⟨_, _, _, _, _, _⟩) (.slice p ((txI S S.ints.length).length) c) (yl_move (by rfl) _ rfl _ rfl) ?_
          simp only [Act.put, lzA, lzB, lzC]
          refine wt_row1S (o := ⟨_, _, _, _, _, _⟩) (by rfl) _ rfl (bs ([126])) rfl (fun v2 g2 hg G2 kb => ?_)
          have n_g1_g2 : g1 ≠ g2 := by have := lt_heap G1; omega
          have ge_g2 : w.heap.size ≤ g2 := Nat.le_trans D.size hg
          have six_g2 : 6 ≤ g2 := Nat.le_trans w6 ge_g2
          clear hg
          replace D := grown_below D kb
          replace RP := ownsRow_on RP kb
          replace HE := HE.on kb
          replace G1 := heap_on G1 kb
          clear kb
          simp only [Act.put, lzA, lzB, lzC]
          refine wt_appS (o := ⟨_, _, _, _, _, _⟩) (by rfl) _ _ rfl w.heap.size _ (txI S S.ints.length) rfl RP _ (bs ([126])) rfl G2 ((by first | (simp; done) | (have := txI_len S k; omega) | (have := txS_len S k; omega) | (have := txI_len S S.ints.length; omega))) (D.size) (fun v3' v3 hrow kg hown => ?_)
          clear G2
          replace HE := Env.gro HE RP kg w6
          replace G1 := heap_gro G1 kg (own_ne RP G1 (by decide))
          replace D := gr_own D (fun g hg => Nat.le_trans (Nat.le_refl _) (World.ownsRow.lt RP g hg).1) kg
          clear kg hown
          replace RP := hrow
          clear hrow
          obtain ⟨p3, c3, rfl, -, -, -⟩ := ownsRow_form RP
          simp only [Act.put, lzA, lzB, lzC]
          refine wl_yield (o := ⟨_, _, _, _, _, _⟩) (.slice p3 ((txI S S.ints.length ++ [(bs ([126]))]).length) c3) (yl_assign (by rfl) _ rfl _ rfl) ?_
          simp only [Act.put, lzA, lzB, lzC]
          refine wpList_nil ?_
          refine hK9 _ _ ?_
          clear hK9 K9
          refine wp_seq_k (fun K11 hK11 => ?_)
          refine wp_seq_k (fun K12 hK12 => ?_)
          refine wp_region_lit ?_
          refine wl_yield (o := ⟨_, _, _, _, _, _⟩) (.pointer (some ⟨g1, 3, none⟩)) (yt_fSt3 (by rfl) _ rfl g1 0 rfl) ?_
          simp only [Act.put, lzA, lzB, lzC]
          refine wl_yield (o := ⟨_, _, _, _, _, _⟩) (.slice pS S.strs.length cS) (yt_ldLs (by rfl) _ rfl _ _ rfl pS S.strs.length cS (fun _ h => by subst h; exact cell_heap G1 3)) ?_
          simp only [Act.put, lzA, lzB, lzC]
          refine wl_yield (o := ⟨_, _, _, _, _, _⟩) (.int .i64 (S.strs.length : Nat)) (yt_lenT (by rfl) _ rfl pS S.strs.length cS rfl) ?_
          simp only [Act.put, lzA, lzB, lzC]
          refine wl_yield (o := ⟨_, _, _, _, _, _⟩) (.int .i64 0) (yl_move (by rfl) _ rfl _ rfl) ?_
          simp only [Act.put, lzA, lzB, lzC]
          refine wpList_nil ?_
          refine hK12 _ _ ?_
          clear hK12 K12
          refine wp_block ?_
          have E0 : txI S S.ints.length ++ [(bs ([126]))] = txS S 0 := by unfold txS; simp [hco]
          go_loopw [3, 36] (fun x i wr => ∃ (k : Nat) (p : Option Addr) (c : Nat), i = .int .i64 k ∧ k ≤ S.strs.length ∧ x = .slice p (txS S k).length c ∧ RowS wr w.heap.size (.slice p (txS S k).length c) (txS S k) ∧ wr.heap[g1]? = some (.cells #[.bool (S.absent), .slice pI S.ints.length cI, .bool (S.co), .slice pS S.strs.length cS] 26 (0, 0)) ∧ Env wr ∧ w.grownBy wr none) (fun _ i _ => S.strs.length - (intOf i).toNat)
          case atStart => exact ⟨0, p3, c3, rfl, by omega, (by rw [← E0]; try rfl), (by rw [← E0]; exact RP), G1, HE, D⟩
          case round =>
            clear D HE RP G1
            obtain ⟨k, p, c, rfl, hk, rfl, RP, G1, HE, D⟩ := hrel
            by_cases hlt : k < S.strs.length
            · obtain ⟨bI, oI, rfl, hc0⟩ := str_at hT D k hlt
              refine wp_seq_k (fun K13 hK13 => ?_)
              refine wp_region_lit ?_
              refine wl_yield (o := ⟨_, _, _, _, _, _⟩) (.bool true) (yt_lssI (by rfl) _ _ _ rfl (((k : Nat) : Int)) (((S.strs.length : Nat) : Int)) true rfl rfl (decide_eq_true (by omega))) ?_
              simp only [Act.put, lzA, lzB, lzC]
              refine wpList_nil ?_
              refine hK13 _ _ ?_
              clear hK13 K13
              refine wp_seq_k (fun K14 hK14 => ?_)
              refine wp_cond_true rfl ?_
              refine wp_skip ?_
              refine hK14 _ _ ?_
              clear hK14 K14
              refine wp_seq_k (fun K15 hK15 => ?_)
              refine wp_block ?_
              refine wp_seq_k (fun K16 hK16 => ?_)
              refine wp_region_lit ?_
              refine wl_yield (o := ⟨_, _, _, _, _, _⟩) (.pointer (some ⟨bI, oI + k * 1, none⟩)) (yt_atT (by rfl) _ _ rfl bI oI _ _ k rfl rfl (hlt)) ?_
              simp only [Act.put, lzA, lzB, lzC]
              refine wl_yield (o := ⟨_, _, _, _, _, _⟩) (.string (S.strs.getD k ⟨#[]⟩)) (yt_ldS (by rfl) _ rfl _ _ rfl (S.strs.getD k ⟨#[]⟩) (fun _ h => by subst h; exact hc0)) ?_
              simp only [Act.put, lzA, lzB, lzC]
              refine wl_yield (o := ⟨_, _, _, _, _, _⟩) (.string (S.strs.getD k ⟨#[]⟩)) (yl_assign (by rfl) _ rfl _ rfl) ?_
              simp only [Act.put, lzA, lzB, lzC]
              refine wpList_nil ?_
              refine hK16 _ _ ?_
              clear hK16 K16
              refine wp_region_lit ?_
              refine wl_yield (o := ⟨_, _, _, _, _, _⟩) (.slice p ((txS S k).length) c) (yl_move (by rfl) _ rfl _ rfl) ?_
              simp only [Act.put, lzA, lzB, lzC]
              refine wl_yield (o := ⟨_, _, _, _, _, _⟩) (.string (S.strs.getD k ⟨#[]⟩)) (yl_move (by rfl) _ rfl _ rfl) ?_
              simp only [Act.put, lzA, lzB, lzC]
              refine wt_call (o := ⟨_, _, _, _, _, _⟩) (by rfl) 39 _ _ rfl #[.string (S.strs.getD k ⟨#[]⟩)] rfl (run_call Tryz.func39 (by kernel_rfl) (by kernel_rfl)) ?_
              refine (c_quote (S.strs.getD k ⟨#[]⟩) _ (h8 k hlt)).mono ?_
              rintro r v4 ⟨rfl, kb⟩
              replace D := grown_below D kb
              replace RP := ownsRow_on RP kb
              replace HE := HE.on kb
              replace G1 := heap_on G1 kb
              clear kb
              refine Or.inl ⟨.string (bs (quoteL (S.strs.getD k ⟨#[]⟩).data.toList)), rfl, ?_⟩
              simp only [Act.put, lzA, lzB, lzC]
              refine wt_row1S (o := ⟨_, _, _, _, _, _⟩) (by rfl) _ rfl (bs (quoteL (S.strs.getD k ⟨#[]⟩).data.toList)) rfl (fun v5 g5 hg G5 kb => ?_)
              have n_g1_g5 : g1 ≠ g5 := by have := lt_heap G1; omega
              have ge_g5 : w.heap.size ≤ g5 := Nat.le_trans D.size hg
              have six_g5 : 6 ≤ g5 := Nat.le_trans w6 ge_g5
              clear hg
              replace D := grown_below D kb
              replace RP := ownsRow_on RP kb
              replace HE := HE.on kb
              replace G1 := heap_on G1 kb
              clear kb
              simp only [Act.put, lzA, lzB, lzC]
              refine wt_appS (o := ⟨_, _, _, _, _, _⟩) (by rfl) _ _ rfl w.heap.size _ (txS S k) rfl RP _ (bs (quoteL (S.strs.getD k ⟨#[]⟩).data.toList)) rfl G5 ((by first | (simp; done) | (have := txI_len S k; omega) | (have := txS_len S k; omega) | (have := txI_len S S.ints.length; omega))) (D.size) (fun v6' v6 hrow kg hown => ?_)
              clear G5
              replace HE := Env.gro HE RP kg w6
              replace G1 := heap_gro G1 kg (own_ne RP G1 (by decide))
              replace D := gr_own D (fun g hg => Nat.le_trans (Nat.le_refl _) (World.ownsRow.lt RP g hg).1) kg
              clear kg hown
              replace RP := hrow
              clear hrow
              obtain ⟨p6, c6, rfl, -, -, -⟩ := ownsRow_form RP
              simp only [Act.put, lzA, lzB, lzC]
              refine wl_yield (o := ⟨_, _, _, _, _, _⟩) (.slice p6 ((txS S k ++ [(bs (quoteL (S.strs.getD k ⟨#[]⟩).data.toList))]).length) c6) (yl_assign (by rfl) _ rfl _ rfl) ?_
              simp only [Act.put, lzA, lzB, lzC]
              refine wpList_nil ?_
              refine hK15 _ _ ?_
              clear hK15 K15
              refine wp_region_lit ?_
              refine wl_yield (o := ⟨_, _, _, _, _, _⟩) (.int .i64 (k + 1 : Nat)) (yt_addI (by rfl) _ _ _ rfl (((k : Nat) : Int)) 1 (((k + 1 : Nat) : Int)) rfl rfl (by omega) (by omega) (by omega)) ?_
              simp only [Act.put, lzA, lzB, lzC]
              refine wl_yield (o := ⟨_, _, _, _, _, _⟩) (.int .i64 (k + 1 : Nat)) (yl_move (by rfl) _ rfl _ rfl) ?_
              simp only [Act.put, lzA, lzB, lzC]
              refine wpList_nil ?_
              show _ ∧ _
              go_roundw
              case rel => exact ⟨k + 1, p6, c6, rfl, by omega, by rw [txS_step S k hlt], by rw [txS_step S k hlt]; exact RP, G1, HE, D⟩
              case measure => simp [intOf]; omega
            · obtain rfl : k = S.strs.length := by omega
              refine wp_seq_k (fun K13 hK13 => ?_)
              refine wp_region_lit ?_
              refine wl_yield (o := ⟨_, _, _, _, _, _⟩) (.bool false) (yt_lssI (by rfl) _ _ _ rfl (((S.strs.length : Nat) : Int)) (((S.strs.length : Nat) : Int)) false rfl rfl (decide_eq_false (by omega))) ?_
              simp only [Act.put, lzA, lzB, lzC]
              refine wpList_nil ?_
              refine hK13 _ _ ?_
              clear hK13 K13
              refine wp_seq_k (fun K14 hK14 => ?_)
              refine wp_cond_false rfl ?_
              refine wp_exit ?_
              refine hK11 _ _ ?_
              clear hK14 K14 hK11 K11
              refine wp_seq_k (fun K15 hK15 => ?_)
              refine wp_region_lit ?_
              refine wl_yield (o := ⟨_, _, _, _, _, _⟩) (.slice p ((txS S S.strs.length).length) c) (yl_move (by rfl) _ rfl _ rfl) ?_
              simp only [Act.put, lzA, lzB, lzC]
              refine wt_call (o := ⟨_, _, _, _, _, _⟩) (by rfl) 33 _ _ rfl #[.slice p ((txS S S.strs.length).length) c, .string (bs ([32]))] rfl (run_call Tryz.func33 (by kernel_rfl) (by kernel_rfl)) ?_
              refine (c_join RP (by have := txS_len S S.strs.length; omega) (by rw [txS_all]; exact hjl)).mono ?_
              rintro r v4 ⟨rfl, kb⟩
              replace D := grown_below D kb
              replace RP := ownsRow_on RP kb
              replace HE := HE.on kb
              replace G1 := heap_on G1 kb
              clear kb
              refine Or.inl ⟨.string (bs (joinL ((txS S S.strs.length).map (·.data.toList)))), rfl, ?_⟩
              simp only [Act.put, lzA, lzB, lzC]
              refine wl_yield (o := ⟨_, _, _, _, _, _⟩) (.string (bs (([91]) ++ (joinL ((txS S S.strs.length).map (·.data.toList)))))) (yt_cat (by rfl) _ _ _ rfl ([91]) (joinL ((txS S S.strs.length).map (·.data.toList))) rfl rfl (by simp only [List.length_cons, List.length_append, List.length_nil]; omega)) ?_
              simp only [Act.put, lzA, lzB, lzC]
              refine wl_yield (o := ⟨_, _, _, _, _, _⟩) (.string (bs ((([91]) ++ (joinL ((txS S S.strs.length).map (·.data.toList)))) ++ ([93])))) (yt_cat (by rfl) _ _ _ rfl (([91]) ++ (joinL ((txS S S.strs.length).map (·.data.toList)))) ([93]) rfl rfl (by simp only [List.length_cons, List.length_append, List.length_nil]; omega)) ?_
              simp only [Act.put, lzA, lzB, lzC]
              refine wl_yield (o := ⟨_, _, _, _, _, _⟩) (.string (bs ((([91]) ++ (joinL ((txS S S.strs.length).map (·.data.toList)))) ++ ([93])))) (yl_assign (by rfl) _ rfl _ rfl) ?_
              simp only [Act.put, lzA, lzB, lzC]
              refine wpList_nil ?_
              refine hK15 _ _ ?_
              clear hK15 K15
              refine wp_ret ?_
              have hj : bs ([91] ++ joinL ((txS S S.strs.length).map (·.data.toList)) ++ [93]) = bs (setTxt S) := by rw [txS_all]; rfl
              go_ret
              exact ⟨ret_str hj, below_none D⟩
        · have hco : S.co = false := hc
          refine wp_skip ?_
          refine hK9 _ _ ?_
          clear hK9 K9
          refine wp_seq_k (fun K11 hK11 => ?_)
          refine wp_seq_k (fun K12 hK12 => ?_)
          refine wp_region_lit ?_
          refine wl_yield (o := ⟨_, _, _, _, _, _⟩) (.pointer (some ⟨g1, 3, none⟩)) (yt_fSt3 (by rfl) _ rfl g1 0 rfl) ?_
          simp only [Act.put, lzA, lzB, lzC]
          refine wl_yield (o := ⟨_, _, _, _, _, _⟩) (.slice pS S.strs.length cS) (yt_ldLs (by rfl) _ rfl _ _ rfl pS S.strs.length cS (fun _ h => by subst h; exact cell_heap G1 3)) ?_
          simp only [Act.put, lzA, lzB, lzC]
          refine wl_yield (o := ⟨_, _, _, _, _, _⟩) (.int .i64 (S.strs.length : Nat)) (yt_lenT (by rfl) _ rfl pS S.strs.length cS rfl) ?_
          simp only [Act.put, lzA, lzB, lzC]
          refine wl_yield (o := ⟨_, _, _, _, _, _⟩) (.int .i64 0) (yl_move (by rfl) _ rfl _ rfl) ?_
          simp only [Act.put, lzA, lzB, lzC]
          refine wpList_nil ?_
          refine hK12 _ _ ?_
          clear hK12 K12
          refine wp_block ?_
          have E0 : txI S S.ints.length = txS S 0 := by unfold txS; simp [hco]
          go_loopw [3, 36] (fun x i wr => ∃ (k : Nat) (p : Option Addr) (c : Nat), i = .int .i64 k ∧ k ≤ S.strs.length ∧ x = .slice p (txS S k).length c ∧ RowS wr w.heap.size (.slice p (txS S k).length c) (txS S k) ∧ wr.heap[g1]? = some (.cells #[.bool (S.absent), .slice pI S.ints.length cI, .bool (S.co), .slice pS S.strs.length cS] 26 (0, 0)) ∧ Env wr ∧ w.grownBy wr none) (fun _ i _ => S.strs.length - (intOf i).toNat)
          case atStart => exact ⟨0, p, c, rfl, by omega, (by rw [← E0]; try rfl), (by rw [← E0]; exact RP), G1, HE, D⟩
          case round =>
            clear D HE RP G1
            obtain ⟨k, p, c, rfl, hk, rfl, RP, G1, HE, D⟩ := hrel
            by_cases hlt : k < S.strs.length
            · obtain ⟨bI, oI, rfl, hc0⟩ := str_at hT D k hlt
              refine wp_seq_k (fun K13 hK13 => ?_)
              refine wp_region_lit ?_
              refine wl_yield (o := ⟨_, _, _, _, _, _⟩) (.bool true) (yt_lssI (by rfl) _ _ _ rfl (((k : Nat) : Int)) (((S.strs.length : Nat) : Int)) true rfl rfl (decide_eq_true (by omega))) ?_
              simp only [Act.put, lzA, lzB, lzC]
              refine wpList_nil ?_
              refine hK13 _ _ ?_
              clear hK13 K13
              refine wp_seq_k (fun K14 hK14 => ?_)
              refine wp_cond_true rfl ?_
              refine wp_skip ?_
              refine hK14 _ _ ?_
              clear hK14 K14
              refine wp_seq_k (fun K15 hK15 => ?_)
              refine wp_block ?_
              refine wp_seq_k (fun K16 hK16 => ?_)
              refine wp_region_lit ?_
              refine wl_yield (o := ⟨_, _, _, _, _, _⟩) (.pointer (some ⟨bI, oI + k * 1, none⟩)) (yt_atT (by rfl) _ _ rfl bI oI _ _ k rfl rfl (hlt)) ?_
              simp only [Act.put, lzA, lzB, lzC]
              refine wl_yield (o := ⟨_, _, _, _, _, _⟩) (.string (S.strs.getD k ⟨#[]⟩)) (yt_ldS (by rfl) _ rfl _ _ rfl (S.strs.getD k ⟨#[]⟩) (fun _ h => by subst h; exact hc0)) ?_
              simp only [Act.put, lzA, lzB, lzC]
              refine wl_yield (o := ⟨_, _, _, _, _, _⟩) (.string (S.strs.getD k ⟨#[]⟩)) (yl_assign (by rfl) _ rfl _ rfl) ?_
              simp only [Act.put, lzA, lzB, lzC]
              refine wpList_nil ?_
              refine hK16 _ _ ?_
              clear hK16 K16
              refine wp_region_lit ?_
              refine wl_yield (o := ⟨_, _, _, _, _, _⟩) (.slice p ((txS S k).length) c) (yl_move (by rfl) _ rfl _ rfl) ?_
              simp only [Act.put, lzA, lzB, lzC]
              refine wl_yield (o := ⟨_, _, _, _, _, _⟩) (.string (S.strs.getD k ⟨#[]⟩)) (yl_move (by rfl) _ rfl _ rfl) ?_
              simp only [Act.put, lzA, lzB, lzC]
              refine wt_call (o := ⟨_, _, _, _, _, _⟩) (by rfl) 39 _ _ rfl #[.string (S.strs.getD k ⟨#[]⟩)] rfl (run_call Tryz.func39 (by kernel_rfl) (by kernel_rfl)) ?_
              refine (c_quote (S.strs.getD k ⟨#[]⟩) _ (h8 k hlt)).mono ?_
              rintro r v2 ⟨rfl, kb⟩
              replace D := grown_below D kb
              replace RP := ownsRow_on RP kb
              replace HE := HE.on kb
              replace G1 := heap_on G1 kb
              clear kb
              refine Or.inl ⟨.string (bs (quoteL (S.strs.getD k ⟨#[]⟩).data.toList)), rfl, ?_⟩
              simp only [Act.put, lzA, lzB, lzC]
              refine wt_row1S (o := ⟨_, _, _, _, _, _⟩) (by rfl) _ rfl (bs (quoteL (S.strs.getD k ⟨#[]⟩).data.toList)) rfl (fun v3 g3 hg G3 kb => ?_)
              have n_g1_g3 : g1 ≠ g3 := by have := lt_heap G1; omega
              have ge_g3 : w.heap.size ≤ g3 := Nat.le_trans D.size hg
              have six_g3 : 6 ≤ g3 := Nat.le_trans w6 ge_g3
              clear hg
              replace D := grown_below D kb
              replace RP := ownsRow_on RP kb
              replace HE := HE.on kb
              replace G1 := heap_on G1 kb
              clear kb
              simp only [Act.put, lzA, lzB, lzC]
              refine wt_appS (o := ⟨_, _, _, _, _, _⟩) (by rfl) _ _ rfl w.heap.size _ (txS S k) rfl RP _ (bs (quoteL (S.strs.getD k ⟨#[]⟩).data.toList)) rfl G3 ((by first | (simp; done) | (have := txI_len S k; omega) | (have := txS_len S k; omega) | (have := txI_len S S.ints.length; omega))) (D.size) (fun v4' v4 hrow kg hown => ?_)
              clear G3
              replace HE := Env.gro HE RP kg w6
              replace G1 := heap_gro G1 kg (own_ne RP G1 (by decide))
              replace D := gr_own D (fun g hg => Nat.le_trans (Nat.le_refl _) (World.ownsRow.lt RP g hg).1) kg
              clear kg hown
              replace RP := hrow
              clear hrow
              obtain ⟨p4, c4, rfl, -, -, -⟩ := ownsRow_form RP
              simp only [Act.put, lzA, lzB, lzC]
              refine wl_yield (o := ⟨_, _, _, _, _, _⟩) (.slice p4 ((txS S k ++ [(bs (quoteL (S.strs.getD k ⟨#[]⟩).data.toList))]).length) c4) (yl_assign (by rfl) _ rfl _ rfl) ?_
              simp only [Act.put, lzA, lzB, lzC]
              refine wpList_nil ?_
              refine hK15 _ _ ?_
              clear hK15 K15
              refine wp_region_lit ?_
              refine wl_yield (o := ⟨_, _, _, _, _, _⟩) (.int .i64 (k + 1 : Nat)) (yt_addI (by rfl) _ _ _ rfl (((k : Nat) : Int)) 1 (((k + 1 : Nat) : Int)) rfl rfl (by omega) (by omega) (by omega)) ?_
              simp only [Act.put, lzA, lzB, lzC]
              refine wl_yield (o := ⟨_, _, _, _, _, _⟩) (.int .i64 (k + 1 : Nat)) (yl_move (by rfl) _ rfl _ rfl) ?_
              simp only [Act.put, lzA, lzB, lzC]
              refine wpList_nil ?_
              show _ ∧ _
              go_roundw
              case rel => exact ⟨k + 1, p4, c4, rfl, by omega, by rw [txS_step S k hlt], by rw [txS_step S k hlt]; exact RP, G1, HE, D⟩
              case measure => simp [intOf]; omega
            · obtain rfl : k = S.strs.length := by omega
              refine wp_seq_k (fun K13 hK13 => ?_)
              refine wp_region_lit ?_
              refine wl_yield (o := ⟨_, _, _, _, _, _⟩) (.bool false) (yt_lssI (by rfl) _ _ _ rfl (((S.strs.length : Nat) : Int)) (((S.strs.length : Nat) : Int)) false rfl rfl (decide_eq_false (by omega))) ?_
              simp only [Act.put, lzA, lzB, lzC]
              refine wpList_nil ?_
              refine hK13 _ _ ?_
              clear hK13 K13
              refine wp_seq_k (fun K14 hK14 => ?_)
              refine wp_cond_false rfl ?_
              refine wp_exit ?_
              refine hK11 _ _ ?_
              clear hK14 K14 hK11 K11
              refine wp_seq_k (fun K15 hK15 => ?_)
              refine wp_region_lit ?_
              refine wl_yield (o := ⟨_, _, _, _, _, _⟩) (.slice p ((txS S S.strs.length).length) c) (yl_move (by rfl) _ rfl _ rfl) ?_
              simp only [Act.put, lzA, lzB, lzC]
              refine wt_call (o := ⟨_, _, _, _, _, _⟩) (by rfl) 33 _ _ rfl #[.slice p ((txS S S.strs.length).length) c, .string (bs ([32]))] rfl (run_call Tryz.func33 (by kernel_rfl) (by kernel_rfl)) ?_
              refine (c_join RP (by have := txS_len S S.strs.length; omega) (by rw [txS_all]; exact hjl)).mono ?_
              rintro r v2 ⟨rfl, kb⟩
              replace D := grown_below D kb
              replace RP := ownsRow_on RP kb
              replace HE := HE.on kb
              replace G1 := heap_on G1 kb
              clear kb
              refine Or.inl ⟨.string (bs (joinL ((txS S S.strs.length).map (·.data.toList)))), rfl, ?_⟩
              simp only [Act.put, lzA, lzB, lzC]
              refine wl_yield (o := ⟨_, _, _, _, _, _⟩) (.string (bs (([91]) ++ (joinL ((txS S S.strs.length).map (·.data.toList)))))) (yt_cat (by rfl) _ _ _ rfl ([91]) (joinL ((txS S S.strs.length).map (·.data.toList))) rfl rfl (by simp only [List.length_cons, List.length_append, List.length_nil]; omega)) ?_
              simp only [Act.put, lzA, lzB, lzC]
              refine wl_yield (o := ⟨_, _, _, _, _, _⟩) (.string (bs ((([91]) ++ (joinL ((txS S S.strs.length).map (·.data.toList)))) ++ ([93])))) (yt_cat (by rfl) _ _ _ rfl (([91]) ++ (joinL ((txS S S.strs.length).map (·.data.toList)))) ([93]) rfl rfl (by simp only [List.length_cons, List.length_append, List.length_nil]; omega)) ?_
              simp only [Act.put, lzA, lzB, lzC]
              refine wl_yield (o := ⟨_, _, _, _, _, _⟩) (.string (bs ((([91]) ++ (joinL ((txS S S.strs.length).map (·.data.toList)))) ++ ([93])))) (yl_assign (by rfl) _ rfl _ rfl) ?_
              simp only [Act.put, lzA, lzB, lzC]
              refine wpList_nil ?_
              refine hK15 _ _ ?_
              clear hK15 K15
              refine wp_ret ?_
              have hj : bs ([91] ++ joinL ((txS S S.strs.length).map (·.data.toList)) ++ [93]) = bs (setTxt S) := by rw [txS_all]; rfl
              go_ret
              exact ⟨ret_str hj, below_none D⟩
end Go.Proofs.YtlmdcaemjaldfaaGreatDoor
namespace Go.Proofs.YtlmdcaemjaldfaaGreatDoor
open Go.RowKit
theorem stB_le : ∀ (l : List ByteArray) (h : Option ByteArray), stB h l = true → ∀ s ∈ l, s.size ≤ 8
  | [], _, _, _, h => by cases h
  | r :: l, none, h, x, hx => by
    unfold stB at h
    rw [Bool.and_eq_true, decide_eq_true_eq] at h
    rcases List.mem_cons.1 hx with rfl | hx
    · exact h.1
    · exact stB_le l _ h.2 x hx
  | r :: l, some q, h, x, hx => by
    unfold stB at h
    rw [Bool.and_eq_true, Bool.and_eq_true, decide_eq_true_eq] at h
    rcases List.mem_cons.1 hx with rfl | hx
    · exact h.1
    · exact stB_le l _ h.2.2 x hx
theorem right_okB {S : SetV} (h : rightSet S = true) (hi : inI64 S.ints) : okB S := by
  unfold rightSet at h
  rw [Bool.and_eq_true] at h
  exact ⟨hi, stB_le _ _ h.2⟩
theorem node_set {x : ExV} (h : nodeX x = true) (k : x.kind = 1) : rightSet x.set = true ∧ x.set.ints.length ≤ 6 ∧ x.set.strs.length ≤ 6 := by
  unfold nodeX at h
  rw [if_pos k] at h
  simp only [Bool.and_eq_true, decide_eq_true_eq] at h
  have h2 := h.2.2
  unfold smallB at h2
  simp only [Bool.and_eq_true, decide_eq_true_eq] at h2
  exact ⟨h.2.1, h2.1, h2.2⟩
theorem name_bs (a : Int) (h0 : 0 ≤ a) (h3 : a ≤ 3) : nameOf a = bs (nameL a) := by
  have : a = 0 ∨ a = 1 ∨ a = 2 ∨ a = 3 := by omega
  rcases this with rfl | rfl | rfl | rfl <;> rfl
theorem joinL_part {α : Type} (txt : α → List UInt8) : ∀ (xs : List α) (x : α), x ∈ xs → (txt x).length ≤ (joinL (xs.map txt)).length
  | [], _, h => by cases h
  | [y], x, h => by rw [List.mem_singleton.1 h]; exact Nat.le_refl _
  | y :: z :: l, x, h => by
    have ih := joinL_part txt (z :: l) x
    rw [List.map_cons, joinL_cons _ _ (by simp), List.length_append, List.length_cons]
    rcases List.mem_cons.1 h with rfl | h
    · omega
    · have := ih h
      omega
def TxtOr (n b : Nat) (w0 : World) : Prop := ∀ (c : EC) (x : ExV) (w : World), ExAt n w0 c.val x → eachX n x = true → (exTxt n x).length ≤ 1000000 → w0.grownBy w none → w0.heap.size ≤ b → Nmr w b →
  Calls Tryz.prog 24 #[.pointer (some ⟨b, 0, none⟩), c.val] w fun e w' => e = .returned (.string (bs (exTxt n x))) ∧ NamesAt w' b ∧ w.grownBy w' (some b)
set_option maxHeartbeats 1000000 in
set_option maxRecDepth 100000 in
theorem listText_any (n b : Nat) (w0 : World) (IH : TxtOr n b w0) (p : Option Addr) (c : Nat) (xs : List ExV) (w : World) (hp : ∀ i, i < xs.length → ∃ (g off : Nat) (d : EC), p = some ⟨g, off, none⟩ ∧ g < w0.heap.size ∧ EcAt w0 g (off + i * 7) d ∧ ExAt n w0 d.val (xs.getD i noX))
    (he : ∀ y ∈ xs, eachX n y = true) (hl : (joinL (xs.map (exTxt n))).length ≤ 1000000) (hlx : xs.length ≤ 1000000) (h60 : 6 ≤ w0.heap.size) (D0 : w0.grownBy w none) (hb : w0.heap.size ≤ b) (H : Nmr w b) :
    Calls Tryz.prog 51 #[.pointer (some ⟨b, 0, none⟩), .slice p xs.length c] w fun e w' => e = .returned (.string (bs (40 :: (joinL (xs.map (exTxt n)) ++ [41])))) ∧ NamesAt w' b ∧ w.grownBy w' (some b) := by
  have w6 : 6 ≤ w0.heap.size := h60
  have w6' : 6 ≤ w.heap.size := H.env.big
  have D2 : w.grownBy w (some b) := grown_refl _ _
  have D := D0
  have ge_b := hb
  have hjt : joinL (((xs.take xs.length).map fun y => bs (exTxt n y)).map (·.data.toList)) = joinL (xs.map (exTxt n)) := by
    rw [List.take_length, List.map_map]
    exact congrArg joinL (List.map_congr_left fun y _ => bs_list _)
  go_enter Tryz.func51, Tryz.ntmps51
  refine wp_seq_k (fun K1 hK1 => ?_)
  refine wp_region_lit ?_
  refine wl_yield (o := ⟨_, _, _, _, _, _⟩) (.string (bs ([]))) (yl_assign (by rfl) _ rfl _ rfl) ?_
  simp only [Act.put, lzA, lzB, lzC]
  refine wpList_nil ?_
  refine hK1 _ _ ?_
  clear hK1 K1
  refine wp_seq_k (fun K2 hK2 => ?_)
  refine wp_region_lit ?_
  refine wl_yield (o := ⟨_, _, _, _, _, _⟩) (.slice none 0 0) (yl_assign (by rfl) _ rfl _ rfl) ?_
  simp only [Act.put, lzA, lzB, lzC]
  refine wpList_nil ?_
  refine hK2 _ _ ?_
  clear hK2 K2
  refine wp_seq_k (fun K3 hK3 => ?_)
  refine wp_seq_k (fun K4 hK4 => ?_)
  refine wp_region_lit ?_
  refine wl_yield (o := ⟨_, _, _, _, _, _⟩) (.slice p xs.length c) (yl_move (by rfl) _ rfl _ rfl) ?_
  simp only [Act.put, lzA, lzB, lzC]
  refine wl_yield (o := ⟨_, _, _, _, _, _⟩) (.int .i64 (xs.length : Nat)) (yt_lenX (by rfl) _ rfl p xs.length c rfl) ?_
  simp only [Act.put, lzA, lzB, lzC]
  refine wl_yield (o := ⟨_, _, _, _, _, _⟩) (.int .i64 0) (yl_move (by rfl) _ rfl _ rfl) ?_
  simp only [Act.put, lzA, lzB, lzC]
  refine wpList_nil ?_
  refine hK4 _ _ ?_
  clear hK4 K4
  refine wp_block ?_
  have RP : RowS w w.heap.size (.slice none (((xs.take 0).map fun y => bs (exTxt n y)).length) 0) ((xs.take 0).map fun y => bs (exTxt n y)) := RowS.nil _ _
  go_loopw [5, 10] (fun x i wr => ∃ (k : Nat) (q : Option Addr) (cq : Nat), i = .int .i64 k ∧ k ≤ xs.length ∧ x = .slice q ((xs.take k).map fun y => bs (exTxt n y)).length cq ∧ RowS wr w.heap.size (.slice q ((xs.take k).map fun y => bs (exTxt n y)).length cq) ((xs.take k).map fun y => bs (exTxt n y)) ∧ Nmr wr b ∧ w0.grownBy wr none ∧ w.grownBy wr (some b)) (fun _ i _ => xs.length - (intOf i).toNat)
  case atStart => exact ⟨0, none, 0, rfl, by omega, rfl, RP, H, D, D2⟩
  case round =>
    clear D D2 H RP
    obtain ⟨k, q, cq, rfl, hk, rfl, RP, H, D, D2⟩ := hrel
    by_cases hlt : k < xs.length
    · obtain ⟨gX, oX, d, rfl, hgX, hdX, hxX⟩ := hp k hlt
      have hdY := hdX.on hgX (below_none D)
      have hmem : xs.getD k noX ∈ xs := by rw [List.getD_eq_getElem?_getD, List.getElem?_eq_getElem hlt]; exact List.getElem_mem hlt
      refine wp_seq_k (fun K5 hK5 => ?_)
      refine wp_region_lit ?_
      refine wl_yield (o := ⟨_, _, _, _, _, _⟩) (.bool true) (yt_lssI (by rfl) _ _ _ rfl (((k : Nat) : Int)) (((xs.length : Nat) : Int)) true rfl rfl (decide_eq_true (by omega))) ?_
      simp only [Act.put, lzA, lzB, lzC]
      refine wpList_nil ?_
      refine hK5 _ _ ?_
      clear hK5 K5
      refine wp_seq_k (fun K6 hK6 => ?_)
      refine wp_cond_true rfl ?_
      refine wp_skip ?_
      refine hK6 _ _ ?_
      clear hK6 K6
      refine wp_seq_k (fun K7 hK7 => ?_)
      refine wp_block ?_
      refine wp_seq_k (fun K8 hK8 => ?_)
      refine wp_region_lit ?_
      refine wl_yield (o := ⟨_, _, _, _, _, _⟩) (.pointer (some ⟨gX, oX + k * 7, none⟩)) (yt_atX (by rfl) _ _ rfl gX oX _ _ k rfl rfl (hlt)) ?_
      simp only [Act.put, lzA, lzB, lzC]
      refine wl_yield (o := ⟨_, _, _, _, _, _⟩) (EC.val d) (yl_ex (by rfl) _ rfl _ _ rfl (c := d) (fun _ h => by subst h; exact hdY)) ?_
      simp only [Act.put, lzA, lzB, lzC]
      refine wt_allocEx (o := ⟨_, _, _, _, _, _⟩) (by rfl) rfl (fun v1 g1 hg G1 kb => ?_)
      simp only [Act.put, lzA, lzB, lzC]
      have n_b_g1 : b ≠ g1 := by have := H.lt; omega
      have ge_g1 : w0.heap.size ≤ g1 := Nat.le_trans D.size hg
      have ge_D2_g1 : w.heap.size ≤ g1 := Nat.le_trans D2.size hg
      have six_g1 : 6 ≤ g1 := Nat.le_trans w6 ge_g1
      clear hg
      replace D := grown_below D kb
      replace RP := ownsRow_on RP kb
      replace H := H.on kb
      replace D2 := grown_below D2 kb
      clear kb
      replace G1 : v1.heap[g1]? = some (.cells #[.int .i64 0, .int .i64 0, .bool false, .slice none 0 0, .bool false, .slice none 0 0, .slice none 0 0] 29 (0, 0)) := G1
      refine wt_putEx (o := ⟨_, _, _, _, _, _⟩) rfl _ _ rfl _ rfl (d) rfl G1 rfl (fun v2 X kg => ?_)
      simp only [Act.put, lzA, lzB, lzC]
      replace RP := row_gr_heap RP kg G1 (by decide)
      replace D := gr_new D ge_g1 kg
      replace H := H.gr kg n_b_g1 six_g1
      replace D2 := gr_new D2 ge_D2_g1 kg
      clear kg
      replace G1 : v2.heap[g1]? = some (.cells #[.int .i64 (d.k), .int .i64 (d.t), .bool (d.s.a), .slice d.s.p d.s.n d.s.c, .bool (d.s.d), .slice d.s.q d.s.m d.s.e, .slice d.p d.n d.c] 29 (0, 0)) := X
      clear X
      refine wpList_nil ?_
      refine hK8 _ _ ?_
      clear hK8 K8
      refine wp_region_lit ?_
      refine wl_yield (o := ⟨_, _, _, _, _, _⟩) (.slice q (((xs.take k).map fun y => bs (exTxt n y)).length) cq) (yl_move (by rfl) _ rfl _ rfl) ?_
      simp only [Act.put, lzA, lzB, lzC]
      refine wl_yield (o := ⟨_, _, _, _, _, _⟩) (.pointer (some ⟨b, 0, none⟩)) (yl_move (by rfl) _ rfl _ rfl) ?_
      simp only [Act.put, lzA, lzB, lzC]
      refine wl_yield (o := ⟨_, _, _, _, _, _⟩) (EC.val d) (yl_ex (by rfl) _ rfl _ 0 rfl (c := ⟨d.k, d.t, ⟨d.s.a, d.s.p, d.s.n, d.s.c, d.s.d, d.s.q, d.s.m, d.s.e⟩, d.p, d.n, d.c⟩) (fun _ h => by subst h; exact ⟨cell_heap G1 0, cell_heap G1 1, cell_heap G1 2, cell_heap G1 3, cell_heap G1 4, cell_heap G1 5, cell_heap G1 6⟩)) ?_
      simp only [Act.put, lzA, lzB, lzC]
      refine wt_call (o := ⟨_, _, _, _, _, _⟩) (by rfl) 24 _ _ rfl #[.pointer (some ⟨b, 0, none⟩), EC.val d] rfl (run_call Tryz.func24 (by kernel_rfl) (by kernel_rfl)) ?_
      refine (IH d (xs.getD k noX) _ hxX (he _ hmem) (Nat.le_trans (joinL_part (exTxt n) xs _ hmem) (by omega)) D hb H).mono ?_
      rintro r v3 (⟨rfl, hr, kg⟩)
      · replace RP := H.row RP kg (by decide)
        replace H := H.grown kg hr
        clear hr
        replace D := gr_new D ge_b kg
        replace D2 := grown_trans D2 kg
        replace G1 := heap_gr G1 kg (Ne.symm n_b_g1)
        clear kg
        refine Or.inl ⟨.string (bs (exTxt n (xs.getD k noX))), rfl, ?_⟩
        simp only [Act.put, lzA, lzB, lzC]
        refine wt_row1S (o := ⟨_, _, _, _, _, _⟩) (by rfl) _ rfl (bs (exTxt n (xs.getD k noX))) rfl (fun v4 g4 hg G4 kb => ?_)
        have n_b_g4 : b ≠ g4 := by have := H.lt; omega
        have n_g1_g4 : g1 ≠ g4 := by have := lt_heap G1; omega
        have ge_g4 : w0.heap.size ≤ g4 := Nat.le_trans D.size hg
        have ge_D2_g4 : w.heap.size ≤ g4 := Nat.le_trans D2.size hg
        have six_g4 : 6 ≤ g4 := Nat.le_trans w6 ge_g4
        clear hg
        replace D := grown_below D kb
        replace RP := ownsRow_on RP kb
        replace H := H.on kb
        replace D2 := grown_below D2 kb
        replace G1 := heap_on G1 kb
        clear kb
        simp only [Act.put, lzA, lzB, lzC]
        refine wt_appS (o := ⟨_, _, _, _, _, _⟩) (by rfl) _ _ rfl w.heap.size _ (((xs.take k).map fun y => bs (exTxt n y))) rfl RP _ (bs (exTxt n (xs.getD k noX))) rfl G4 ((by rw [List.length_map, List.length_take]; omega)) (D2.size) (fun v5' v5 hrow kg hown => ?_)
        clear G4
        replace H := H.gro RP kg w6' (by decide)
        replace D2 := gr_own D2 (fun g hg => (World.ownsRow.lt RP g hg).1) kg
        replace G1 := heap_gro G1 kg (own_ne RP G1 (by decide))
        replace D := gr_own D (fun g hg => Nat.le_trans D0.size (World.ownsRow.lt RP g hg).1) kg
        clear kg hown
        replace RP := hrow
        clear hrow
        obtain ⟨p5, c5, rfl, -, -, -⟩ := ownsRow_form RP
        simp only [Act.put, lzA, lzB, lzC]
        refine wl_yield (o := ⟨_, _, _, _, _, _⟩) (.slice p5 ((((xs.take k).map fun y => bs (exTxt n y)) ++ [(bs (exTxt n (xs.getD k noX)))]).length) c5) (yl_assign (by rfl) _ rfl _ rfl) ?_
        simp only [Act.put, lzA, lzB, lzC]
        refine wpList_nil ?_
        refine hK7 _ _ ?_
        clear hK7 K7
        refine wp_region_lit ?_
        refine wl_yield (o := ⟨_, _, _, _, _, _⟩) (.int .i64 (k + 1 : Nat)) (yt_addI (by rfl) _ _ _ rfl (((k : Nat) : Int)) 1 (((k + 1 : Nat) : Int)) rfl rfl (by omega) (by omega) (by omega)) ?_
        simp only [Act.put, lzA, lzB, lzC]
        refine wl_yield (o := ⟨_, _, _, _, _, _⟩) (.int .i64 (k + 1 : Nat)) (yl_move (by rfl) _ rfl _ rfl) ?_
        simp only [Act.put, lzA, lzB, lzC]
        refine wpList_nil ?_
        show _ ∧ _
        go_roundw
        case rel =>
          refine ⟨k + 1, p5, c5, rfl, by omega, ?_, ?_, H, D, D2⟩
          · rw [take_map_snoc _ xs noX k hlt]
          · rw [take_map_snoc _ xs noX k hlt]; exact RP
        case measure => simp [intOf]; omega
    · obtain rfl : k = xs.length := by omega
      refine wp_seq_k (fun K5 hK5 => ?_)
      refine wp_region_lit ?_
      refine wl_yield (o := ⟨_, _, _, _, _, _⟩) (.bool false) (yt_lssI (by rfl) _ _ _ rfl (((xs.length : Nat) : Int)) (((xs.length : Nat) : Int)) false rfl rfl (decide_eq_false (by omega))) ?_
      simp only [Act.put, lzA, lzB, lzC]
      refine wpList_nil ?_
      refine hK5 _ _ ?_
      clear hK5 K5
      refine wp_seq_k (fun K6 hK6 => ?_)
      refine wp_cond_false rfl ?_
      refine wp_exit ?_
      refine hK3 _ _ ?_
      clear hK6 K6 hK3 K3
      refine wp_seq_k (fun K7 hK7 => ?_)
      refine wp_region_lit ?_
      refine wl_yield (o := ⟨_, _, _, _, _, _⟩) (.slice q (((xs.take xs.length).map fun y => bs (exTxt n y)).length) cq) (yl_move (by rfl) _ rfl _ rfl) ?_
      simp only [Act.put, lzA, lzB, lzC]
      refine wt_call (o := ⟨_, _, _, _, _, _⟩) (by rfl) 33 _ _ rfl #[.slice q (((xs.take xs.length).map fun y => bs (exTxt n y)).length) cq, .string (bs ([32]))] rfl (run_call Tryz.func33 (by kernel_rfl) (by kernel_rfl)) ?_
      refine (c_join RP (by rw [List.length_map, List.length_take]; omega) (by rw [hjt]; omega)).mono ?_
      rintro r v1 ⟨rfl, kb⟩
      replace D := grown_below D kb
      replace RP := ownsRow_on RP kb
      replace H := H.on kb
      replace D2 := grown_below D2 kb
      clear kb
      refine Or.inl ⟨.string (bs (joinL (((xs.take xs.length).map fun y => bs (exTxt n y)).map (·.data.toList)))), rfl, ?_⟩
      simp only [Act.put, lzA, lzB, lzC]
      refine wl_yield (o := ⟨_, _, _, _, _, _⟩) (.string (bs (([40]) ++ (joinL (((xs.take xs.length).map fun y => bs (exTxt n y)).map (·.data.toList)))))) (yt_cat (by rfl) _ _ _ rfl ([40]) (joinL (((xs.take xs.length).map fun y => bs (exTxt n y)).map (·.data.toList))) rfl rfl (by simp only [List.length_cons, List.length_append, List.length_nil, hjt]; omega)) ?_
      simp only [Act.put, lzA, lzB, lzC]
      refine wl_yield (o := ⟨_, _, _, _, _, _⟩) (.string (bs ((([40]) ++ (joinL (((xs.take xs.length).map fun y => bs (exTxt n y)).map (·.data.toList)))) ++ ([41])))) (yt_cat (by rfl) _ _ _ rfl (([40]) ++ (joinL (((xs.take xs.length).map fun y => bs (exTxt n y)).map (·.data.toList)))) ([41]) rfl rfl (by simp only [List.length_cons, List.length_append, List.length_nil, hjt]; omega)) ?_
      simp only [Act.put, lzA, lzB, lzC]
      refine wl_yield (o := ⟨_, _, _, _, _, _⟩) (.string (bs ((([40]) ++ (joinL (((xs.take xs.length).map fun y => bs (exTxt n y)).map (·.data.toList)))) ++ ([41])))) (yl_assign (by rfl) _ rfl _ rfl) ?_
      simp only [Act.put, lzA, lzB, lzC]
      refine wpList_nil ?_
      refine hK7 _ _ ?_
      clear hK7 K7
      refine wp_ret ?_
      have hj : bs ([40] ++ joinL (((xs.take xs.length).map fun y => bs (exTxt n y)).map (·.data.toList)) ++ [41]) = bs (40 :: (joinL (xs.map (exTxt n)) ++ [41])) := by rw [hjt]; rfl
      go_ret
      exact ⟨ret_str hj, H.nm, D2⟩
theorem name_nm (b : Nat) (a : Int) (w : World) (H : Nmr w b) (h0 : 0 ≤ a) (h3 : a ≤ 3) :
    Calls Tryz.prog 31 #[.pointer (some ⟨b, 0, none⟩), .int .i64 a] w fun e w' => e = .returned (.string (bs (nameL a))) ∧ NamesAt w' b ∧ w.grownBy w' (some b) := by
  refine (name_some b a w H.nm).mono ?_
  rintro e w' ⟨rfl, h1, h2⟩
  exact ⟨ret_str (name_bs a h0 h3), h1, h2⟩
theorem name1 (a : Int) : (nameL a).length = 1 := rfl
set_option maxHeartbeats 1000000 in
set_option maxRecDepth 100000 in
theorem exprText_step (n b : Nat) (w0 : World) (IH : TxtOr n b w0) (x : ExV) (pI pS p : Option Addr) (cI cS c : Nat) (w : World) (hI : RngsAt w0 (.slice pI x.set.ints.length cI) x.set.ints) (hT : StrsAt w0 (.slice pS x.set.strs.length cS) x.set.strs)
    (hp : ∀ i, i < x.sub.length → ∃ (g off : Nat) (d : EC), p = some ⟨g, off, none⟩ ∧ g < w0.heap.size ∧ EcAt w0 g (off + i * 7) d ∧ ExAt n w0 d.val (x.sub.getD i noX)) (hn : nodeX x = true) (hs : ∀ y ∈ x.sub, eachX n y = true) (hlen : (exTxt (n + 1) x).length ≤ 1000000) (hlx : x.sub.length ≤ 1000000)
    (h60 : 6 ≤ w0.heap.size) (D : w0.grownBy w none) (hb : w0.heap.size ≤ b) (H : Nmr w b) :
    Calls Tryz.prog 24 #[.pointer (some ⟨b, 0, none⟩), .agg #[.int .i64 x.kind, .int .i64 x.attr, .bool x.set.absent, .slice pI x.set.ints.length cI, .bool x.set.co, .slice pS x.set.strs.length cS, .slice p x.sub.length c]] w fun e w' => e = .returned (.string (bs (exTxt (n + 1) x))) ∧ NamesAt w' b ∧ w.grownBy w' (some b) := by
  have w6 : 6 ≤ w0.heap.size := h60
  have w6' : 6 ≤ w.heap.size := H.env.big
  have D2 : w.grownBy w (some b) := grown_refl _ _
  have ge_b := hb
  go_enter Tryz.func24, Tryz.ntmps24
  refine wp_seq_k (fun K1 hK1 => ?_)
  rcases node_kind hn with hk | hk | hk | hk
  · obtain ⟨a0, a3, hx1⟩ := node_at hn hk
    obtain ⟨rs, l6, m6⟩ := node_set hn hk
    have ok := right_okB rs hI.1
    have st6 := setTxt_le ok.1 ok.2
    have hT1 : exTxt (n + 1) x = nameL x.attr ++ 58 :: setTxt x.set := by unfold exTxt; rw [if_neg (by omega), if_neg (by omega), if_neg (by omega)]
    rw [hT1] at hlen ⊢
    simp only [List.length_cons, List.length_append, List.length_nil] at hlen
    refine wp_region_lit ?_
    refine wt_boxEx (o := ⟨_, _, _, _, _, _⟩) (by rfl) _ rfl (⟨x.kind, x.attr, ⟨x.set.absent, pI, x.set.ints.length, cI, x.set.co, pS, x.set.strs.length, cS⟩, p, x.sub.length, c⟩) rfl (fun v1 g1 hg G1 kb => ?_)
    simp only [Act.put, lzA, lzB, lzC]
    have n_b_g1 : b ≠ g1 := by have := H.lt; omega
    have ge_g1 : w0.heap.size ≤ g1 := Nat.le_trans D.size hg
    have ge_D2_g1 : w.heap.size ≤ g1 := Nat.le_trans D2.size hg
    have six_g1 : 6 ≤ g1 := Nat.le_trans w6 ge_g1
    clear hg
    replace D := grown_below D kb
    replace H := H.on kb
    replace D2 := grown_below D2 kb
    clear kb
    replace G1 : v1.heap[g1]? = some (.cells #[.int .i64 (x.kind), .int .i64 (x.attr), .bool (x.set.absent), .slice pI x.set.ints.length cI, .bool (x.set.co), .slice pS x.set.strs.length cS, .slice p x.sub.length c] 29 (0, 0)) := G1
    refine wl_yield (o := ⟨_, _, _, _, _, _⟩) (.string (bs ([]))) (yl_assign (by rfl) _ rfl _ rfl) ?_
    simp only [Act.put, lzA, lzB, lzC]
    refine wpList_nil ?_
    refine hK1 _ _ ?_
    clear hK1 K1
    refine wp_seq_k (fun K2 hK2 => ?_)
    refine wp_seq_k (fun K3 hK3 => ?_)
    refine wp_region_lit ?_
    refine wl_yield (o := ⟨_, _, _, _, _, _⟩) (.pointer (some ⟨g1, 0, none⟩)) (yt_fEx0 (by rfl) _ rfl g1 0 rfl) ?_
    simp only [Act.put, lzA, lzB, lzC]
    refine wl_yield (o := ⟨_, _, _, _, _, _⟩) (.int .i64 (x.kind)) (yt_ldI (by rfl) _ rfl _ _ rfl x.kind (fun _ h => by subst h; exact cell_heap G1 0)) ?_
    simp only [Act.put, lzA, lzB, lzC]
    refine wpList_nil ?_
    refine hK3 _ _ ?_
    clear hK3 K3
    refine wp_block ?_
    refine wp_seq_k (fun K4 hK4 => ?_)
    refine wp_region_lit ?_
    refine wl_yield (o := ⟨_, _, _, _, _, _⟩) (.bool false) (yt_eqlI (by rfl) _ _ _ rfl x.kind 2 false rfl rfl (decide_eq_false (by omega))) ?_
    simp only [Act.put, lzA, lzB, lzC]
    refine wl_yield (o := ⟨_, _, _, _, _, _⟩) (.bool false) (yl_assign (by rfl) _ rfl _ rfl) ?_
    simp only [Act.put, lzA, lzB, lzC]
    refine wpList_nil ?_
    refine hK4 _ _ ?_
    clear hK4 K4
    refine wp_cond_false rfl ?_
    refine wp_seq_k (fun K5 hK5 => ?_)
    refine wp_region_lit ?_
    refine wl_yield (o := ⟨_, _, _, _, _, _⟩) (.bool false) (yt_eqlI (by rfl) _ _ _ rfl x.kind 3 false rfl rfl (decide_eq_false (by omega))) ?_
    simp only [Act.put, lzA, lzB, lzC]
    refine wl_yield (o := ⟨_, _, _, _, _, _⟩) (.bool false) (yl_assign (by rfl) _ rfl _ rfl) ?_
    simp only [Act.put, lzA, lzB, lzC]
    refine wpList_nil ?_
    refine hK5 _ _ ?_
    clear hK5 K5
    refine wp_cond_false rfl ?_
    refine wp_seq_k (fun K6 hK6 => ?_)
    refine wp_region_lit ?_
    refine wl_yield (o := ⟨_, _, _, _, _, _⟩) (.bool false) (yt_eqlI (by rfl) _ _ _ rfl x.kind 4 false rfl rfl (decide_eq_false (by omega))) ?_
    simp only [Act.put, lzA, lzB, lzC]
    refine wl_yield (o := ⟨_, _, _, _, _, _⟩) (.bool false) (yl_assign (by rfl) _ rfl _ rfl) ?_
    simp only [Act.put, lzA, lzB, lzC]
    refine wpList_nil ?_
    refine hK6 _ _ ?_
    clear hK6 K6
    refine wp_cond_false rfl ?_
    refine wp_skip ?_
    refine hK2 _ _ ?_
    clear hK2 K2
    refine wp_seq_k (fun K7 hK7 => ?_)
    refine wp_region_late (S := fun w' => w'.heap[g1]? = some (.cells #[.int .i64 (x.kind), .int .i64 (x.attr), .bool (x.set.absent), .slice pI x.set.ints.length cI, .bool (x.set.co), .slice pS x.set.strs.length cS, .slice p x.sub.length c] 29 (0, 0))) (late := fun j => [].contains j) (by kernel_rfl) ?_
    have kb : Below v1.heap.size v1 v1.drew := (Below.refl _ v1).drew
    replace D := grown_below D kb
    replace H := H.on kb
    replace D2 := grown_below D2 kb
    replace G1 := heap_on G1 kb
    clear kb
    generalize v1.drew = v2 at D H D2 G1 ⊢
    refine wpAnyL_pure (i := 0) (oi := ⟨_, _, _, _, _, _⟩) (v := .pointer (some ⟨b, 0, none⟩)) rfl (by kernel_rfl) (by kernel_rfl) (by kernel_rfl) (fun _ _ _ h => h) (yl_move (by rfl) _ rfl _ rfl) ?_
    simp only [Act.put, lzA, lzB, lzC]
    refine wpAnyL_pure (i := 1) (oi := ⟨_, _, _, _, _, _⟩) (v := .pointer (some ⟨g1, 1, none⟩)) rfl (by kernel_rfl) (by kernel_rfl) (by kernel_rfl) (fun _ _ _ h => h) (yt_fEx1 (by rfl) _ rfl g1 0 rfl) ?_
    simp only [Act.put, lzA, lzB, lzC]
    refine wpAnyL_load (i := 2) (oi := ⟨_, _, _, _, _, _⟩) (v := .int .i64 (x.attr)) rfl (by kernel_rfl) (by kernel_rfl) (by kernel_rfl) (by kernel_rfl) (fun _ _ _ h => h) (yt_ldI (by rfl) _ rfl _ _ rfl x.attr (fun _ h => cell_heap h 1)) G1 ?_
    simp only [Act.put, lzA, lzB, lzC]
    refine wpAnyL_pure (i := 5) (oi := ⟨_, _, _, _, _, _⟩) (v := .pointer (some ⟨g1, 2, none⟩)) rfl (by kernel_rfl) (by kernel_rfl) (by kernel_rfl) (fun _ _ _ h => h) (yt_fEx2 (by rfl) _ rfl g1 0 rfl) ?_
    simp only [Act.put, lzA, lzB, lzC]
    refine wpAnyL_load (i := 6) (oi := ⟨_, _, _, _, _, _⟩) (v := .agg #[.bool (x.set.absent), .slice pI x.set.ints.length cI, .bool (x.set.co), .slice pS x.set.strs.length cS]) rfl (by kernel_rfl) (by kernel_rfl) (by kernel_rfl) (by kernel_rfl) (fun _ _ _ h => h) (yl_set (by rfl) _ rfl _ 2 rfl _ _ _ _ (fun _ h => ⟨cell_heap h 2, cell_heap h 3, cell_heap h 4, cell_heap h 5⟩)) G1 ?_
    simp only [Act.put, lzA, lzB, lzC]
    refine wpAnyL_all (rs := [3]) (by kernel_rfl) (by simp) ?_
    intro j hj
    have hj := List.mem_singleton.1 hj
    subst hj
    refine ot_call (o := ⟨_, _, _, _, _, _⟩) rfl (by rfl) 31 _ _ rfl #[.pointer (some ⟨b, 0, none⟩), .int .i64 (x.attr)] rfl (run_call Tryz.func31 (by kernel_rfl) (by kernel_rfl)) ?_
    refine (name_nm b x.attr _ H a0 a3).mono ?_
    rintro r v3 (⟨rfl, hr, kg⟩)
    replace H := H.grown kg hr
    clear hr
    replace D := gr_new D ge_b kg
    replace D2 := grown_trans D2 kg
    replace G1 := heap_gr G1 kg (Ne.symm n_b_g1)
    clear kg
    refine Or.inl ⟨.string (bs (nameL x.attr)), rfl, ⟨fun _ _ => G1, ?_⟩⟩
    simp only [Act.put, lzA, lzB, lzC]
    refine wpAnyL_pure (i := 4) (oi := ⟨_, _, _, _, _, _⟩) (v := .string (bs ((nameL x.attr) ++ ([58])))) rfl (by kernel_rfl) (by kernel_rfl) (by kernel_rfl) (fun _ _ _ h => h) (yt_cat (by rfl) _ _ _ rfl (nameL x.attr) ([58]) rfl rfl (by simp only [List.length_cons, List.length_append, List.length_nil, name1]; omega)) ?_
    simp only [Act.put, lzA, lzB, lzC]
    refine wpAnyL_all (rs := [7]) (by kernel_rfl) (by simp) ?_
    intro j hj
    have hj := List.mem_singleton.1 hj
    subst hj
    refine ot_call (o := ⟨_, _, _, _, _, _⟩) rfl (by rfl) 16 _ _ rfl #[.agg #[.bool (x.set.absent), .slice pI x.set.ints.length cI, .bool (x.set.co), .slice pS x.set.strs.length cS]] rfl (run_call Tryz.func16 (by kernel_rfl) (by kernel_rfl)) ?_
    refine (setText_any x.set pI pS cI cS _ H.env (hI.on (below_none D)) (hT.on (below_none D)) ok (by omega) (by omega)).mono ?_
    rintro r v4 (⟨rfl, kb⟩)
    replace D := grown_below D kb
    replace H := H.on kb
    replace D2 := grown_below D2 kb
    replace G1 := heap_on G1 kb
    clear kb
    refine Or.inl ⟨.string (bs (setTxt x.set)), rfl, ⟨fun _ _ => G1, ?_⟩⟩
    simp only [Act.put, lzA, lzB, lzC]
    refine wpAnyL_pure (i := 8) (oi := ⟨_, _, _, _, _, _⟩) (v := .string (bs (((nameL x.attr) ++ ([58])) ++ (setTxt x.set)))) rfl (by kernel_rfl) (by kernel_rfl) (by kernel_rfl) (fun _ _ _ h => h) (yt_cat (by rfl) _ _ _ rfl ((nameL x.attr) ++ ([58])) (setTxt x.set) rfl rfl (by simp only [List.length_cons, List.length_append, List.length_nil, name1]; omega)) ?_
    simp only [Act.put, lzA, lzB, lzC]
    refine wpAnyL_pure (i := 9) (oi := ⟨_, _, _, _, _, _⟩) (v := .string (bs (((nameL x.attr) ++ ([58])) ++ (setTxt x.set)))) rfl (by kernel_rfl) (by kernel_rfl) (by kernel_rfl) (fun _ _ _ h => h) (yl_assign (by rfl) _ rfl _ rfl) ?_
    simp only [Act.put, lzA, lzB, lzC]
    refine wpAnyL_done (by kernel_rfl) ?_ _
    refine hK7 _ _ ?_
    clear hK7 K7
    refine wp_ret ?_
    go_ret
    exact ⟨ret_str (by rw [hT1]; simp), H.nm, D2⟩
  · have hT1 : exTxt (n + 1) x = 38 :: (40 :: (joinL (x.sub.map (exTxt n)) ++ [41])) := by unfold exTxt; rw [if_pos hk]
    rw [hT1] at hlen ⊢
    simp only [List.length_cons, List.length_append, List.length_nil] at hlen
    refine wp_region_lit ?_
    refine wt_boxEx (o := ⟨_, _, _, _, _, _⟩) (by rfl) _ rfl (⟨x.kind, x.attr, ⟨x.set.absent, pI, x.set.ints.length, cI, x.set.co, pS, x.set.strs.length, cS⟩, p, x.sub.length, c⟩) rfl (fun v1 g1 hg G1 kb => ?_)
    simp only [Act.put, lzA, lzB, lzC]
    have n_b_g1 : b ≠ g1 := by have := H.lt; omega
    have ge_g1 : w0.heap.size ≤ g1 := Nat.le_trans D.size hg
    have ge_D2_g1 : w.heap.size ≤ g1 := Nat.le_trans D2.size hg
    have six_g1 : 6 ≤ g1 := Nat.le_trans w6 ge_g1
    clear hg
    replace D := grown_below D kb
    replace H := H.on kb
    replace D2 := grown_below D2 kb
    clear kb
    replace G1 : v1.heap[g1]? = some (.cells #[.int .i64 (x.kind), .int .i64 (x.attr), .bool (x.set.absent), .slice pI x.set.ints.length cI, .bool (x.set.co), .slice pS x.set.strs.length cS, .slice p x.sub.length c] 29 (0, 0)) := G1
    refine wl_yield (o := ⟨_, _, _, _, _, _⟩) (.string (bs ([]))) (yl_assign (by rfl) _ rfl _ rfl) ?_
    simp only [Act.put, lzA, lzB, lzC]
    refine wpList_nil ?_
    refine hK1 _ _ ?_
    clear hK1 K1
    refine wp_seq_k (fun K2 hK2 => ?_)
    refine wp_seq_k (fun K3 hK3 => ?_)
    refine wp_region_lit ?_
    refine wl_yield (o := ⟨_, _, _, _, _, _⟩) (.pointer (some ⟨g1, 0, none⟩)) (yt_fEx0 (by rfl) _ rfl g1 0 rfl) ?_
    simp only [Act.put, lzA, lzB, lzC]
    refine wl_yield (o := ⟨_, _, _, _, _, _⟩) (.int .i64 (x.kind)) (yt_ldI (by rfl) _ rfl _ _ rfl x.kind (fun _ h => by subst h; exact cell_heap G1 0)) ?_
    simp only [Act.put, lzA, lzB, lzC]
    refine wpList_nil ?_
    refine hK3 _ _ ?_
    clear hK3 K3
    refine wp_block ?_
    refine wp_seq_k (fun K4 hK4 => ?_)
    refine wp_region_lit ?_
    refine wl_yield (o := ⟨_, _, _, _, _, _⟩) (.bool true) (yt_eqlI (by rfl) _ _ _ rfl x.kind 2 true rfl rfl (decide_eq_true (by omega))) ?_
    simp only [Act.put, lzA, lzB, lzC]
    refine wl_yield (o := ⟨_, _, _, _, _, _⟩) (.bool true) (yl_assign (by rfl) _ rfl _ rfl) ?_
    simp only [Act.put, lzA, lzB, lzC]
    refine wpList_nil ?_
    refine hK4 _ _ ?_
    clear hK4 K4
    refine wp_cond_true rfl ?_
    refine wp_seq_k (fun K5 hK5 => ?_)
    refine wp_region_lit ?_
    refine wl_yield (o := ⟨_, _, _, _, _, _⟩) (.pointer (some ⟨b, 0, none⟩)) (yl_move (by rfl) _ rfl _ rfl) ?_
    simp only [Act.put, lzA, lzB, lzC]
    refine wl_yield (o := ⟨_, _, _, _, _, _⟩) (.pointer (some ⟨g1, 6, none⟩)) (yt_fEx3 (by rfl) _ rfl g1 0 rfl) ?_
    simp only [Act.put, lzA, lzB, lzC]
    refine wl_yield (o := ⟨_, _, _, _, _, _⟩) (.slice p x.sub.length c) (yt_ldLx (by rfl) _ rfl _ _ rfl p x.sub.length c (fun _ h => by subst h; exact cell_heap G1 6)) ?_
    simp only [Act.put, lzA, lzB, lzC]
    refine wt_call (o := ⟨_, _, _, _, _, _⟩) (by rfl) 51 _ _ rfl #[.pointer (some ⟨b, 0, none⟩), .slice p x.sub.length c] rfl (run_call Tryz.func51 (by kernel_rfl) (by kernel_rfl)) ?_
    refine (listText_any n b w0 IH p c x.sub _ hp (fun y hy => hs y hy) (by omega) hlx h60 D hb H).mono ?_
    rintro r v2 (⟨rfl, hr, kg⟩)
    · replace H := H.grown kg hr
      clear hr
      replace D := gr_new D ge_b kg
      replace D2 := grown_trans D2 kg
      replace G1 := heap_gr G1 kg (Ne.symm n_b_g1)
      clear kg
      refine Or.inl ⟨.string (bs (40 :: (joinL (x.sub.map (exTxt n)) ++ [41]))), rfl, ?_⟩
      simp only [Act.put, lzA, lzB, lzC]
      refine wl_yield (o := ⟨_, _, _, _, _, _⟩) (.string (bs (([38]) ++ (40 :: (joinL (x.sub.map (exTxt n)) ++ [41]))))) (yt_cat (by rfl) _ _ _ rfl ([38]) (40 :: (joinL (x.sub.map (exTxt n)) ++ [41])) rfl rfl (by simp only [List.length_cons, List.length_append, List.length_nil, name1]; omega)) ?_
      simp only [Act.put, lzA, lzB, lzC]
      refine wl_yield (o := ⟨_, _, _, _, _, _⟩) (.string (bs (([38]) ++ (40 :: (joinL (x.sub.map (exTxt n)) ++ [41]))))) (yl_assign (by rfl) _ rfl _ rfl) ?_
      simp only [Act.put, lzA, lzB, lzC]
      refine wpList_nil ?_
      refine hK5 _ _ ?_
      clear hK5 K5
      refine wp_ret ?_
      go_ret
      exact ⟨ret_str (by rw [hT1]; simp), H.nm, D2⟩
  · have hT1 : exTxt (n + 1) x = 124 :: (40 :: (joinL (x.sub.map (exTxt n)) ++ [41])) := by unfold exTxt; rw [if_neg (by omega), if_pos hk]
    rw [hT1] at hlen ⊢
    simp only [List.length_cons, List.length_append, List.length_nil] at hlen
    refine wp_region_lit ?_
    refine wt_boxEx (o := ⟨_, _, _, _, _, _⟩) (by rfl) _ rfl (⟨x.kind, x.attr, ⟨x.set.absent, pI, x.set.ints.length, cI, x.set.co, pS, x.set.strs.length, cS⟩, p, x.sub.length, c⟩) rfl (fun v1 g1 hg G1 kb => ?_)
    simp only [Act.put, lzA, lzB, lzC]
    have n_b_g1 : b ≠ g1 := by have := H.lt; omega
    have ge_g1 : w0.heap.size ≤ g1 := Nat.le_trans D.size hg
    have ge_D2_g1 : w.heap.size ≤ g1 := Nat.le_trans D2.size hg
    have six_g1 : 6 ≤ g1 := Nat.le_trans w6 ge_g1
    clear hg
    replace D := grown_below D kb
    replace H := H.on kb
    replace D2 := grown_below D2 kb
    clear kb
    replace G1 : v1.heap[g1]? = some (.cells #[.int .i64 (x.kind), .int .i64 (x.attr), .bool (x.set.absent), .slice pI x.set.ints.length cI, .bool (x.set.co), .slice pS x.set.strs.length cS, .slice p x.sub.length c] 29 (0, 0)) := G1
    refine wl_yield (o := ⟨_, _, _, _, _, _⟩) (.string (bs ([]))) (yl_assign (by rfl) _ rfl _ rfl) ?_
    simp only [Act.put, lzA, lzB, lzC]
    refine wpList_nil ?_
    refine hK1 _ _ ?_
    clear hK1 K1
    refine wp_seq_k (fun K2 hK2 => ?_)
    refine wp_seq_k (fun K3 hK3 => ?_)
    refine wp_region_lit ?_
    refine wl_yield (o := ⟨_, _, _, _, _, _⟩) (.pointer (some ⟨g1, 0, none⟩)) (yt_fEx0 (by rfl) _ rfl g1 0 rfl) ?_
    simp only [Act.put, lzA, lzB, lzC]
    refine wl_yield (o := ⟨_, _, _, _, _, _⟩) (.int .i64 (x.kind)) (yt_ldI (by rfl) _ rfl _ _ rfl x.kind (fun _ h => by subst h; exact cell_heap G1 0)) ?_
    simp only [Act.put, lzA, lzB, lzC]
    refine wpList_nil ?_
    refine hK3 _ _ ?_
    clear hK3 K3
    refine wp_block ?_
    refine wp_seq_k (fun K4 hK4 => ?_)
    refine wp_region_lit ?_
    refine wl_yield (o := ⟨_, _, _, _, _, _⟩) (.bool false) (yt_eqlI (by rfl) _ _ _ rfl x.kind 2 false rfl rfl (decide_eq_false (by omega))) ?_
    simp only [Act.put, lzA, lzB, lzC]
    refine wl_yield (o := ⟨_, _, _, _, _, _⟩) (.bool false) (yl_assign (by rfl) _ rfl _ rfl) ?_
    simp only [Act.put, lzA, lzB, lzC]
    refine wpList_nil ?_
    refine hK4 _ _ ?_
    clear hK4 K4
    refine wp_cond_false rfl ?_
    refine wp_seq_k (fun K5 hK5 => ?_)
    refine wp_region_lit ?_
    refine wl_yield (o := ⟨_, _, _, _, _, _⟩) (.bool true) (yt_eqlI (by rfl) _ _ _ rfl x.kind 3 true rfl rfl (decide_eq_true (by omega))) ?_
    simp only [Act.put, lzA, lzB, lzC]
    refine wl_yield (o := ⟨_, _, _, _, _, _⟩) (.bool true) (yl_assign (by rfl) _ rfl _ rfl) ?_
    simp only [Act.put, lzA, lzB, lzC]
    refine wpList_nil ?_
    refine hK5 _ _ ?_
    clear hK5 K5
    refine wp_cond_true rfl ?_
    refine wp_seq_k (fun K6 hK6 => ?_)
    refine wp_region_lit ?_
    refine wl_yield (o := ⟨_, _, _, _, _, _⟩) (.pointer (some ⟨b, 0, none⟩)) (yl_move (by rfl) _ rfl _ rfl) ?_
    simp only [Act.put, lzA, lzB, lzC]
    refine wl_yield (o := ⟨_, _, _, _, _, _⟩) (.pointer (some ⟨g1, 6, none⟩)) (yt_fEx3 (by rfl) _ rfl g1 0 rfl) ?_
    simp only [Act.put, lzA, lzB, lzC]
    refine wl_yield (o := ⟨_, _, _, _, _, _⟩) (.slice p x.sub.length c) (yt_ldLx (by rfl) _ rfl _ _ rfl p x.sub.length c (fun _ h => by subst h; exact cell_heap G1 6)) ?_
    simp only [Act.put, lzA, lzB, lzC]
    refine wt_call (o := ⟨_, _, _, _, _, _⟩) (by rfl) 51 _ _ rfl #[.pointer (some ⟨b, 0, none⟩), .slice p x.sub.length c] rfl (run_call Tryz.func51 (by kernel_rfl) (by kernel_rfl)) ?_
    refine (listText_any n b w0 IH p c x.sub _ hp (fun y hy => hs y hy) (by omega) hlx h60 D hb H).mono ?_
    rintro r v2 (⟨rfl, hr, kg⟩)
    · replace H := H.grown kg hr
      clear hr
      replace D := gr_new D ge_b kg
      replace D2 := grown_trans D2 kg
      replace G1 := heap_gr G1 kg (Ne.symm n_b_g1)
      clear kg
      refine Or.inl ⟨.string (bs (40 :: (joinL (x.sub.map (exTxt n)) ++ [41]))), rfl, ?_⟩
      simp only [Act.put, lzA, lzB, lzC]
      refine wl_yield (o := ⟨_, _, _, _, _, _⟩) (.string (bs (([124]) ++ (40 :: (joinL (x.sub.map (exTxt n)) ++ [41]))))) (yt_cat (by rfl) _ _ _ rfl ([124]) (40 :: (joinL (x.sub.map (exTxt n)) ++ [41])) rfl rfl (by simp only [List.length_cons, List.length_append, List.length_nil, name1]; omega)) ?_
      simp only [Act.put, lzA, lzB, lzC]
      refine wl_yield (o := ⟨_, _, _, _, _, _⟩) (.string (bs (([124]) ++ (40 :: (joinL (x.sub.map (exTxt n)) ++ [41]))))) (yl_assign (by rfl) _ rfl _ rfl) ?_
      simp only [Act.put, lzA, lzB, lzC]
      refine wpList_nil ?_
      refine hK6 _ _ ?_
      clear hK6 K6
      refine wp_ret ?_
      go_ret
      exact ⟨ret_str (by rw [hT1]; simp), H.nm, D2⟩
  · have h4 := (node_op hn (by omega)).2 hk
    obtain ⟨y, hy⟩ := List.length_eq_one_iff.1 h4
    have hy0 : x.sub.getD 0 noX = y := by rw [hy]; rfl
    have hym : y ∈ x.sub := by rw [hy]; simp
    have hT1 : exTxt (n + 1) x = 33 :: exTxt n y := by rw [exTxt, if_neg (by omega), if_neg (by omega), if_pos hk, hy]; rfl
    obtain ⟨gX, oX, d, rfl, hgX, hdX, hxX⟩ := hp 0 (by omega)
    rw [hy0] at hxX
    rw [hT1] at hlen ⊢
    simp only [List.length_cons, List.length_append, List.length_nil] at hlen
    refine wp_region_lit ?_
    refine wt_boxEx (o := ⟨_, _, _, _, _, _⟩) (by rfl) _ rfl (⟨x.kind, x.attr, ⟨x.set.absent, pI, x.set.ints.length, cI, x.set.co, pS, x.set.strs.length, cS⟩, (some ⟨gX, oX, none⟩), x.sub.length, c⟩) rfl (fun v1 g1 hg G1 kb => ?_)
    simp only [Act.put, lzA, lzB, lzC]
    have n_b_g1 : b ≠ g1 := by have := H.lt; omega
    have ge_g1 : w0.heap.size ≤ g1 := Nat.le_trans D.size hg
    have ge_D2_g1 : w.heap.size ≤ g1 := Nat.le_trans D2.size hg
    have six_g1 : 6 ≤ g1 := Nat.le_trans w6 ge_g1
    clear hg
    replace D := grown_below D kb
    replace H := H.on kb
    replace D2 := grown_below D2 kb
    clear kb
    replace G1 : v1.heap[g1]? = some (.cells #[.int .i64 (x.kind), .int .i64 (x.attr), .bool (x.set.absent), .slice pI x.set.ints.length cI, .bool (x.set.co), .slice pS x.set.strs.length cS, .slice ((some ⟨gX, oX, none⟩)) x.sub.length c] 29 (0, 0)) := G1
    refine wl_yield (o := ⟨_, _, _, _, _, _⟩) (.string (bs ([]))) (yl_assign (by rfl) _ rfl _ rfl) ?_
    simp only [Act.put, lzA, lzB, lzC]
    refine wpList_nil ?_
    refine hK1 _ _ ?_
    clear hK1 K1
    refine wp_seq_k (fun K2 hK2 => ?_)
    refine wp_seq_k (fun K3 hK3 => ?_)
    refine wp_region_lit ?_
    refine wl_yield (o := ⟨_, _, _, _, _, _⟩) (.pointer (some ⟨g1, 0, none⟩)) (yt_fEx0 (by rfl) _ rfl g1 0 rfl) ?_
    simp only [Act.put, lzA, lzB, lzC]
    refine wl_yield (o := ⟨_, _, _, _, _, _⟩) (.int .i64 (x.kind)) (yt_ldI (by rfl) _ rfl _ _ rfl x.kind (fun _ h => by subst h; exact cell_heap G1 0)) ?_
    simp only [Act.put, lzA, lzB, lzC]
    refine wpList_nil ?_
    refine hK3 _ _ ?_
    clear hK3 K3
    refine wp_block ?_
    refine wp_seq_k (fun K4 hK4 => ?_)
    refine wp_region_lit ?_
    refine wl_yield (o := ⟨_, _, _, _, _, _⟩) (.bool false) (yt_eqlI (by rfl) _ _ _ rfl x.kind 2 false rfl rfl (decide_eq_false (by omega))) ?_
    simp only [Act.put, lzA, lzB, lzC]
    refine wl_yield (o := ⟨_, _, _, _, _, _⟩) (.bool false) (yl_assign (by rfl) _ rfl _ rfl) ?_
    simp only [Act.put, lzA, lzB, lzC]
    refine wpList_nil ?_
    refine hK4 _ _ ?_
    clear hK4 K4
    refine wp_cond_false rfl ?_
    refine wp_seq_k (fun K5 hK5 => ?_)
    refine wp_region_lit ?_
    refine wl_yield (o := ⟨_, _, _, _, _, _⟩) (.bool false) (yt_eqlI (by rfl) _ _ _ rfl x.kind 3 false rfl rfl (decide_eq_false (by omega))) ?_
    simp only [Act.put, lzA, lzB, lzC]
    refine wl_yield (o := ⟨_, _, _, _, _, _⟩) (.bool false) (yl_assign (by rfl) _ rfl _ rfl) ?_
    simp only [Act.put, lzA, lzB, lzC]
    refine wpList_nil ?_
    refine hK5 _ _ ?_
    clear hK5 K5
    refine wp_cond_false rfl ?_
    refine wp_seq_k (fun K6 hK6 => ?_)
    refine wp_region_lit ?_
    refine wl_yield (o := ⟨_, _, _, _, _, _⟩) (.bool true) (yt_eqlI (by rfl) _ _ _ rfl x.kind 4 true rfl rfl (decide_eq_true (by omega))) ?_
    simp only [Act.put, lzA, lzB, lzC]
    refine wl_yield (o := ⟨_, _, _, _, _, _⟩) (.bool true) (yl_assign (by rfl) _ rfl _ rfl) ?_
    simp only [Act.put, lzA, lzB, lzC]
    refine wpList_nil ?_
    refine hK6 _ _ ?_
    clear hK6 K6
    refine wp_cond_true rfl ?_
    refine wp_seq_k (fun K7 hK7 => ?_)
    refine wp_region_lit ?_
    refine wl_yield (o := ⟨_, _, _, _, _, _⟩) (.pointer (some ⟨b, 0, none⟩)) (yl_move (by rfl) _ rfl _ rfl) ?_
    simp only [Act.put, lzA, lzB, lzC]
    refine wl_yield (o := ⟨_, _, _, _, _, _⟩) (.pointer (some ⟨g1, 6, none⟩)) (yt_fEx3 (by rfl) _ rfl g1 0 rfl) ?_
    simp only [Act.put, lzA, lzB, lzC]
    refine wl_yield (o := ⟨_, _, _, _, _, _⟩) (.slice ((some ⟨gX, oX, none⟩)) x.sub.length c) (yt_ldLx (by rfl) _ rfl _ _ rfl ((some ⟨gX, oX, none⟩)) x.sub.length c (fun _ h => by subst h; exact cell_heap G1 6)) ?_
    simp only [Act.put, lzA, lzB, lzC]
    refine wl_yield (o := ⟨_, _, _, _, _, _⟩) (.pointer (some ⟨gX, oX + 0 * 7, none⟩)) (yt_atX (by rfl) _ _ rfl gX oX _ _ 0 rfl rfl (by omega)) ?_
    simp only [Act.put, lzA, lzB, lzC]
    have hdY := hdX.on hgX (below_none D)
    refine wl_yield (o := ⟨_, _, _, _, _, _⟩) (EC.val d) (yl_ex (by rfl) _ rfl _ _ rfl (c := d) (fun _ h => by subst h; exact hdY)) ?_
    simp only [Act.put, lzA, lzB, lzC]
    refine wt_call (o := ⟨_, _, _, _, _, _⟩) (by rfl) 24 _ _ rfl #[.pointer (some ⟨b, 0, none⟩), EC.val d] rfl (run_call Tryz.func24 (by kernel_rfl) (by kernel_rfl)) ?_
    refine (IH d y _ hxX (hs y hym) (by omega) D hb H).mono ?_
    rintro r v2 (⟨rfl, hr, kg⟩)
    · replace H := H.grown kg hr
      clear hr
      replace D := gr_new D ge_b kg
      replace D2 := grown_trans D2 kg
      replace G1 := heap_gr G1 kg (Ne.symm n_b_g1)
      clear kg
      refine Or.inl ⟨.string (bs (exTxt n y)), rfl, ?_⟩
      simp only [Act.put, lzA, lzB, lzC]
      refine wl_yield (o := ⟨_, _, _, _, _, _⟩) (.string (bs (([33]) ++ (exTxt n y)))) (yt_cat (by rfl) _ _ _ rfl ([33]) (exTxt n y) rfl rfl (by simp only [List.length_cons, List.length_append, List.length_nil, name1]; omega)) ?_
      simp only [Act.put, lzA, lzB, lzC]
      refine wl_yield (o := ⟨_, _, _, _, _, _⟩) (.string (bs (([33]) ++ (exTxt n y)))) (yl_assign (by rfl) _ rfl _ rfl) ?_
      simp only [Act.put, lzA, lzB, lzC]
      refine wpList_nil ?_
      refine hK7 _ _ ?_
      clear hK7 K7
      refine wp_ret ?_
      go_ret
      exact ⟨ret_str (by rw [hT1]; simp), H.nm, D2⟩
theorem slice_of {w : World} {v : Value} {l : List Rg} (h : RngsAt w v l) : ∃ p c, v = .slice p l.length c := by
  obtain ⟨_, _, a, cap, e, _⟩ := h
  exact ⟨a, _, e⟩
theorem slice_of' {w : World} {v : Value} {l : List ByteArray} (h : StrsAt w v l) : ∃ p c, v = .slice p l.length c := by
  obtain ⟨_, _, a, cap, e, _⟩ := h
  exact ⟨a, _, e⟩
theorem sub_len_txt (n : Nat) (x : ExV) (h : eachX (n + 1) x = true) (hl : (exTxt (n + 1) x).length ≤ 1000000) : x.sub.length ≤ 1000000 := by
  unfold eachX at h
  rw [Bool.and_eq_true, List.all_eq_true] at h
  have hf : ∀ y ∈ x.sub, ∃ b t, exTxt n y = b :: t := fun y hy => by
    cases n with
    | zero => have := h.2 y hy; cases this
    | succ m => obtain ⟨b, t, e, _⟩ := ex_first m y (h.2 y hy); exact ⟨b, t, e⟩
  have hj := joinL_len (exTxt n) x.sub hf
  rcases node_kind h.1 with k | k | k | k
  · have := (node_at h.1 k).2.2
    rw [this]
    exact Nat.zero_le _
  · rw [show exTxt (n + 1) x = 38 :: (40 :: (joinL (x.sub.map (exTxt n)) ++ [41])) by unfold exTxt; rw [if_pos k]] at hl
    simp only [List.length_cons, List.length_append, List.length_nil] at hl
    omega
  · rw [show exTxt (n + 1) x = 124 :: (40 :: (joinL (x.sub.map (exTxt n)) ++ [41])) by unfold exTxt; rw [if_neg (by omega), if_pos k]] at hl
    simp only [List.length_cons, List.length_append, List.length_nil] at hl
    omega
  · have := (node_op h.1 (by omega)).2 k
    omega
theorem exprText_all (b : Nat) (w0 : World) (h60 : 6 ≤ w0.heap.size) : ∀ n, TxtOr n b w0
  | 0 => fun c x w hx => by cases hx
  | n + 1 => fun c x w hx he hlen D hb H => by
    obtain ⟨c', hv, hc, hp⟩ := id hx
    obtain rfl := ec_inj hv
    have hsub := sub_len_txt n x he hlen
    unfold eachX at he
    rw [Bool.and_eq_true, List.all_eq_true] at he
    obtain ⟨ck, ct, ⟨sa, sp, sn, sc, sd, sq, sm, se⟩, cp, cn, cc⟩ := c
    have hs := hc.s
    have hk := hc.k
    have ht := hc.t
    have hn := hc.n
    dsimp only at hk ht hn hp hs
    obtain ⟨vi, vs, ev, hI, hT⟩ := hs
    obtain ⟨pI, cI, rfl⟩ := slice_of hI
    obtain ⟨pS, cS, rfl⟩ := slice_of' hT
    unfold SC.val at ev
    injection ev with ev
    injection ev with ev
    injection ev with e1 ev
    injection ev with e2 ev
    injection ev with e3 ev
    injection ev with e4 ev
    injection e1 with e1
    injection e2 with e2 e2' e2''
    injection e3 with e3
    injection e4 with e4 e4' e4''
    dsimp only at e1 e2 e2' e2'' e3 e4 e4' e4''
    subst hk ht hn e1 e2 e2' e2'' e3 e4 e4' e4''
    exact exprText_step n b w0 (exprText_all b w0 h60 n) x _ _ _ _ _ _ w hI hT hp he.1 he.2 hlen hsub h60 D hb H
end Go.Proofs.YtlmdcaemjaldfaaGreatDoor
namespace Go.Proofs.YtlmdcaemjaldfaaGreatDoor
open Go.RowKit
def okI : Nat → ExV → Prop
  | 0, _ => True
  | n + 1, x => inI64 x.set.ints ∧ ∀ y ∈ x.sub, okI n y
theorem exAt_okI {w : World} : ∀ (n : Nat) {v : Value} {x : ExV}, ExAt n w v x → okI n x
  | 0, _, _, h => by cases h
  | n + 1, v, x, ⟨c, hv, hc, hp⟩ => by
    refine ⟨?_, fun y hy => ?_⟩
    · obtain ⟨vi, vs, _, hI, _⟩ := hc.s
      exact hI.1
    · obtain ⟨i, hi, e⟩ := List.getElem_of_mem hy
      obtain ⟨g, off, d, _, _, _, hx⟩ := hp i hi
      have : x.sub.getD i noX = y := by rw [List.getD_eq_getElem?_getD, List.getElem?_eq_getElem hi]; exact e
      rw [this] at hx
      exact exAt_okI n hx
theorem join_count (f n : Nat) (l : List ExV) (ih : ∀ y ∈ l, countX f y < 100 → ((exTxt n y).length : Int) + 1 ≤ 700 * countX f y) : ∀ m : Int, 0 ≤ m → l.foldl (fun n y => if n < 100 then n + countX f y else n) m < 100 → ((joinL (l.map (exTxt n))).length : Int) + 700 * m ≤ 700 * l.foldl (fun n y => if n < 100 then n + countX f y else n) m := by
  induction l with
  | nil => intro m _ _; simp [joinL]
  | cons y l ihl =>
    intro m h0 h
    rw [List.foldl_cons] at h ⊢
    have hy := countX_pos f y
    have hl := count_len f l _ h
    have hl2 := ihl (fun z hz => ih z (by simp [hz])) _ (by split <;> omega) h
    by_cases hm : m < 100
    · rw [if_pos hm] at h hl hl2 ⊢
      have h1 := ih y (by simp) (by omega)
      cases l with
      | nil =>
        rw [List.map_cons, List.map_nil]
        show ((exTxt n y).length : Int) + 700 * m ≤ _
        rw [List.foldl_nil]
        omega
      | cons z l =>
        rw [List.map_cons, joinL_cons _ _ (by simp), List.length_append, List.length_cons]
        omega
    · rw [if_neg hm] at h hl
      omega
theorem txt_count : ∀ (f n : Nat) (x : ExV), n ≤ f → countX f x < 100 → eachX n x = true → okI n x → ((exTxt n x).length : Int) + 1 ≤ 700 * countX f x
  | _, 0, _, _, _, h, _ => by cases h
  | 0, n + 1, _, h, _, _, _ => by omega
  | f + 1, n + 1, x, hf, hc, he, hi => by
    have hp := countX_pos (f + 1) x
    have hx := he
    unfold eachX at he
    rw [Bool.and_eq_true, List.all_eq_true] at he
    have hcc := hc
    unfold countX at hcc
    have hj := join_count f n x.sub (fun y hy h => txt_count f n y (by omega) h (he.2 y hy) (hi.2 y hy)) 1 (by omega) (by omega)
    have hcx : countX (f + 1) x = x.sub.foldl (fun n y => if n < 100 then n + countX f y else n) 1 := by
      show min _ _ = _
      omega
    rw [hcx]
    rw [hcx] at hp
    rcases node_kind he.1 with k | k | k | k
    · obtain ⟨rs, l6, m6⟩ := node_set he.1 k
      have ok := right_okB rs hi.1
      have := setTxt_le ok.1 ok.2
      rw [show exTxt (n + 1) x = nameL x.attr ++ 58 :: setTxt x.set by unfold exTxt; rw [if_neg (by omega), if_neg (by omega), if_neg (by omega)]]
      rw [List.length_append, List.length_cons, name1]
      omega
    · rw [show exTxt (n + 1) x = 38 :: (40 :: (joinL (x.sub.map (exTxt n)) ++ [41])) by unfold exTxt; rw [if_pos k]]
      simp only [List.length_cons, List.length_append, List.length_nil]
      omega
    · rw [show exTxt (n + 1) x = 124 :: (40 :: (joinL (x.sub.map (exTxt n)) ++ [41])) by unfold exTxt; rw [if_neg (by omega), if_pos k]]
      simp only [List.length_cons, List.length_append, List.length_nil]
      omega
    · obtain ⟨y, hy⟩ := List.length_eq_one_iff.1 ((node_op he.1 (by omega)).2 k)
      rw [show exTxt (n + 1) x = 33 :: exTxt n y by rw [exTxt, if_neg (by omega), if_neg (by omega), if_pos k, hy]; rfl]
      rw [hy] at hj ⊢
      have e1 : joinL ([y].map (exTxt n)) = exTxt n y := rfl
      rw [e1] at hj
      simp only [List.length_cons]
      omega
theorem txt_small {x : ExV} (h : rightX x = true) (hi : okI 8 x) : (exTxt 8 x).length ≤ 28000 := by
  have he := rightX_each h
  unfold rightX at h
  rw [Bool.and_eq_true] at h
  have hf := h.1
  unfold fitsX at hf
  rw [Bool.and_eq_true, decide_eq_true_eq, decide_eq_true_eq] at hf
  have := txt_count 21 8 x (by omega) (by omega) he hi
  omega
section
variable {ops : Array Oper} {Q : Exit → Act → World → Prop} {S : World → Prop} {o : Oper} {a : Act}
theorem wt_allocNm {rest : List Oper} {w : World} (hw : Region.wanted o (yielded ops a.tmps) = true) (ho : o.op = .alloc 82)
    (h : ∀ W g, w.heap.size ≤ g → NamesAt W g → Below w.heap.size w W → wpList Tryz.prog ops Q rest (a.put o.dst (.pointer (some ⟨g, 0, none⟩))) W) : wpList Tryz.prog ops Q (o :: rest) a w := by
  refine wl_run hw (.pointer (some ⟨w.heap.size, 0, none⟩)) (w.alloc freshN) ?_ (h _ _ (Nat.le_refl _) (Or.inl (heap_new _ _)) ((Below.refl _ w).alloc (Nat.le_refl _) _))
  simp only [execOp, ho, freshN]
  go_simp
end
def printR (x : ExV) : List UInt8 × Int := if rightX x = true then (if (exTxt 8 x).length ≤ 1024 then (exTxt 8 x, 0) else ([], 9)) else ([], 1)
set_option maxHeartbeats 1000000 in
set_option maxRecDepth 100000 in
theorem print_any (n : Nat) (c : EC) (x : ExV) (w : World) (HE : Env w) (hx : Xp n w c x) (hn1 : n ≤ 2000) :
    Calls Tryz.prog 9 #[c.val] w fun e w' => e = .returned (.tuple #[.string (bs (printR x).1), .int .i64 (printR x).2]) ∧ Below w.heap.size w w' := by
  have w6 : 6 ≤ w.heap.size := HE.big
  have D : w.grownBy w none := grown_refl _ _
  have hx8 : rightX x = true → ExAt 8 w c.val x := fun hr => ExAt.shrink n 8 hx (rightX_low hr)
  have hts : rightX x = true → (exTxt 8 x).length ≤ 28000 := fun hr => txt_small hr (exAt_okI 8 (hx8 hr))
  go_enter Tryz.func9, Tryz.ntmps9
  refine wp_seq_k (fun K1 hK1 => ?_)
  cases hr : rightX x
  · refine wp_region_lit ?_
    refine wt_boxEx (o := ⟨_, _, _, _, _, _⟩) (by rfl) _ rfl (c) rfl (fun v1 g1 hg G1 kb => ?_)
    simp only [Act.put, lzA, lzB, lzC]
    have ge_g1 : w.heap.size ≤ g1 := Nat.le_trans D.size hg
    have six_g1 : 6 ≤ g1 := Nat.le_trans w6 ge_g1
    clear hg
    replace D := grown_below D kb
    replace HE := HE.on kb
    clear kb
    replace G1 : v1.heap[g1]? = some (.cells #[.int .i64 (c.k), .int .i64 (c.t), .bool (c.s.a), .slice c.s.p c.s.n c.s.c, .bool (c.s.d), .slice c.s.q c.s.m c.s.e, .slice c.p c.n c.c] 29 (0, 0)) := G1
    refine wl_yield (o := ⟨_, _, _, _, _, _⟩) (.string (bs ([]))) (yl_assign (by rfl) _ rfl _ rfl) ?_
    simp only [Act.put, lzA, lzB, lzC]
    refine wl_yield (o := ⟨_, _, _, _, _, _⟩) (.int .i64 0) (yl_assign (by rfl) _ rfl _ rfl) ?_
    simp only [Act.put, lzA, lzB, lzC]
    refine wpList_nil ?_
    refine hK1 _ _ ?_
    clear hK1 K1
    refine wp_seq_k (fun K2 hK2 => ?_)
    refine wp_seq_k (fun K3 hK3 => ?_)
    refine wp_region_lit ?_
    refine wl_yield (o := ⟨_, _, _, _, _, _⟩) (EC.val c) (yl_ex (by rfl) _ rfl _ 0 rfl (c := ⟨c.k, c.t, ⟨c.s.a, c.s.p, c.s.n, c.s.c, c.s.d, c.s.q, c.s.m, c.s.e⟩, c.p, c.n, c.c⟩) (fun _ h => by subst h; exact ⟨cell_heap G1 0, cell_heap G1 1, cell_heap G1 2, cell_heap G1 3, cell_heap G1 4, cell_heap G1 5, cell_heap G1 6⟩)) ?_
    simp only [Act.put, lzA, lzB, lzC]
    refine wt_call (o := ⟨_, _, _, _, _, _⟩) (by rfl) 23 _ _ rfl #[EC.val c] rfl (run_call Tryz.func23 (by kernel_rfl) (by kernel_rfl)) ?_
    refine ((hr ▸ c_right (hx.on (below_none D)) hn1)).mono ?_
    rintro r v2 ⟨rfl, kb⟩
    replace D := grown_below D kb
    replace HE := HE.on kb
    replace G1 := heap_on G1 kb
    clear kb
    refine Or.inl ⟨.bool false, rfl, ?_⟩
    simp only [Act.put, lzA, lzB, lzC]
    refine wl_yield (o := ⟨_, _, _, _, _, _⟩) (.bool true) (yl_not (by rfl) _ _ rfl false rfl) ?_
    simp only [Act.put, lzA, lzB, lzC]
    refine wpList_nil ?_
    refine hK3 _ _ ?_
    clear hK3 K3
    refine wp_cond_true rfl ?_
    refine wp_seq_k (fun K4 hK4 => ?_)
    refine wp_region_lit ?_
    refine wl_yield (o := ⟨_, _, _, _, _, _⟩) (.string (bs ([]))) (yl_assign (by rfl) _ rfl _ rfl) ?_
    simp only [Act.put, lzA, lzB, lzC]
    refine wl_yield (o := ⟨_, _, _, _, _, _⟩) (.int .i64 1) (yl_assign (by rfl) _ rfl _ rfl) ?_
    simp only [Act.put, lzA, lzB, lzC]
    refine wpList_nil ?_
    refine hK4 _ _ ?_
    clear hK4 K4
    refine wp_ret ?_
    have hP : printR x = ([], 1) := by unfold printR; rw [hr]; rfl
    rw [hP]
    try simp only [Exit.inBlock, Exit.then]
    refine bodyPost_ret (results_tmp2 rfl _ _ _) rfl ?_
    exact ⟨rfl, below_none D⟩
  · refine wp_region_lit ?_
    refine wt_boxEx (o := ⟨_, _, _, _, _, _⟩) (by rfl) _ rfl (c) rfl (fun v1 g1 hg G1 kb => ?_)
    simp only [Act.put, lzA, lzB, lzC]
    have ge_g1 : w.heap.size ≤ g1 := Nat.le_trans D.size hg
    have six_g1 : 6 ≤ g1 := Nat.le_trans w6 ge_g1
    clear hg
    replace D := grown_below D kb
    replace HE := HE.on kb
    clear kb
    replace G1 : v1.heap[g1]? = some (.cells #[.int .i64 (c.k), .int .i64 (c.t), .bool (c.s.a), .slice c.s.p c.s.n c.s.c, .bool (c.s.d), .slice c.s.q c.s.m c.s.e, .slice c.p c.n c.c] 29 (0, 0)) := G1
    refine wl_yield (o := ⟨_, _, _, _, _, _⟩) (.string (bs ([]))) (yl_assign (by rfl) _ rfl _ rfl) ?_
    simp only [Act.put, lzA, lzB, lzC]
    refine wl_yield (o := ⟨_, _, _, _, _, _⟩) (.int .i64 0) (yl_assign (by rfl) _ rfl _ rfl) ?_
    simp only [Act.put, lzA, lzB, lzC]
    refine wpList_nil ?_
    refine hK1 _ _ ?_
    clear hK1 K1
    refine wp_seq_k (fun K2 hK2 => ?_)
    refine wp_seq_k (fun K3 hK3 => ?_)
    refine wp_region_lit ?_
    refine wl_yield (o := ⟨_, _, _, _, _, _⟩) (EC.val c) (yl_ex (by rfl) _ rfl _ 0 rfl (c := ⟨c.k, c.t, ⟨c.s.a, c.s.p, c.s.n, c.s.c, c.s.d, c.s.q, c.s.m, c.s.e⟩, c.p, c.n, c.c⟩) (fun _ h => by subst h; exact ⟨cell_heap G1 0, cell_heap G1 1, cell_heap G1 2, cell_heap G1 3, cell_heap G1 4, cell_heap G1 5, cell_heap G1 6⟩)) ?_
    simp only [Act.put, lzA, lzB, lzC]
    refine wt_call (o := ⟨_, _, _, _, _, _⟩) (by rfl) 23 _ _ rfl #[EC.val c] rfl (run_call Tryz.func23 (by kernel_rfl) (by kernel_rfl)) ?_
    refine ((hr ▸ c_right (hx.on (below_none D)) hn1)).mono ?_
    rintro r v2 ⟨rfl, kb⟩
    replace D := grown_below D kb
    replace HE := HE.on kb
    replace G1 := heap_on G1 kb
    clear kb
    refine Or.inl ⟨.bool true, rfl, ?_⟩
    simp only [Act.put, lzA, lzB, lzC]
    refine wl_yield (o := ⟨_, _, _, _, _, _⟩) (.bool false) (yl_not (by rfl) _ _ rfl true rfl) ?_
    simp only [Act.put, lzA, lzB, lzC]
    refine wpList_nil ?_
    refine hK3 _ _ ?_
    clear hK3 K3
    refine wp_cond_false rfl ?_
    refine wp_skip ?_
    refine hK2 _ _ ?_
    clear hK2 K2
    refine wp_seq_k (fun K4 hK4 => ?_)
    refine wp_region_lit ?_
    refine wt_allocNm (o := ⟨_, _, _, _, _, _⟩) (by rfl) rfl (fun v3 g3 hg HNM kb => ?_)
    simp only [Act.put, lzA, lzB, lzC]
    have n_g1_g3 : g1 ≠ g3 := by have := lt_heap G1; omega
    have ge_g3 : w.heap.size ≤ g3 := Nat.le_trans D.size hg
    have six_g3 : 6 ≤ g3 := Nat.le_trans w6 ge_g3
    clear hg
    replace D := grown_below D kb
    replace HE := HE.on kb
    replace G1 := heap_on G1 kb
    clear kb
    refine wl_yield (o := ⟨_, _, _, _, _, _⟩) (EC.val c) (yl_ex (by rfl) _ rfl _ 0 rfl (c := ⟨c.k, c.t, ⟨c.s.a, c.s.p, c.s.n, c.s.c, c.s.d, c.s.q, c.s.m, c.s.e⟩, c.p, c.n, c.c⟩) (fun _ h => by subst h; exact ⟨cell_heap G1 0, cell_heap G1 1, cell_heap G1 2, cell_heap G1 3, cell_heap G1 4, cell_heap G1 5, cell_heap G1 6⟩)) ?_
    simp only [Act.put, lzA, lzB, lzC]
    refine wt_call (o := ⟨_, _, _, _, _, _⟩) (by rfl) 24 _ _ rfl #[.pointer (some ⟨g3, 0, none⟩), EC.val c] rfl (run_call Tryz.func24 (by kernel_rfl) (by kernel_rfl)) ?_
    refine (exprText_all g3 w w6 8 c x _ (hx8 hr) (rightX_each hr) (by have := hts hr; omega) D ge_g3 ⟨HE, six_g3, HNM⟩).mono ?_
    rintro r v4 (⟨rfl, hr2, kg⟩)
    · replace D := gr_new D ge_g3 kg
      replace HE := Env.gr HE kg six_g3
      replace G1 := heap_gr G1 kg n_g1_g3
      clear kg
      refine Or.inl ⟨.string (bs (exTxt 8 x)), rfl, ?_⟩
      simp only [Act.put, lzA, lzB, lzC]
      refine wl_yield (o := ⟨_, _, _, _, _, _⟩) (.string (bs (exTxt 8 x))) (yl_assign (by rfl) _ rfl _ rfl) ?_
      simp only [Act.put, lzA, lzB, lzC]
      refine wpList_nil ?_
      refine hK4 _ _ ?_
      clear hK4 K4
      refine wp_seq_k (fun K5 hK5 => ?_)
      refine wp_seq_k (fun K6 hK6 => ?_)
      refine wp_region_lit ?_
      refine wl_yield (o := ⟨_, _, _, _, _, _⟩) (.string (bs (exTxt 8 x))) (yl_move (by rfl) _ rfl _ rfl) ?_
      simp only [Act.put, lzA, lzB, lzC]
      refine wl_yield (o := ⟨_, _, _, _, _, _⟩) (.int .i64 ((exTxt 8 x).length : Nat)) (yt_lenS (by rfl) _ rfl (exTxt 8 x) rfl) ?_
      simp only [Act.put, lzA, lzB, lzC]
      refine wl_yield (o := ⟨_, _, _, _, _, _⟩) (.bool (decide ((1024 : Int) < (((exTxt 8 x).length : Nat) : Int)))) (yt_gtrI (by rfl) _ _ _ rfl ((((exTxt 8 x).length : Nat) : Int)) 1024 (decide ((1024 : Int) < (((exTxt 8 x).length : Nat) : Int))) rfl rfl (rfl)) ?_
      simp only [Act.put, lzA, lzB, lzC]
      refine wpList_nil ?_
      refine hK6 _ _ ?_
      clear hK6 K6
      refine wp_cond_split (t := (decide ((1024 : Int) < (((exTxt 8 x).length : Nat) : Int)))) rfl (fun hc => ?_) (fun hc => ?_)
      · refine wp_seq_k (fun K7 hK7 => ?_)
        refine wp_region_lit ?_
        refine wl_yield (o := ⟨_, _, _, _, _, _⟩) (.string (bs ([]))) (yl_assign (by rfl) _ rfl _ rfl) ?_
        simp only [Act.put, lzA, lzB, lzC]
        refine wl_yield (o := ⟨_, _, _, _, _, _⟩) (.int .i64 9) (yl_assign (by rfl) _ rfl _ rfl) ?_
        simp only [Act.put, lzA, lzB, lzC]
        refine wpList_nil ?_
        refine hK7 _ _ ?_
        clear hK7 K7
        refine wp_ret ?_
        have hP : printR x = ([], 9) := by unfold printR; rw [hr, if_pos rfl, if_neg (by have := of_decide_eq_true hc; omega)]
        rw [hP]
        try simp only [Exit.inBlock, Exit.then]
        refine bodyPost_ret (results_tmp2 rfl _ _ _) rfl ?_
        exact ⟨rfl, below_none D⟩
      · refine wp_skip ?_
        refine hK5 _ _ ?_
        clear hK5 K5
        refine wp_seq_k (fun K7 hK7 => ?_)
        refine wp_region_lit ?_
        refine wl_yield (o := ⟨_, _, _, _, _, _⟩) (.string (bs (exTxt 8 x))) (yl_move (by rfl) _ rfl _ rfl) ?_
        simp only [Act.put, lzA, lzB, lzC]
        refine wl_yield (o := ⟨_, _, _, _, _, _⟩) (.string (bs (exTxt 8 x))) (yl_assign (by rfl) _ rfl _ rfl) ?_
        simp only [Act.put, lzA, lzB, lzC]
        refine wl_yield (o := ⟨_, _, _, _, _, _⟩) (.int .i64 0) (yl_assign (by rfl) _ rfl _ rfl) ?_
        simp only [Act.put, lzA, lzB, lzC]
        refine wpList_nil ?_
        refine hK7 _ _ ?_
        clear hK7 K7
        refine wp_ret ?_
        have hP : printR x = (exTxt 8 x, 0) := by unfold printR; rw [hr, if_pos rfl, if_pos (by have := of_decide_eq_false hc; omega)]
        rw [hP]
        try simp only [Exit.inBlock, Exit.then]
        refine bodyPost_ret (results_tmp2 rfl _ _ _) rfl ?_
        exact ⟨rfl, below_none D⟩
end Go.Proofs.YtlmdcaemjaldfaaGreatDoor
namespace Go.Proofs.YtlmdcaemjaldfaaGreatDoor
open Go.RowKit
def evIdx (e : EvV) (k : Nat) : List Nat := ([0, 1, 2, 3].take k).filter fun i => decide (¬ (e.get i).1 = 0)
def evI (e : EvV) (k : Nat) : List ByteArray := (evIdx e k).map fun i => bs (evItem e i)
theorem evI_step (e : EvV) (k : Nat) (hk : k < 4) : evI e (k + 1) = if (e.get k).1 = 0 then evI e k else evI e k ++ [bs (evItem e k)] := by
  have h : ([0, 1, 2, 3] : List Nat).take (k + 1) = ([0, 1, 2, 3] : List Nat).take k ++ [k] := by
    match k, hk with
    | 0, _ => rfl
    | 1, _ => rfl
    | 2, _ => rfl
    | 3, _ => rfl
  unfold evI evIdx
  rw [h, List.filter_append, List.map_append]
  by_cases h0 : (e.get k).1 = 0
  · rw [if_pos h0]; simp [h0]
  · rw [if_neg h0]; simp [h0]
theorem evI_all (e : EvV) : (evI e 4).map (·.data.toList) = (evItems e).map (evItem e) := by
  unfold evI evIdx evItems
  rw [List.map_map]
  exact List.map_congr_left fun i _ => bs_list _
theorem evI_len (e : EvV) (k : Nat) : (evI e k).length ≤ 4 := by
  unfold evI evIdx
  rw [List.length_map]
  have := List.length_filter_le (fun i => decide (¬ (e.get i).1 = 0)) (([0, 1, 2, 3] : List Nat).take k)
  rw [List.length_take] at this
  simp at this
  simp
  omega
theorem vaTxt_right {v : Va} (h : rightB v.1 v.2.1 v.2.2 = true) : textL v.1 v.2.1 v.2.2 = vaTxt v := by
  unfold textL vaTxt
  rw [if_pos h]
theorem va_small {v : Va} (h : rightB v.1 v.2.1 v.2.2 = true) (h0 : -9223372036854775808 ≤ v.2.1) (h1 : v.2.1 ≤ 9223372036854775807) : (vaTxt v).length ≤ 26 := by
  unfold vaTxt
  split
  · have := itoa_le v.2.1 h0 h1; omega
  · split
    · rename_i k
      have h8 : v.2.2.size ≤ 8 := right_small h
      have := qBytes_len v.2.2.data.toList
      rw [← Lib.size_eq] at this
      show (39 :: (qBytes v.2.2.data.toList ++ [39])).length ≤ 26
      simp only [List.length_cons, List.length_append, List.length_nil]
      omega
    · show 1 ≤ 26
      omega
theorem rightE_get {e : EvV} (h : rightE e = true) (k : Nat) (hk : k < 4) : rightB (e.get k).1 (e.get k).2.1 (e.get k).2.2 = true := by
  unfold rightE at h
  exact (all4_iff _).1 h k hk
theorem evItem_le {e : EvV} (h : rightE e = true) (hi : inE e) (k : Nat) (hk : k < 4) : (evItem e k).length ≤ 28 := by
  have := va_small (rightE_get h k hk) (hi k hk).1 (hi k hk).2
  unfold evItem
  rw [List.length_append, List.length_cons, name1]
  omega
theorem evTxt_le {e : EvV} (h : rightE e = true) (hi : inE e) : (joinL ((evItems e).map (evItem e))).length ≤ 116 := by
  have h1 := joinL_le (evItem e) 28 (evItems e) fun i hm => by
    have : i ∈ ([0, 1, 2, 3] : List Nat) := (List.mem_filter.1 hm).1
    exact evItem_le h hi i (by simp at this; omega)
  have h2 : (evItems e).length ≤ 4 := List.length_filter_le _ _
  omega
theorem c_textV (v : Va) (w : World) (hE : Env w) (h : rightB v.1 v.2.1 v.2.2 = true) (h0 : -9223372036854775808 ≤ v.2.1) (h1 : v.2.1 ≤ 9223372036854775807) (hs : v.2.2.size ≤ maxLen) : Calls Tryz.prog 32 #[vVal v] w fun e w' => e = .returned (.string (bs (vaTxt v))) ∧ Below w.heap.size w w' := by
  have := text_any v.1 v.2.1 v.2.2 w hE h0 h1 hs
  rw [vaTxt_right h] at this
  exact this
theorem ev_at0 (e : EvV) (w : World) : (Instr.index 42 (.agg #[.int .i64 e.v0.1, .int .i64 e.v0.2.1, .string e.v0.2.2, .int .i64 e.v1.1, .int .i64 e.v1.2.1, .string e.v1.2.2, .int .i64 e.v2.1, .int .i64 e.v2.2.1, .string e.v2.2.2, .int .i64 e.v3.1, .int .i64 e.v3.2.1, .string e.v3.2.2]) (.int .i64 0)).run Tryz.prog w = .ok (.agg #[.int .i64 e.v0.1, .int .i64 e.v0.2.1, .string e.v0.2.2]) w := by kernel_rfl
theorem ev_at1 (e : EvV) (w : World) : (Instr.index 42 (.agg #[.int .i64 e.v0.1, .int .i64 e.v0.2.1, .string e.v0.2.2, .int .i64 e.v1.1, .int .i64 e.v1.2.1, .string e.v1.2.2, .int .i64 e.v2.1, .int .i64 e.v2.2.1, .string e.v2.2.2, .int .i64 e.v3.1, .int .i64 e.v3.2.1, .string e.v3.2.2]) (.int .i64 1)).run Tryz.prog w = .ok (.agg #[.int .i64 e.v1.1, .int .i64 e.v1.2.1, .string e.v1.2.2]) w := by kernel_rfl
theorem ev_at2 (e : EvV) (w : World) : (Instr.index 42 (.agg #[.int .i64 e.v0.1, .int .i64 e.v0.2.1, .string e.v0.2.2, .int .i64 e.v1.1, .int .i64 e.v1.2.1, .string e.v1.2.2, .int .i64 e.v2.1, .int .i64 e.v2.2.1, .string e.v2.2.2, .int .i64 e.v3.1, .int .i64 e.v3.2.1, .string e.v3.2.2]) (.int .i64 2)).run Tryz.prog w = .ok (.agg #[.int .i64 e.v2.1, .int .i64 e.v2.2.1, .string e.v2.2.2]) w := by kernel_rfl
theorem ev_at3 (e : EvV) (w : World) : (Instr.index 42 (.agg #[.int .i64 e.v0.1, .int .i64 e.v0.2.1, .string e.v0.2.2, .int .i64 e.v1.1, .int .i64 e.v1.2.1, .string e.v1.2.2, .int .i64 e.v2.1, .int .i64 e.v2.2.1, .string e.v2.2.2, .int .i64 e.v3.1, .int .i64 e.v3.2.1, .string e.v3.2.2]) (.int .i64 3)).run Tryz.prog w = .ok (.agg #[.int .i64 e.v3.1, .int .i64 e.v3.2.1, .string e.v3.2.2]) w := by kernel_rfl
section
variable {ops : Array Oper} {S : World → Prop} {o : Oper} {a : Act}
set_option maxRecDepth 100000 in
theorem yt_evIdx (hw : Region.wanted o (yielded ops a.tmps) = true) (x y : Operand) (ho : o.op = .index 42 x y) (e : EvV) (k : Nat) (hx : a.eval x = evVal e) (hy : a.eval y = .int .i64 k) (hk : k < 4) : YieldsIf Tryz.prog ops S o (vVal (e.get k)) a := by
  match k, hk with
  | 0, _ => exact Or.inl ⟨hw, fun w hS => by
      have h1 := ev_at0 e w
      simp only [execOp, ho, hx, hy, evVal, vVal, EvV.get]
      first
        | (rw [show ((0 : Nat) : Int) = 0 from rfl]; simp only [Sem.run_bind, h1, Result.andThen_ok, Sem.run_pure])
        | (simp only [Nat.cast_ofNat, Nat.cast_zero, Nat.cast_one, Int.ofNat_eq_natCast, Sem.run_bind, h1, Result.andThen_ok, Sem.run_pure])⟩
  | 1, _ => exact Or.inl ⟨hw, fun w hS => by
      have h1 := ev_at1 e w
      simp only [execOp, ho, hx, hy, evVal, vVal, EvV.get]
      first
        | (rw [show ((1 : Nat) : Int) = 1 from rfl]; simp only [Sem.run_bind, h1, Result.andThen_ok, Sem.run_pure])
        | (simp only [Nat.cast_ofNat, Nat.cast_zero, Nat.cast_one, Int.ofNat_eq_natCast, Sem.run_bind, h1, Result.andThen_ok, Sem.run_pure])⟩
  | 2, _ => exact Or.inl ⟨hw, fun w hS => by
      have h1 := ev_at2 e w
      simp only [execOp, ho, hx, hy, evVal, vVal, EvV.get]
      first
        | (rw [show ((2 : Nat) : Int) = 2 from rfl]; simp only [Sem.run_bind, h1, Result.andThen_ok, Sem.run_pure])
        | (simp only [Nat.cast_ofNat, Nat.cast_zero, Nat.cast_one, Int.ofNat_eq_natCast, Sem.run_bind, h1, Result.andThen_ok, Sem.run_pure])⟩
  | 3, _ => exact Or.inl ⟨hw, fun w hS => by
      have h1 := ev_at3 e w
      simp only [execOp, ho, hx, hy, evVal, vVal, EvV.get]
      first
        | (rw [show ((3 : Nat) : Int) = 3 from rfl]; simp only [Sem.run_bind, h1, Result.andThen_ok, Sem.run_pure])
        | (simp only [Nat.cast_ofNat, Nat.cast_zero, Nat.cast_one, Int.ofNat_eq_natCast, Sem.run_bind, h1, Result.andThen_ok, Sem.run_pure])⟩
end
def evR (e : EvV) : List UInt8 × Int := if rightE e = true then (evTxt e, 0) else ([], 1)
theorem nm_on {w w' : World} {b : Nat} (h : NamesAt w b) (hb : Below w.heap.size w w') : NamesAt w' b := by
  rcases h with h | h
  · exact Or.inl (heap_on h hb)
  · exact Or.inr (heap_on h hb)
theorem nm_gr {w w' : World} {b g : Nat} (h : NamesAt w b) (k : w.grownBy w' (some g)) (hn : b ≠ g) : NamesAt w' b := by
  rcases h with h | h
  · exact Or.inl (heap_gr h k hn)
  · exact Or.inr (heap_gr h k hn)
theorem nm_row {w w' : World} {b B : Nat} {e : TypeId} {size n : Nat} {v : Value} {xs : List Value} (h : NamesAt w b) (ho : w.ownsRow B e size v n xs) (k : w.grownBy w' v.ownBlock) (hne : 82 ≠ e) : NamesAt w' b := by
  rcases h with h | h
  · exact Or.inl (heap_gro h k (own_ne ho h hne))
  · exact Or.inr (heap_gro h k (own_ne ho h hne))
theorem row_gr_nm {w w' : World} {B : Nat} {e : TypeId} {size n b : Nat} {v : Value} {xs : List Value} (ho : w.ownsRow B e size v n xs) (k : w.grownBy w' (some b)) (h : NamesAt w b) (hne : 82 ≠ e) : w'.ownsRow B e size v n xs := by
  rcases h with hg | hg
  · exact row_gr_heap ho k hg hne
  · exact row_gr_heap ho k hg hne
theorem nm_lt {w : World} {b : Nat} (h : NamesAt w b) : b < w.heap.size := by rcases h with h | h <;> exact lt_heap h
set_option maxHeartbeats 1000000 in
set_option maxRecDepth 100000 in
theorem eventText_any (e0 : EvV) (w : World) (HE : Env w) (hf : evFit e0) (hi : inE e0) :
    Calls Tryz.prog 12 #[evVal e0] w fun e w' => e = .returned (.tuple #[.string (bs (evR e0).1), .int .i64 (evR e0).2]) ∧ Below w.heap.size w w' := by
  have w6 : 6 ≤ w.heap.size := HE.big
  have D : w.grownBy w none := grown_refl _ _
  go_enter Tryz.func12, Tryz.ntmps12
  refine wp_seq_k (fun K1 hK1 => ?_)
  cases hr : rightE e0
  · refine wp_region_lit ?_
    refine wt_boxEv (o := ⟨_, _, _, _, _, _⟩) (by rfl) _ rfl (e0) rfl (fun v1 g1 hg G1 kb => ?_)
    simp only [Act.put, lzA, lzB, lzC]
    have ge_g1 : w.heap.size ≤ g1 := Nat.le_trans D.size hg
    have six_g1 : 6 ≤ g1 := Nat.le_trans w6 ge_g1
    clear hg
    replace D := grown_below D kb
    replace HE := HE.on kb
    clear kb
    replace G1 : v1.heap[g1]? = some (.cells #[.int .i64 (e0.v0.1), .int .i64 (e0.v0.2.1), .string e0.v0.2.2, .int .i64 (e0.v1.1), .int .i64 (e0.v1.2.1), .string e0.v1.2.2, .int .i64 (e0.v2.1), .int .i64 (e0.v2.2.1), .string e0.v2.2.2, .int .i64 (e0.v3.1), .int .i64 (e0.v3.2.1), .string e0.v3.2.2] 42 (0, 0)) := G1
    refine wl_yield (o := ⟨_, _, _, _, _, _⟩) (.string (bs ([]))) (yl_assign (by rfl) _ rfl _ rfl) ?_
    simp only [Act.put, lzA, lzB, lzC]
    refine wl_yield (o := ⟨_, _, _, _, _, _⟩) (.int .i64 0) (yl_assign (by rfl) _ rfl _ rfl) ?_
    simp only [Act.put, lzA, lzB, lzC]
    refine wpList_nil ?_
    refine hK1 _ _ ?_
    clear hK1 K1
    refine wp_seq_k (fun K2 hK2 => ?_)
    refine wp_seq_k (fun K3 hK3 => ?_)
    refine wp_region_lit ?_
    refine wl_yield (o := ⟨_, _, _, _, _, _⟩) (evVal e0) (yl_ev (by rfl) _ rfl _ 0 rfl _ _ _ _ _ _ _ _ _ _ _ _ (fun _ h => by subst h; exact ⟨cell_heap G1 0, cell_heap G1 1, cell_heap G1 2, cell_heap G1 3, cell_heap G1 4, cell_heap G1 5, cell_heap G1 6, cell_heap G1 7, cell_heap G1 8, cell_heap G1 9, cell_heap G1 10, cell_heap G1 11⟩)) ?_
    simp only [Act.put, lzA, lzB, lzC]
    refine wt_call (o := ⟨_, _, _, _, _, _⟩) (by rfl) 30 _ _ rfl #[evVal e0] rfl (run_call Tryz.func30 (by kernel_rfl) (by kernel_rfl)) ?_
    refine ((hr ▸ event_any e0 _ hf)).mono ?_
    rintro r v2 ⟨rfl, kb⟩
    replace D := grown_below D kb
    replace HE := HE.on kb
    replace G1 := heap_on G1 kb
    clear kb
    refine Or.inl ⟨.bool false, rfl, ?_⟩
    simp only [Act.put, lzA, lzB, lzC]
    refine wl_yield (o := ⟨_, _, _, _, _, _⟩) (.bool true) (yl_not (by rfl) _ _ rfl false rfl) ?_
    simp only [Act.put, lzA, lzB, lzC]
    refine wpList_nil ?_
    refine hK3 _ _ ?_
    clear hK3 K3
    refine wp_cond_true rfl ?_
    refine wp_seq_k (fun K4 hK4 => ?_)
    refine wp_region_lit ?_
    refine wl_yield (o := ⟨_, _, _, _, _, _⟩) (.string (bs ([]))) (yl_assign (by rfl) _ rfl _ rfl) ?_
    simp only [Act.put, lzA, lzB, lzC]
    refine wl_yield (o := ⟨_, _, _, _, _, _⟩) (.int .i64 1) (yl_assign (by rfl) _ rfl _ rfl) ?_
    simp only [Act.put, lzA, lzB, lzC]
    refine wpList_nil ?_
    refine hK4 _ _ ?_
    clear hK4 K4
    refine wp_ret ?_
    have hP : evR e0 = ([], 1) := by unfold evR; rw [hr]; rfl
    rw [hP]
    try simp only [Exit.inBlock, Exit.then]
    refine bodyPost_ret (results_tmp2 rfl _ _ _) rfl ?_
    exact ⟨rfl, below_none D⟩
  · refine wp_region_lit ?_
    refine wt_boxEv (o := ⟨_, _, _, _, _, _⟩) (by rfl) _ rfl (e0) rfl (fun v1 g1 hg G1 kb => ?_)
    simp only [Act.put, lzA, lzB, lzC]
    have ge_g1 : w.heap.size ≤ g1 := Nat.le_trans D.size hg
    have six_g1 : 6 ≤ g1 := Nat.le_trans w6 ge_g1
    clear hg
    replace D := grown_below D kb
    replace HE := HE.on kb
    clear kb
    replace G1 : v1.heap[g1]? = some (.cells #[.int .i64 (e0.v0.1), .int .i64 (e0.v0.2.1), .string e0.v0.2.2, .int .i64 (e0.v1.1), .int .i64 (e0.v1.2.1), .string e0.v1.2.2, .int .i64 (e0.v2.1), .int .i64 (e0.v2.2.1), .string e0.v2.2.2, .int .i64 (e0.v3.1), .int .i64 (e0.v3.2.1), .string e0.v3.2.2] 42 (0, 0)) := G1
    refine wl_yield (o := ⟨_, _, _, _, _, _⟩) (.string (bs ([]))) (yl_assign (by rfl) _ rfl _ rfl) ?_
    simp only [Act.put, lzA, lzB, lzC]
    refine wl_yield (o := ⟨_, _, _, _, _, _⟩) (.int .i64 0) (yl_assign (by rfl) _ rfl _ rfl) ?_
    simp only [Act.put, lzA, lzB, lzC]
    refine wpList_nil ?_
    refine hK1 _ _ ?_
    clear hK1 K1
    refine wp_seq_k (fun K2 hK2 => ?_)
    refine wp_seq_k (fun K3 hK3 => ?_)
    refine wp_region_lit ?_
    refine wl_yield (o := ⟨_, _, _, _, _, _⟩) (evVal e0) (yl_ev (by rfl) _ rfl _ 0 rfl _ _ _ _ _ _ _ _ _ _ _ _ (fun _ h => by subst h; exact ⟨cell_heap G1 0, cell_heap G1 1, cell_heap G1 2, cell_heap G1 3, cell_heap G1 4, cell_heap G1 5, cell_heap G1 6, cell_heap G1 7, cell_heap G1 8, cell_heap G1 9, cell_heap G1 10, cell_heap G1 11⟩)) ?_
    simp only [Act.put, lzA, lzB, lzC]
    refine wt_call (o := ⟨_, _, _, _, _, _⟩) (by rfl) 30 _ _ rfl #[evVal e0] rfl (run_call Tryz.func30 (by kernel_rfl) (by kernel_rfl)) ?_
    refine ((hr ▸ event_any e0 _ hf)).mono ?_
    rintro r v2 ⟨rfl, kb⟩
    replace D := grown_below D kb
    replace HE := HE.on kb
    replace G1 := heap_on G1 kb
    clear kb
    refine Or.inl ⟨.bool true, rfl, ?_⟩
    simp only [Act.put, lzA, lzB, lzC]
    refine wl_yield (o := ⟨_, _, _, _, _, _⟩) (.bool false) (yl_not (by rfl) _ _ rfl true rfl) ?_
    simp only [Act.put, lzA, lzB, lzC]
    refine wpList_nil ?_
    refine hK3 _ _ ?_
    clear hK3 K3
    refine wp_cond_false rfl ?_
    refine wp_skip ?_
    refine hK2 _ _ ?_
    clear hK2 K2
    refine wp_seq_k (fun K4 hK4 => ?_)
    refine wp_region_lit ?_
    refine wt_allocNm (o := ⟨_, _, _, _, _, _⟩) (by rfl) rfl (fun v3 g3 hg HNM kb => ?_)
    simp only [Act.put, lzA, lzB, lzC]
    have n_g1_g3 : g1 ≠ g3 := by have := lt_heap G1; omega
    have ge_g3 : w.heap.size ≤ g3 := Nat.le_trans D.size hg
    have six_g3 : 6 ≤ g3 := Nat.le_trans w6 ge_g3
    clear hg
    replace D := grown_below D kb
    replace HE := HE.on kb
    replace G1 := heap_on G1 kb
    clear kb
    refine wl_yield (o := ⟨_, _, _, _, _, _⟩) (.pointer (some ⟨g3, 0, none⟩)) (yl_assign (by rfl) _ rfl _ rfl) ?_
    simp only [Act.put, lzA, lzB, lzC]
    refine wpList_nil ?_
    refine hK4 _ _ ?_
    clear hK4 K4
    refine wp_seq_k (fun K5 hK5 => ?_)
    refine wp_region_lit ?_
    refine wl_yield (o := ⟨_, _, _, _, _, _⟩) (.slice none 0 0) (yl_assign (by rfl) _ rfl _ rfl) ?_
    simp only [Act.put, lzA, lzB, lzC]
    refine wpList_nil ?_
    refine hK5 _ _ ?_
    clear hK5 K5
    refine wp_seq_k (fun K6 hK6 => ?_)
    refine wp_seq_k (fun K7 hK7 => ?_)
    refine wp_region_lit ?_
    refine wl_yield (o := ⟨_, _, _, _, _, _⟩) (evVal e0) (yl_ev (by rfl) _ rfl _ 0 rfl _ _ _ _ _ _ _ _ _ _ _ _ (fun _ h => by subst h; exact ⟨cell_heap G1 0, cell_heap G1 1, cell_heap G1 2, cell_heap G1 3, cell_heap G1 4, cell_heap G1 5, cell_heap G1 6, cell_heap G1 7, cell_heap G1 8, cell_heap G1 9, cell_heap G1 10, cell_heap G1 11⟩)) ?_
    simp only [Act.put, lzA, lzB, lzC]
    refine wl_yield (o := ⟨_, _, _, _, _, _⟩) (.int .i64 0) (yl_move (by rfl) _ rfl _ rfl) ?_
    simp only [Act.put, lzA, lzB, lzC]
    refine wpList_nil ?_
    refine hK7 _ _ ?_
    clear hK7 K7
    refine wp_block ?_
    have RP : RowS v3 w.heap.size (.slice none (evI e0 0).length 0) (evI e0 0) := RowS.nil _ _
    go_loopw [5, 13] (fun x i wr => ∃ (k : Nat) (q : Option Addr) (cq : Nat), i = .int .i64 k ∧ k ≤ 4 ∧ x = .slice q (evI e0 k).length cq ∧ RowS wr w.heap.size (.slice q (evI e0 k).length cq) (evI e0 k) ∧ Env wr ∧ NamesAt wr g3 ∧ w.grownBy wr none) (fun _ i _ => 4 - (intOf i).toNat)
    case atStart => exact ⟨0, none, 0, rfl, by omega, rfl, RP, HE, HNM, D⟩
    case round =>
      clear D HE HNM RP G1
      obtain ⟨k, q, cq, rfl, hk, rfl, RP, HE, HNM, D⟩ := hrel
      by_cases hlt : k < 4
      · refine wp_seq_k (fun K8 hK8 => ?_)
        refine wp_region_lit ?_
        refine wl_yield (o := ⟨_, _, _, _, _, _⟩) (.bool true) (yt_lssI (by rfl) _ _ _ rfl (((k : Nat) : Int)) 4 true rfl rfl (decide_eq_true (by omega))) ?_
        simp only [Act.put, lzA, lzB, lzC]
        refine wpList_nil ?_
        refine hK8 _ _ ?_
        clear hK8 K8
        refine wp_seq_k (fun K9 hK9 => ?_)
        refine wp_cond_true rfl ?_
        refine wp_skip ?_
        refine hK9 _ _ ?_
        clear hK9 K9
        refine wp_seq_k (fun K10 hK10 => ?_)
        refine wp_block ?_
        refine wp_seq_k (fun K11 hK11 => ?_)
        by_cases h0 : (e0.get k).1 = 0
        · refine wp_region_lit ?_
          refine wl_yield (o := ⟨_, _, _, _, _, _⟩) (.int .i64 (k : Nat)) (yl_move (by rfl) _ rfl _ rfl) ?_
          simp only [Act.put, lzA, lzB, lzC]
          refine wl_yield (o := ⟨_, _, _, _, _, _⟩) (vVal ((e0.get k))) (yt_evIdx (by rfl) _ _ rfl e0 k rfl rfl hlt) ?_
          simp only [Act.put, lzA, lzB, lzC]
          refine wt_allocVa (o := ⟨_, _, _, _, _, _⟩) (by rfl) rfl (fun v4 g4 hg G4 kb => ?_)
          simp only [Act.put, lzA, lzB, lzC]
          have n_g3_g4 : g3 ≠ g4 := by have := nm_lt HNM; omega
          have ge_g4 : w.heap.size ≤ g4 := Nat.le_trans D.size hg
          have six_g4 : 6 ≤ g4 := Nat.le_trans w6 ge_g4
          clear hg
          replace D := grown_below D kb
          replace RP := ownsRow_on RP kb
          replace HE := HE.on kb
          replace HNM := nm_on HNM kb
          clear kb
          replace G4 : v4.heap[g4]? = some (.cells #[.int .i64 0, .int .i64 0, .string (bs ([]))] 40 (0, 0)) := G4
          refine wl_yield (o := ⟨_, _, _, _, _, _⟩) (.int .i64 (k : Nat)) (yl_assign (by rfl) _ rfl _ rfl) ?_
          simp only [Act.put, lzA, lzB, lzC]
          refine wt_putVa (o := ⟨_, _, _, _, _, _⟩) rfl _ _ rfl _ rfl ((e0.get k)) rfl G4 rfl (fun v5 X kg => ?_)
          simp only [Act.put, lzA, lzB, lzC]
          replace RP := row_gr_heap RP kg G4 (by decide)
          replace D := gr_new D ge_g4 kg
          replace HE := Env.gr HE kg six_g4
          replace HNM := nm_gr HNM kg n_g3_g4
          clear kg
          replace G4 : v5.heap[g4]? = some (.cells #[.int .i64 (((e0.get k)).1), .int .i64 (((e0.get k)).2.1), .string ((e0.get k)).2.2] 40 (0, 0)) := X
          clear X
          refine wpList_nil ?_
          refine hK11 _ _ ?_
          clear hK11 K11
          refine wp_seq_k (fun K12 hK12 => ?_)
          refine wp_region_lit ?_
          refine wl_yield (o := ⟨_, _, _, _, _, _⟩) (.pointer (some ⟨g4, 0, none⟩)) (yt_fVa0 (by rfl) _ rfl g4 0 rfl) ?_
          simp only [Act.put, lzA, lzB, lzC]
          refine wl_yield (o := ⟨_, _, _, _, _, _⟩) (.int .i64 (((e0.get k)).1)) (yt_ldI (by rfl) _ rfl _ _ rfl (((e0.get k)).1) (fun _ h => by subst h; exact cell_heap G4 0)) ?_
          simp only [Act.put, lzA, lzB, lzC]
          refine wl_yield (o := ⟨_, _, _, _, _, _⟩) (.bool false) (yt_neqI (by rfl) _ _ _ rfl (((e0.get k)).1) 0 false rfl rfl (decide_eq_false (by omega))) ?_
          simp only [Act.put, lzA, lzB, lzC]
          refine wpList_nil ?_
          refine hK12 _ _ ?_
          clear hK12 K12
          refine wp_cond_false rfl ?_
          refine wp_skip ?_
          refine hK10 _ _ ?_
          clear hK10 K10
          refine wp_region_lit ?_
          refine wl_yield (o := ⟨_, _, _, _, _, _⟩) (.int .i64 (k + 1 : Nat)) (yt_addI (by rfl) _ _ _ rfl (((k : Nat) : Int)) 1 (((k + 1 : Nat) : Int)) rfl rfl (by omega) (by omega) (by omega)) ?_
          simp only [Act.put, lzA, lzB, lzC]
          refine wl_yield (o := ⟨_, _, _, _, _, _⟩) (.int .i64 (k + 1 : Nat)) (yl_move (by rfl) _ rfl _ rfl) ?_
          simp only [Act.put, lzA, lzB, lzC]
          refine wpList_nil ?_
          show _ ∧ _
          go_roundw
          case rel =>
            refine ⟨k + 1, q, cq, rfl, by omega, ?_, ?_, HE, HNM, D⟩
            · rw [evI_step e0 k hlt, if_pos h0]; try rfl
            · rw [evI_step e0 k hlt, if_pos h0]; exact RP
          case measure => simp [intOf]; omega
        · refine wp_region_lit ?_
          refine wl_yield (o := ⟨_, _, _, _, _, _⟩) (.int .i64 (k : Nat)) (yl_move (by rfl) _ rfl _ rfl) ?_
          simp only [Act.put, lzA, lzB, lzC]
          refine wl_yield (o := ⟨_, _, _, _, _, _⟩) (vVal ((e0.get k))) (yt_evIdx (by rfl) _ _ rfl e0 k rfl rfl hlt) ?_
          simp only [Act.put, lzA, lzB, lzC]
          refine wt_allocVa (o := ⟨_, _, _, _, _, _⟩) (by rfl) rfl (fun v4 g4 hg G4 kb => ?_)
          simp only [Act.put, lzA, lzB, lzC]
          have n_g3_g4 : g3 ≠ g4 := by have := nm_lt HNM; omega
          have ge_g4 : w.heap.size ≤ g4 := Nat.le_trans D.size hg
          have six_g4 : 6 ≤ g4 := Nat.le_trans w6 ge_g4
          clear hg
          replace D := grown_below D kb
          replace RP := ownsRow_on RP kb
          replace HE := HE.on kb
          replace HNM := nm_on HNM kb
          clear kb
          replace G4 : v4.heap[g4]? = some (.cells #[.int .i64 0, .int .i64 0, .string (bs ([]))] 40 (0, 0)) := G4
          refine wl_yield (o := ⟨_, _, _, _, _, _⟩) (.int .i64 (k : Nat)) (yl_assign (by rfl) _ rfl _ rfl) ?_
          simp only [Act.put, lzA, lzB, lzC]
          refine wt_putVa (o := ⟨_, _, _, _, _, _⟩) rfl _ _ rfl _ rfl ((e0.get k)) rfl G4 rfl (fun v5 X kg => ?_)
          simp only [Act.put, lzA, lzB, lzC]
          replace RP := row_gr_heap RP kg G4 (by decide)
          replace D := gr_new D ge_g4 kg
          replace HE := Env.gr HE kg six_g4
          replace HNM := nm_gr HNM kg n_g3_g4
          clear kg
          replace G4 : v5.heap[g4]? = some (.cells #[.int .i64 (((e0.get k)).1), .int .i64 (((e0.get k)).2.1), .string ((e0.get k)).2.2] 40 (0, 0)) := X
          clear X
          refine wpList_nil ?_
          refine hK11 _ _ ?_
          clear hK11 K11
          refine wp_seq_k (fun K12 hK12 => ?_)
          refine wp_region_lit ?_
          refine wl_yield (o := ⟨_, _, _, _, _, _⟩) (.pointer (some ⟨g4, 0, none⟩)) (yt_fVa0 (by rfl) _ rfl g4 0 rfl) ?_
          simp only [Act.put, lzA, lzB, lzC]
          refine wl_yield (o := ⟨_, _, _, _, _, _⟩) (.int .i64 (((e0.get k)).1)) (yt_ldI (by rfl) _ rfl _ _ rfl (((e0.get k)).1) (fun _ h => by subst h; exact cell_heap G4 0)) ?_
          simp only [Act.put, lzA, lzB, lzC]
          refine wl_yield (o := ⟨_, _, _, _, _, _⟩) (.bool true) (yt_neqI (by rfl) _ _ _ rfl (((e0.get k)).1) 0 true rfl rfl (decide_eq_true (by omega))) ?_
          simp only [Act.put, lzA, lzB, lzC]
          refine wpList_nil ?_
          refine hK12 _ _ ?_
          clear hK12 K12
          refine wp_cond_true rfl ?_
          refine wp_region_late (S := fun w' => w'.heap[g4]? = some (.cells #[.int .i64 (((e0.get k)).1), .int .i64 (((e0.get k)).2.1), .string ((e0.get k)).2.2] 40 (0, 0))) (late := fun j => [].contains j) (by kernel_rfl) ?_
          have kb : Below v5.heap.size v5 v5.drew := (Below.refl _ v5).drew
          replace D := grown_below D kb
          replace RP := ownsRow_on RP kb
          replace HE := HE.on kb
          replace HNM := nm_on HNM kb
          replace G4 := heap_on G4 kb
          clear kb
          generalize v5.drew = v6 at D HE HNM G4 RP ⊢
          refine wpAnyL_pure (i := 0) (oi := ⟨_, _, _, _, _, _⟩) (v := .slice q ((evI e0 k).length) cq) rfl (by kernel_rfl) (by kernel_rfl) (by kernel_rfl) (fun _ _ _ h => h) (yl_move (by rfl) _ rfl _ rfl) ?_
          simp only [Act.put, lzA, lzB, lzC]
          refine wpAnyL_pure (i := 1) (oi := ⟨_, _, _, _, _, _⟩) (v := .pointer (some ⟨g3, 0, none⟩)) rfl (by kernel_rfl) (by kernel_rfl) (by kernel_rfl) (fun _ _ _ h => h) (yl_move (by rfl) _ rfl _ rfl) ?_
          simp only [Act.put, lzA, lzB, lzC]
          refine wpAnyL_pure (i := 2) (oi := ⟨_, _, _, _, _, _⟩) (v := .int .i64 (k : Nat)) rfl (by kernel_rfl) (by kernel_rfl) (by kernel_rfl) (fun _ _ _ h => h) (yl_move (by rfl) _ rfl _ rfl) ?_
          simp only [Act.put, lzA, lzB, lzC]
          refine wpAnyL_load (i := 5) (oi := ⟨_, _, _, _, _, _⟩) (v := .agg #[.int .i64 (((e0.get k)).1), .int .i64 (((e0.get k)).2.1), .string ((e0.get k)).2.2]) rfl (by kernel_rfl) (by kernel_rfl) (by kernel_rfl) (by kernel_rfl) (fun _ _ _ h => h) (yl_val (by rfl) _ rfl _ 0 rfl _ _ _ (fun _ h => ⟨cell_heap h 0, cell_heap h 1, cell_heap h 2⟩)) G4 ?_
          simp only [Act.put, lzA, lzB, lzC]
          refine wpAnyL_all (rs := [3]) (by kernel_rfl) (by simp) ?_
          intro j hj
          have hj := List.mem_singleton.1 hj
          subst hj
          refine ot_call (o := ⟨_, _, _, _, _, _⟩) rfl (by rfl) 31 _ _ rfl #[.pointer (some ⟨g3, 0, none⟩), .int .i64 (k : Nat)] rfl (run_call Tryz.func31 (by kernel_rfl) (by kernel_rfl)) ?_
          refine (name_nm g3 (k : Nat) _ ⟨HE, six_g3, HNM⟩ (by omega) (by omega)).mono ?_
          rintro r v7 (⟨rfl, hr2, kg⟩)
          replace RP := row_gr_nm RP kg HNM (by decide)
          clear HNM
          replace D := gr_new D ge_g3 kg
          replace HE := Env.gr HE kg six_g3
          replace G4 := heap_gr G4 kg (Ne.symm n_g3_g4)
          clear kg
          have HNM := hr2
          clear hr2
          refine Or.inl ⟨.string (bs (nameL (k : Nat))), rfl, ⟨fun _ _ => G4, ?_⟩⟩
          simp only [Act.put, lzA, lzB, lzC]
          refine wpAnyL_pure (i := 4) (oi := ⟨_, _, _, _, _, _⟩) (v := .string (bs ((nameL (k : Nat)) ++ ([61])))) rfl (by kernel_rfl) (by kernel_rfl) (by kernel_rfl) (fun _ _ _ h => h) (yt_cat (by rfl) _ _ _ rfl (nameL (k : Nat)) ([61]) rfl rfl (by first | (have hz : (joinL ((evI e0 4).map (·.data.toList))).length ≤ 116 := (by rw [evI_all]; exact evTxt_le hr hi); simp only [List.length_cons, List.length_append, List.length_nil]; omega) | (simp only [List.length_cons, List.length_append, List.length_nil, name1]; have := evItem_le hr hi k hlt; have := va_small (rightE_get hr k hlt) (hi k hlt).1 (hi k hlt).2; omega))) ?_
          simp only [Act.put, lzA, lzB, lzC]
          refine wpAnyL_all (rs := [6]) (by kernel_rfl) (by simp) ?_
          intro j hj
          have hj := List.mem_singleton.1 hj
          subst hj
          refine ot_call (o := ⟨_, _, _, _, _, _⟩) rfl (by rfl) 32 _ _ rfl #[.agg #[.int .i64 (((e0.get k)).1), .int .i64 (((e0.get k)).2.1), .string ((e0.get k)).2.2]] rfl (run_call Tryz.func32 (by kernel_rfl) (by kernel_rfl)) ?_
          refine (c_textV (e0.get k) _ HE (rightE_get hr k hlt) (hi k hlt).1 (hi k hlt).2 (evFit_get hf k hlt)).mono ?_
          rintro r v8 (⟨rfl, kb⟩)
          replace D := grown_below D kb
          replace RP := ownsRow_on RP kb
          replace HE := HE.on kb
          replace G4 := heap_on G4 kb
          replace HNM := nm_on HNM kb
          clear kb
          refine Or.inl ⟨.string (bs (vaTxt (e0.get k))), rfl, ⟨fun _ _ => G4, ?_⟩⟩
          simp only [Act.put, lzA, lzB, lzC]
          refine wpAnyL_pure (i := 7) (oi := ⟨_, _, _, _, _, _⟩) (v := .string (bs (((nameL (k : Nat)) ++ ([61])) ++ (vaTxt (e0.get k))))) rfl (by kernel_rfl) (by kernel_rfl) (by kernel_rfl) (fun _ _ _ h => h) (yt_cat (by rfl) _ _ _ rfl ((nameL (k : Nat)) ++ ([61])) (vaTxt (e0.get k)) rfl rfl (by first | (have hz : (joinL ((evI e0 4).map (·.data.toList))).length ≤ 116 := (by rw [evI_all]; exact evTxt_le hr hi); simp only [List.length_cons, List.length_append, List.length_nil]; omega) | (simp only [List.length_cons, List.length_append, List.length_nil, name1]; have := evItem_le hr hi k hlt; have := va_small (rightE_get hr k hlt) (hi k hlt).1 (hi k hlt).2; omega))) ?_
          simp only [Act.put, lzA, lzB, lzC]
          refine wpAnyL_all (rs := [8]) (by kernel_rfl) (by simp) ?_
          intro j hj
          have hj := List.mem_singleton.1 hj
          subst hj
          refine ot_row1S (o := ⟨_, _, _, _, _, _⟩) rfl (by rfl) _ rfl (bs (((nameL (k : Nat)) ++ ([61])) ++ (vaTxt (e0.get k)))) rfl (fun v9 g9 hg G9 kb => ?_)
          have n_g3_g9 : g3 ≠ g9 := by have := nm_lt HNM; omega
          have n_g4_g9 : g4 ≠ g9 := by have := lt_heap G4; omega
          have ge_g9 : w.heap.size ≤ g9 := Nat.le_trans D.size hg
          have six_g9 : 6 ≤ g9 := Nat.le_trans w6 ge_g9
          clear hg
          replace D := grown_below D kb
          replace RP := ownsRow_on RP kb
          replace HE := HE.on kb
          replace G4 := heap_on G4 kb
          replace HNM := nm_on HNM kb
          clear kb
          refine ⟨fun _ _ => G4, ?_⟩
          simp only [Act.put, lzA, lzB, lzC]
          refine wpAnyL_all (rs := [9]) (by kernel_rfl) (by simp) ?_
          intro j hj
          have hj := List.mem_singleton.1 hj
          subst hj
          refine ot_appS (o := ⟨_, _, _, _, _, _⟩) rfl (by rfl) _ _ rfl w.heap.size _ (evI e0 k) rfl RP _ (bs (((nameL (k : Nat)) ++ ([61])) ++ (vaTxt (e0.get k)))) rfl G9 ((by have := evI_len e0 k; omega)) (D.size) (fun v10' v10 hrow kg hown => ?_)
          clear G9
          replace HE := Env.gro HE RP kg w6
          replace G4 := heap_gro G4 kg (own_ne RP G4 (by decide))
          replace HNM := nm_row HNM RP kg (by decide)
          replace D := gr_own D (fun g hg => Nat.le_trans (Nat.le_refl _) (World.ownsRow.lt RP g hg).1) kg
          clear kg hown
          replace RP := hrow
          clear hrow
          obtain ⟨p10, c10, rfl, -, -, -⟩ := ownsRow_form RP
          refine ⟨fun _ _ => G4, ?_⟩
          simp only [Act.put, lzA, lzB, lzC]
          refine wpAnyL_pure (i := 10) (oi := ⟨_, _, _, _, _, _⟩) (v := .slice p10 ((evI e0 k ++ [(bs (((nameL (k : Nat)) ++ ([61])) ++ (vaTxt (e0.get k))))]).length) c10) rfl (by kernel_rfl) (by kernel_rfl) (by kernel_rfl) (fun _ _ _ h => h) (yl_assign (by rfl) _ rfl _ rfl) ?_
          simp only [Act.put, lzA, lzB, lzC]
          refine wpAnyL_done (by kernel_rfl) ?_ _
          refine hK10 _ _ ?_
          clear hK10 K10
          refine wp_region_lit ?_
          refine wl_yield (o := ⟨_, _, _, _, _, _⟩) (.int .i64 (k + 1 : Nat)) (yt_addI (by rfl) _ _ _ rfl (((k : Nat) : Int)) 1 (((k + 1 : Nat) : Int)) rfl rfl (by omega) (by omega) (by omega)) ?_
          simp only [Act.put, lzA, lzB, lzC]
          refine wl_yield (o := ⟨_, _, _, _, _, _⟩) (.int .i64 (k + 1 : Nat)) (yl_move (by rfl) _ rfl _ rfl) ?_
          simp only [Act.put, lzA, lzB, lzC]
          refine wpList_nil ?_
          show _ ∧ _
          go_roundw
          case rel =>
            refine ⟨k + 1, p10, c10, rfl, by omega, ?_, ?_, HE, HNM, D⟩
            · rw [evI_step e0 k hlt, if_neg h0]; try rfl
            · rw [evI_step e0 k hlt, if_neg h0]; exact RP
          case measure => simp [intOf]; omega
      · obtain rfl : k = 4 := by omega
        refine wp_seq_k (fun K8 hK8 => ?_)
        refine wp_region_lit ?_
        refine wl_yield (o := ⟨_, _, _, _, _, _⟩) (.bool false) (yt_lssI (by rfl) _ _ _ rfl (((4 : Nat) : Int)) 4 false rfl rfl (decide_eq_false (by omega))) ?_
        simp only [Act.put, lzA, lzB, lzC]
        refine wpList_nil ?_
        refine hK8 _ _ ?_
        clear hK8 K8
        refine wp_seq_k (fun K9 hK9 => ?_)
        refine wp_cond_false rfl ?_
        refine wp_exit ?_
        refine hK6 _ _ ?_
        clear hK9 K9 hK6 K6
        refine wp_seq_k (fun K10 hK10 => ?_)
        refine wp_region_lit ?_
        refine wl_yield (o := ⟨_, _, _, _, _, _⟩) (.slice q ((evI e0 4).length) cq) (yl_move (by rfl) _ rfl _ rfl) ?_
        simp only [Act.put, lzA, lzB, lzC]
        refine wt_call (o := ⟨_, _, _, _, _, _⟩) (by rfl) 33 _ _ rfl #[.slice q ((evI e0 4).length) cq, .string (bs ([32]))] rfl (run_call Tryz.func33 (by kernel_rfl) (by kernel_rfl)) ?_
        refine (c_join RP (by have := evI_len e0 4; omega) (by rw [evI_all]; have := evTxt_le hr hi; omega)).mono ?_
        rintro r v4 ⟨rfl, kb⟩
        replace D := grown_below D kb
        replace RP := ownsRow_on RP kb
        replace HE := HE.on kb
        replace HNM := nm_on HNM kb
        clear kb
        refine Or.inl ⟨.string (bs (joinL ((evI e0 4).map (·.data.toList)))), rfl, ?_⟩
        simp only [Act.put, lzA, lzB, lzC]
        refine wl_yield (o := ⟨_, _, _, _, _, _⟩) (.string (bs (([123]) ++ (joinL ((evI e0 4).map (·.data.toList)))))) (yt_cat (by rfl) _ _ _ rfl ([123]) (joinL ((evI e0 4).map (·.data.toList))) rfl rfl (by first | (have hz : (joinL ((evI e0 4).map (·.data.toList))).length ≤ 116 := (by rw [evI_all]; exact evTxt_le hr hi); simp only [List.length_cons, List.length_append, List.length_nil]; omega) | (simp only [List.length_cons, List.length_append, List.length_nil, name1]; have := evItem_le hr hi k hlt; have := va_small (rightE_get hr k hlt) (hi k hlt).1 (hi k hlt).2; omega))) ?_
        simp only [Act.put, lzA, lzB, lzC]
        refine wl_yield (o := ⟨_, _, _, _, _, _⟩) (.string (bs ((([123]) ++ (joinL ((evI e0 4).map (·.data.toList)))) ++ ([125])))) (yt_cat (by rfl) _ _ _ rfl (([123]) ++ (joinL ((evI e0 4).map (·.data.toList)))) ([125]) rfl rfl (by first | (have hz : (joinL ((evI e0 4).map (·.data.toList))).length ≤ 116 := (by rw [evI_all]; exact evTxt_le hr hi); simp only [List.length_cons, List.length_append, List.length_nil]; omega) | (simp only [List.length_cons, List.length_append, List.length_nil, name1]; have := evItem_le hr hi k hlt; have := va_small (rightE_get hr k hlt) (hi k hlt).1 (hi k hlt).2; omega))) ?_
        simp only [Act.put, lzA, lzB, lzC]
        refine wl_yield (o := ⟨_, _, _, _, _, _⟩) (.string (bs ((([123]) ++ (joinL ((evI e0 4).map (·.data.toList)))) ++ ([125])))) (yl_assign (by rfl) _ rfl _ rfl) ?_
        simp only [Act.put, lzA, lzB, lzC]
        refine wl_yield (o := ⟨_, _, _, _, _, _⟩) (.int .i64 0) (yl_assign (by rfl) _ rfl _ rfl) ?_
        simp only [Act.put, lzA, lzB, lzC]
        refine wpList_nil ?_
        refine hK10 _ _ ?_
        clear hK10 K10
        refine wp_ret ?_
        have hP : evR e0 = ((([123]) ++ (joinL ((evI e0 4).map (·.data.toList)))) ++ ([125]), 0) := by unfold evR; rw [hr, if_pos rfl, evI_all]; rfl
        rw [hP]
        try simp only [Exit.inBlock, Exit.then]
        refine bodyPost_ret (results_tmp2 rfl _ _ _) rfl ?_
        exact ⟨rfl, below_none D⟩
end Go.Proofs.YtlmdcaemjaldfaaGreatDoor
namespace Go.Proofs.YtlmdcaemjaldfaaGreatDoor
open Go.RowKit
def chR : List PanicEntry := [{ v := .iface 30 (.int .i64 2), recovered := true }]
set_option maxHeartbeats 1000000 in
set_option maxRecDepth 100000 in
theorem recX_none (g6 g7 : Nat) (w : World) : CallsD Tryz.prog 40 #[.pointer (some ⟨g6, 0, none⟩), .pointer (some ⟨g7, 0, none⟩)] .returning w fun e u w' => e = .returned (.tuple #[]) ∧ u = .returning ∧ w' = w := by
  refine callsD_of_wpS Tryz.func40 rfl fun c₀ cs hu => ?_
  apply wpS_seq
  apply wpS_region
  simp [wpOpsS, go_sem, recoverD, hu, Tryz.ntmps40, Exit.thenS]
  refine wpS_cond (t := false) (by simp [Act.eval, Array.replicate]) ?_
  refine wpS_of_wp ?_
  go_wp2
  refine ⟨rfl, .returning, by rw [← hu], .tuple #[], ?_, rfl, rfl, rfl⟩
  simp [results, Tryz.results40]
set_option maxHeartbeats 1000000 in
set_option maxRecDepth 100000 in
theorem recX_some (g6 g7 : Nat) (n_g6_g7 : g6 ≠ g7) (c : EC) (z : Int) (w0 w : World) (ge_g6 : w0.heap.size ≤ g6) (ge_g7 : w0.heap.size ≤ g7) (D : w0.grownBy w none) (G6 : w.heap[g6]? = some (exObj c)) (G7 : w.heap[g7]? = some (.cells #[.int .i64 z] 30 (0, 0))) :
    CallsD Tryz.prog 40 #[.pointer (some ⟨g6, 0, none⟩), .pointer (some ⟨g7, 0, none⟩)] (.panicking chE) w fun e u w' => e = .returned (.tuple #[]) ∧ u = .panicking chR ∧ w'.heap[g6]? = some (exObj ec0) ∧ w'.heap[g7]? = some (.cells #[.int .i64 2] 30 (0, 0)) ∧ w0.grownBy w' none := by
  refine callsD_of_wpS Tryz.func40 rfl fun c₀ cs hu => ?_
  apply wpS_seq
  apply wpS_region
  simp [wpOpsS, go_sem, recoverD, hu, Tryz.ntmps40, Exit.thenS, chE]
  refine wpS_cond (t := true) (by simp [Act.eval, Array.replicate]) ?_
  refine wpS_of_wp ?_
  rw [if_pos rfl]
  show Code.wp _ _ _ { tmps := #[.pointer (some ⟨g6, 0, none⟩), .pointer (some ⟨g7, 0, none⟩), undef, .iface 30 (.int .i64 2), .bool true, undef], defers := [] } w
  refine wp_seq_k (fun K1 hK1 => ?_)
  refine wp_region_lit ?_
  refine wt_allocEx (o := ⟨_, _, _, _, _, _⟩) (by rfl) rfl (fun v1 g1 hg G1 kb => ?_)
  simp only [Act.put, lzA, lzB, lzC]
  have n_g6_g1 : g6 ≠ g1 := by have := lt_heap G6; omega
  have n_g7_g1 : g7 ≠ g1 := by have := lt_heap G7; omega
  have ge_g1 : w0.heap.size ≤ g1 := Nat.le_trans D.size hg
  clear hg
  replace D := grown_below D kb
  replace G6 := heap_on G6 kb
  replace G7 := heap_on G7 kb
  clear kb
  replace G1 : v1.heap[g1]? = some (.cells #[.int .i64 0, .int .i64 0, .bool false, .slice none 0 0, .bool false, .slice none 0 0, .slice none 0 0] 29 (0, 0)) := G1
  refine wpList_nil ?_
  refine hK1 _ _ ?_
  clear hK1 K1
  refine wp_region_lit ?_
  refine wl_yield (o := ⟨_, _, _, _, _, _⟩) (.agg #[.int .i64 0, .int .i64 0, .bool false, .slice none 0 0, .bool false, .slice none 0 0, .slice none 0 0]) (yl_ex (by rfl) _ rfl _ 0 rfl (c := ⟨0, 0, ⟨false, none, 0, 0, false, none, 0, 0⟩, none, 0, 0⟩) (fun _ h => by subst h; exact ⟨cell_heap G1 0, cell_heap G1 1, cell_heap G1 2, cell_heap G1 3, cell_heap G1 4, cell_heap G1 5, cell_heap G1 6⟩)) ?_
  simp only [Act.put, lzA, lzB, lzC]
  refine wt_putEx (o := ⟨_, _, _, _, _, _⟩) rfl _ _ rfl _ rfl (⟨0, 0, ⟨false, none, 0, 0, false, none, 0, 0⟩, none, 0, 0⟩) rfl G6 rfl (fun v2 X kg => ?_)
  simp only [Act.put, lzA, lzB, lzC]
  replace D := gr_new D ge_g6 kg
  replace G7 := heap_gr G7 kg (Ne.symm n_g6_g7)
  replace G1 := heap_gr G1 kg (Ne.symm n_g6_g1)
  clear kg
  replace G6 : v2.heap[g6]? = some (.cells #[.int .i64 0, .int .i64 0, .bool false, .slice none 0 0, .bool false, .slice none 0 0, .slice none 0 0] 29 (0, 0)) := X
  clear X
  refine wt_putE (o := ⟨_, _, _, _, _, _⟩) (by rfl) _ _ rfl _ 0 rfl 2 rfl G7 (by simp) (fun v3 X kg => ?_)
  simp only [Act.put, lzA, lzB, lzC]
  replace D := gr_new D ge_g7 kg
  replace G6 := heap_gr G6 kg n_g6_g7
  replace G1 := heap_gr G1 kg (Ne.symm n_g7_g1)
  clear kg
  replace G7 : v3.heap[g7]? = some (.cells #[.int .i64 2] 30 (0, 0)) := X
  clear X
  refine wpList_nil ?_
  exact ⟨rfl, _, rfl, .tuple #[], by simp [results, Tryz.results40], rfl, rfl, G6, G7, D⟩
set_option maxHeartbeats 1000000 in
set_option maxRecDepth 100000 in
theorem recE_none (g6 g7 : Nat) (w : World) : CallsD Tryz.prog 52 #[.pointer (some ⟨g6, 0, none⟩), .pointer (some ⟨g7, 0, none⟩)] .returning w fun e u w' => e = .returned (.tuple #[]) ∧ u = .returning ∧ w' = w := by
  refine callsD_of_wpS Tryz.func52 rfl fun c₀ cs hu => ?_
  apply wpS_seq
  apply wpS_region
  simp [wpOpsS, go_sem, recoverD, hu, Tryz.ntmps52, Exit.thenS]
  refine wpS_cond (t := false) (by simp [Act.eval, Array.replicate]) ?_
  refine wpS_of_wp ?_
  go_wp2
  refine ⟨rfl, .returning, by rw [← hu], .tuple #[], ?_, rfl, rfl, rfl⟩
  simp [results, Tryz.results52]
set_option maxHeartbeats 1000000 in
set_option maxRecDepth 100000 in
theorem recE_some (g6 g7 : Nat) (n_g6_g7 : g6 ≠ g7) (c : EvV) (z : Int) (w0 w : World) (ge_g6 : w0.heap.size ≤ g6) (ge_g7 : w0.heap.size ≤ g7) (D : w0.grownBy w none) (G6 : w.heap[g6]? = some (evObj c)) (G7 : w.heap[g7]? = some (.cells #[.int .i64 z] 30 (0, 0))) :
    CallsD Tryz.prog 52 #[.pointer (some ⟨g6, 0, none⟩), .pointer (some ⟨g7, 0, none⟩)] (.panicking chE) w fun e u w' => e = .returned (.tuple #[]) ∧ u = .panicking chR ∧ w'.heap[g6]? = some (evObj evZ) ∧ w'.heap[g7]? = some (.cells #[.int .i64 2] 30 (0, 0)) ∧ w0.grownBy w' none := by
  refine callsD_of_wpS Tryz.func52 rfl fun c₀ cs hu => ?_
  apply wpS_seq
  apply wpS_region
  simp [wpOpsS, go_sem, recoverD, hu, Tryz.ntmps52, Exit.thenS, chE]
  refine wpS_cond (t := true) (by simp [Act.eval, Array.replicate]) ?_
  refine wpS_of_wp ?_
  rw [if_pos rfl]
  show Code.wp _ _ _ { tmps := #[.pointer (some ⟨g6, 0, none⟩), .pointer (some ⟨g7, 0, none⟩), undef, .iface 30 (.int .i64 2), .bool true, undef], defers := [] } w
  refine wp_seq_k (fun K1 hK1 => ?_)
  refine wp_region_lit ?_
  refine wt_allocEv (o := ⟨_, _, _, _, _, _⟩) (by rfl) rfl (fun v1 g1 hg G1 kb => ?_)
  simp only [Act.put, lzA, lzB, lzC]
  have n_g6_g1 : g6 ≠ g1 := by have := lt_heap G6; omega
  have n_g7_g1 : g7 ≠ g1 := by have := lt_heap G7; omega
  have ge_g1 : w0.heap.size ≤ g1 := Nat.le_trans D.size hg
  clear hg
  replace D := grown_below D kb
  replace G6 := heap_on G6 kb
  replace G7 := heap_on G7 kb
  clear kb
  replace G1 : v1.heap[g1]? = some (.cells #[.int .i64 0, .int .i64 0, .string (bs ([])), .int .i64 0, .int .i64 0, .string (bs ([])), .int .i64 0, .int .i64 0, .string (bs ([])), .int .i64 0, .int .i64 0, .string (bs ([]))] 42 (0, 0)) := G1
  refine wpList_nil ?_
  refine hK1 _ _ ?_
  clear hK1 K1
  refine wp_region_lit ?_
  refine wl_yield (o := ⟨_, _, _, _, _, _⟩) (.agg #[.int .i64 0, .int .i64 0, .string (bs ([])), .int .i64 0, .int .i64 0, .string (bs ([])), .int .i64 0, .int .i64 0, .string (bs ([])), .int .i64 0, .int .i64 0, .string (bs ([]))]) (yl_ev (by rfl) _ rfl _ 0 rfl _ _ _ _ _ _ _ _ _ _ _ _ (fun _ h => by subst h; exact ⟨cell_heap G1 0, cell_heap G1 1, cell_heap G1 2, cell_heap G1 3, cell_heap G1 4, cell_heap G1 5, cell_heap G1 6, cell_heap G1 7, cell_heap G1 8, cell_heap G1 9, cell_heap G1 10, cell_heap G1 11⟩)) ?_
  simp only [Act.put, lzA, lzB, lzC]
  refine wt_putEv (o := ⟨_, _, _, _, _, _⟩) rfl _ _ rfl _ rfl (⟨(0, 0, (bs ([]))), (0, 0, (bs ([]))), (0, 0, (bs ([]))), (0, 0, (bs ([])))⟩) rfl G6 rfl (fun v2 X kg => ?_)
  simp only [Act.put, lzA, lzB, lzC]
  replace D := gr_new D ge_g6 kg
  replace G7 := heap_gr G7 kg (Ne.symm n_g6_g7)
  replace G1 := heap_gr G1 kg (Ne.symm n_g6_g1)
  clear kg
  replace G6 : v2.heap[g6]? = some (.cells #[.int .i64 0, .int .i64 0, .string (bs ([])), .int .i64 0, .int .i64 0, .string (bs ([])), .int .i64 0, .int .i64 0, .string (bs ([])), .int .i64 0, .int .i64 0, .string (bs ([]))] 42 (0, 0)) := X
  clear X
  refine wt_putE (o := ⟨_, _, _, _, _, _⟩) (by rfl) _ _ rfl _ 0 rfl 2 rfl G7 (by simp) (fun v3 X kg => ?_)
  simp only [Act.put, lzA, lzB, lzC]
  replace D := gr_new D ge_g7 kg
  replace G6 := heap_gr G6 kg n_g6_g7
  replace G1 := heap_gr G1 kg (Ne.symm n_g7_g1)
  clear kg
  replace G7 : v3.heap[g7]? = some (.cells #[.int .i64 2] 30 (0, 0)) := X
  clear X
  refine wpList_nil ?_
  exact ⟨rfl, _, rfl, .tuple #[], by simp [results, Tryz.results52], rfl, rfl, G6, G7, D⟩
end Go.Proofs.YtlmdcaemjaldfaaGreatDoor
