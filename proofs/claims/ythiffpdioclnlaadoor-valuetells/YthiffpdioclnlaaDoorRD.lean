/-
  The walks of the reference's digits, Decimal and Text.
-/
import Derived.Test.YthiffpdioclnlaaDoorRQ
import Derived.Test.YthiffpdioclnlaaDoorLB
set_option linter.unusedSimpArgs false
set_option linter.unusedVariables false
namespace Go.Proofs.YthiffpdioclnlaaDoor
open Go.RowKit
attribute [local go_sem ↓] Go.wp_at_zero Go.wp_at_succ

/-- 'string([]byte{c})'. -/
theorem conv_one (W : World) (g : Nat) (c : UInt8) (h : W.cell? ⟨g, 0, none⟩ = some (.int .u8 (c.toNat : Int))) : (convert 61 9 (.slice (some ⟨g, 0, none⟩) 1 1)).run Tryd.prog W = .ok (.string ⟨#[c]⟩) W := by
  refine run_convert_bytes_back (P := Tryd.prog) W 61 9 5 ⟨g, 0, none⟩ 1 [c] Tryd.underlying61 Tryd.underlying5 Tryd.underlying9 (fun j hj => ?_)
  match j, hj with
  | 0, _ => simpa [Addr.add] using h

theorem below_undrew {w w1 : World} (h : Below w.drew.heap.size w.drew w1) : Below w.heap.size w w1 := ⟨h.os, h.tape, h.output, h.size, h.block⟩
theorem mk_append (a b : List UInt8) : (⟨a.toArray⟩ : ByteArray) ++ (⟨b.toArray⟩ : ByteArray) = ⟨(a ++ b).toArray⟩ := by
  have h : ((⟨a.toArray⟩ : ByteArray) ++ (⟨b.toArray⟩ : ByteArray)).data = (a ++ b).toArray := by
    rw [ByteArray.data_append]; simp
  cases e : (⟨a.toArray⟩ : ByteArray) ++ (⟨b.toArray⟩ : ByteArray) with
  | mk d => rw [e] at h; rw [← h]
theorem one_dig (u : Nat) (h : u < 10) : 48 + (u : Int) = ((UInt8.ofNat (48 + u)).toNat : Int) := by
  rw [UInt8.toNat_ofNat']; omega
theorem last_dig (u : Nat) (h : u < 18446744073709551616) : IntKind.u8.wrap (IntKind.u64.wrap (48 + (u : Int).tmod 10)) = ((UInt8.ofNat (48 + u % 10)).toNat : Int) := by
  rw [UInt8.toNat_ofNat', IntKind.wrap_u64, IntKind.wrap_u8, Int.tmod_eq_emod_of_nonneg (by omega)]; omega
theorem dec_short (u : Nat) (h : u < 18446744073709551616) : (Lib.decDigits u).length ≤ 20 := by
  rw [Lib.decDigits_length]
  by_cases h0 : u = 0
  · subst h0; rw [Lib.nDigits_small (by omega)]; omega
  · have := Lib.numDigits_eq u (by omega) h
    split at this <;> omega

set_option maxHeartbeats 1000000 in
set_option maxRecDepth 100000 in
theorem digits_any (u : Nat) : ∀ (w : World), u < 18446744073709551616 →
    Calls Tryd.prog 38 #[.int .u64 (u : Int)] w fun e w' => e = .returned (.string ⟨(Lib.decDigits u).toArray⟩) ∧ Below w.heap.size w w' := by
  induction u using Nat.strongRecOn with
  | _ u ih =>
    intro w hu
    by_cases h10 : u < 10
    · have hd := Lib.decDigits_one h10
      have h10' : (u : Int) < 10 := by omega
      have hr := one_dig u h10
      generalize UInt8.ofNat (48 + u) = c at *
      have hcv : ∀ (W : World) (g : Nat), W.cell? ⟨g, 0, none⟩ = some (.int .u8 (48 + (u : Int))) → (convert 61 9 (.slice (some ⟨g, 0, none⟩) 1 1)).run Tryd.prog W = .ok (.string ⟨#[c]⟩) W := fun W g h => conv_one W g c (by rw [h, hr])
      clear hr
      have Hd := hide hd
      clear ih hd
      go_enter Tryd.func38, Tryd.ntmps38
      go_wp2
      go_ret
      exact ⟨ret_str (by rw [Hd.out]), (Below.refl _ _).alloc (Nat.le_refl _) _⟩
    · have h10' : ¬ (u : Int) < 10 := by omega
      have hd : Lib.decDigits u = Lib.decDigits (u / 10) ++ [UInt8.ofNat (48 + u % 10)] := by rw [Lib.decDigits, dif_neg h10]
      have IH : ∀ W : World, Hid (Calls Tryd.prog 38 #[.int .u64 ((u : Int) / 10)] W fun e w' => e = .returned (.string ⟨(Lib.decDigits (u / 10)).toArray⟩) ∧ Below W.heap.size W w') := fun W => hide (by
        have h := ih (u / 10) (by omega) W (by omega)
        rw [show ((u / 10 : Nat) : Int) = (u : Int) / 10 by omega] at h
        exact h)
      have hq : IntKind.u64.wrap ((u : Int) / 10) = (u : Int) / 10 := by rw [IntKind.wrap_u64]; omega
      have hr := last_dig u hu
      have hn := dec_short (u / 10) (by omega)
      generalize UInt8.ofNat (48 + u % 10) = c at *
      generalize Lib.decDigits (u / 10) = D at *
      have hcv := fun (W : World) (g : Nat) => conv_one W g c
      have Hd := hide hd
      clear ih hd
      go_enter Tryd.func38, Tryd.ntmps38
      go_wp2
      go_region_with (go_at_call 38; refine (unhide (IH _)).mono ?_; rintro e w1 ⟨rfl, hb1⟩; obtain ⟨hc, hf⟩ := bcell hb1)
      all_goals
        go_wp2
        go_ret
        refine ⟨ret_str (by rw [Hd.out]; exact mk_append D [c]), ?_⟩
      all_goals first
        | exact (below_undrew hb1).alloc (below_undrew hb1).size _
        | exact below_undrew (below_alloc hb1)

theorem dec_eq (n : Int) (h : n < 0) : Lib.itoa n = 45 :: Lib.decDigits n.natAbs := by unfold Lib.itoa; rw [if_pos h]
theorem dec_eq' (n : Int) (h : ¬ n < 0) : Lib.itoa n = Lib.decDigits n.toNat := by unfold Lib.itoa; rw [if_neg h]

set_option maxHeartbeats 1000000 in
set_option maxRecDepth 100000 in
theorem decimal_any (n : Int) (h0 : -9223372036854775808 ≤ n) (h1 : n ≤ 9223372036854775807) (w : World) :
    Calls Tryd.prog 27 #[.int .i64 n] w fun e w' => e = .returned (.string ⟨(Lib.itoa n).toArray⟩) ∧ Below w.heap.size w w' := by
  by_cases hn : n < 0
  · obtain ⟨u, rfl⟩ : ∃ u : Nat, n = -(u : Int) := ⟨n.natAbs, by omega⟩
    have Hd := hide (Lib.itoa_neg u (by omega))
    have hl := dec_short u (by omega)
    have HD := fun (W : World) => hide (digits_any u W (by omega))
    generalize Lib.decDigits u = D at *
    go_enter Tryd.func27, Tryd.ntmps27
    go_wp2_with fail
    rw [show -(-(u : Int) + 1) + 1 = (u : Int) by omega]
    refine (unhide (HD _)).mono ?_
    rintro e w1 ⟨rfl, hb1⟩
    go_wp2
    go_ret
    exact ⟨ret_str (by rw [Hd.out]; exact mk_append [45] D), hb1⟩
  · obtain ⟨u, rfl⟩ : ∃ u : Nat, n = (u : Int) := ⟨n.toNat, by omega⟩
    have Hd := hide (Lib.itoa_nonneg u)
    have HD := fun (W : World) => hide (digits_any u W (by omega))
    generalize Lib.decDigits u = D at *
    go_enter Tryd.func27, Tryd.ntmps27
    go_wp2_with (go_at_call 38; refine (unhide (HD _)).mono ?_; rintro e w1 ⟨rfl, hb1⟩)
    go_ret
    exact ⟨ret_str (by rw [Hd.out]), hb1⟩

theorem right_kind {k n : Int} {s : ByteArray} (h : rightB k n s = true) (h0 : ¬ k = 0) (h1 : ¬ k = 1) : k = 2 := by
  unfold rightB at h
  rw [if_neg h0, if_neg h1] at h
  split at h
  · assumption
  · cases h

set_option maxHeartbeats 1000000 in
set_option maxRecDepth 100000 in
theorem refText_any (k n : Int) (s : ByteArray) (w : World) (n0 : -9223372036854775808 ≤ n) (n1 : n ≤ 9223372036854775807) (hs : s.size ≤ maxLen) :
    Calls Tryd.prog 17 #[.agg #[.int .i64 k, .int .i64 n, .string s]] w fun e w' => e = .returned (.string ⟨(textL k n s).toArray⟩) ∧ Below w.heap.size w w' := by
  have HR := fun (W : World) => hide (refRight_any k n s W hs)
  have HB := hide ((Below.refl w.heap.size w).alloc (Nat.le_refl _) (.cells #[.int .i64 k, .int .i64 n, .string s] 23))
  have HI := fun (W : World) => hide (decimal_any n n0 n1 W)
  cases hr : rightB k n s
  · rw [hr] at HR
    have hT : Hid (textL k n s = []) := hide (by unfold textL; rw [hr]; rfl)
    go_enter Tryd.func17, Tryd.ntmps17
    go_wp2_with fail
    refine (unhide (HR _)).mono ?_
    rintro e w1 ⟨rfl, hb1⟩
    have HB1 := hide (below_alloc hb1)
    clear hb1
    go_wp2
    go_ret
    exact ⟨ret_list hT.out.symm, HB1.out⟩
  · have h8 := right_small hr
    rw [hr] at HR
    have HQ := fun (W : World) => hide (refQuote_any s W (by omega))
    have hT : Hid (textL k n s = if k = 1 then Lib.itoa n else if k = 2 then quoteL s.data.toList else [45]) := hide (by unfold textL; rw [hr]; rfl)
    have Hr := hide hr
    clear hr
    by_cases k0 : k = 0
    · subst k0
      go_enter Tryd.func17, Tryd.ntmps17
      go_wp2_with fail
      refine (unhide (HR _)).mono ?_
      rintro e w1 ⟨rfl, hb1⟩
      have HB1 := hide (below_alloc hb1)
      obtain ⟨hc, hf⟩ := bcell hb1
      have c0 := hc w.heap.size 0 (by simp)
      have c1 := hc w.heap.size 1 (by simp)
      have c2 := hc w.heap.size 2 (by simp)
      simp at c0 c1 c2
      clear hb1 hc hf
      go_wp2
      go_ret
      exact ⟨ret_list (by rw [hT.out, if_neg (by decide), if_neg (by decide)]), HB1.out⟩
    have k0' : (k == 0) = false := beq_eq_false_iff_ne.2 k0
    by_cases k1 : k = 1
    · subst k1
      go_enter Tryd.func17, Tryd.ntmps17
      go_wp2_with fail
      refine (unhide (HR _)).mono ?_
      rintro e w1 ⟨rfl, hb1⟩
      have HB1 := hide (below_alloc hb1)
      obtain ⟨hc, hf⟩ := bcell hb1
      have c0 := hc w.heap.size 0 (by simp)
      have c1 := hc w.heap.size 1 (by simp)
      have c2 := hc w.heap.size 2 (by simp)
      simp at c0 c1 c2
      clear hb1 hc hf
      go_wp2_with fail
      refine (unhide (HI _)).mono ?_
      rintro e w2 ⟨rfl, hb2⟩
      have HB2 := hide (HB1.out.trans (hb2.mono HB1.out.size))
      clear hb2
      go_wp2
      go_ret
      exact ⟨ret_list (by rw [hT.out]; rfl), HB2.out⟩
    have k2 : k = 2 := right_kind Hr.out k0 k1
    have k1' : (k == 1) = false := beq_eq_false_iff_ne.2 k1
    subst k2
    go_enter Tryd.func17, Tryd.ntmps17
    go_wp2_with fail
    refine (unhide (HR _)).mono ?_
    rintro e w1 ⟨rfl, hb1⟩
    have HB1 := hide (below_alloc hb1)
    obtain ⟨hc, hf⟩ := bcell hb1
    have c0 := hc w.heap.size 0 (by simp)
    have c1 := hc w.heap.size 1 (by simp)
    have c2 := hc w.heap.size 2 (by simp)
    simp at c0 c1 c2
    clear hb1 hc hf
    go_wp2_with fail
    refine (unhide (HQ _)).mono ?_
    rintro e w2 ⟨rfl, hb2⟩
    have HB2 := hide (HB1.out.trans (hb2.mono HB1.out.size))
    clear hb2
    go_wp2
    go_ret
    exact ⟨ret_list (by rw [hT.out]; rfl), HB2.out⟩
end Go.Proofs.YthiffpdioclnlaaDoor
