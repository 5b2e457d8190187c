/-
  The walks of the second reference's digits, Uint, Int and Str.
-/
import Derived.Test.YtbiahajpmnfhbaaKA
import Derived.Test.YtbiahajpmnfhbaaKP
set_option linter.unusedSimpArgs false
set_option linter.unusedVariables false
namespace Go.Proofs.Ytbiahajpmnfhbaa
open Go.RowKit

theorem low7 (u : Nat) : (u : Int) % 128 = ((UInt8.ofNat (u % 128)).toNat : Int) := by
  rw [UInt8.toNat_ofNat']; omega

set_option maxHeartbeats 1000000 in
set_option maxRecDepth 100000 in
theorem refDigits_any (u : Nat) : ∀ (w : World), u < 18446744073709551616 →
    Calls Try.prog 31 #[.int .u64 (u : Int)] w fun e w' => ∃ v, e = .returned v ∧ Own w' w.heap.size v (dig u) ∧ Below w.heap.size w w' := by
  induction u using Nat.strongRecOn with
  | _ u ih =>
    intro w hu
    by_cases h10 : u < 128
    · have hd := hide (dig_small h10)
      have h10' : (u : Int) < 128 := by omega
      have hr : Hid ((u : Int) = ((UInt8.ofNat u).toNat : Int)) := hide (by rw [UInt8.toNat_ofNat']; omega)
      generalize UInt8.ofNat u = c at *
      clear ih
      go_enter Try.func31, Try.ntmps31
      go_wp2
      go_ret
      refine ⟨_, rfl, ?_, (Below.refl _ _).alloc (Nat.le_refl _) _⟩
      rw [hd.out]
      exact own_new w _ [c] (by simp [Lib.byteCells, hr.out]) (by simp)
    · have h10' : ¬ (u : Int) < 128 := by omega
      have hd := dig_big (show 128 ≤ u by omega)
      have IH : ∀ W : World, Hid (Calls Try.prog 31 #[.int .u64 ((u : Int) / 128)] W fun e w' => ∃ v, e = .returned v ∧ Own w' W.heap.size v (dig (u / 128)) ∧ Below W.heap.size W w') := fun W => hide (by
        have h := ih (u / 128) (by omega) W (by omega)
        rw [show ((u / 128 : Nat) : Int) = (u : Int) / 128 by omega] at h
        exact h)
      have hq : IntKind.u64.wrap ((u : Int) / 128) = (u : Int) / 128 := by rw [IntKind.wrap_u64]; omega
      have hr := hide (low7 u)
      have hn := dig_len (u / 128) 10 (Nat.lt_of_lt_of_le (show u / 128 < 144115188075855872 by omega) (by decide)) (by omega)
      generalize UInt8.ofNat (u % 128) = c at *
      generalize dig (u / 128) = D at *
      have Hd := hide hd
      clear ih hd
      go_enter Try.func31, Try.ntmps31
      go_wp2_with fail
      refine (unhide (IH _)).mono ?_
      rintro e w1 ⟨v1, rfl, hO1, hb1⟩
      have hz1 := hb1.size
      have HO1 := hide hO1
      have HB1 := hide hb1
      clear hO1 hb1
      go_wp2_with (at_builtin; refine wpList_app _ rfl _ _ rfl w.heap.size _ D rfl (HO1.out.alloc _) _ 1 1 _ [c] rfl rfl (heap_top _ _) (by simp [Lib.byteCells, hr.out]) (by omega) (by simp; omega) ?_; intro v2 w2 hO2 hb2)
      go_ret
      refine ⟨_, rfl, ?_, (HB1.out.alloc hz1 _).trans hb2⟩
      rw [Hd.out]
      exact hO2

/-- The first k with 128 more. -/
def upK (l : List UInt8) (k : Nat) : List UInt8 := (l.take k).map upB ++ l.drop k
theorem upK_zero (l : List UInt8) : upK l 0 = l := by simp [upK]
theorem upK_at (l : List UInt8) (k : Nat) (h : k < l.length) : (upK l k).getD k 0 = l.getD k 0 := by
  unfold upK
  rw [List.getD_eq_getElem?_getD, List.getD_eq_getElem?_getD, List.getElem?_append_right (by simp; omega)]
  simp [Nat.min_eq_left (Nat.le_of_lt h)]
theorem upK_len (l : List UInt8) (k : Nat) : (upK l k).length = l.length := by
  unfold upK; simp; omega
theorem upK_step (l : List UInt8) (k : Nat) (h : k < l.length) : (upK l k).set k (upB (l.getD k 0)) = upK l (k + 1) := by
  unfold upK
  have hl : ((l.take k).map upB).length = k := by simp; omega
  have hd : l.drop k = l[k] :: l.drop (k + 1) := List.drop_eq_getElem_cons h
  have ht : l.take (k + 1) = l.take k ++ [l[k]] := List.take_succ_eq_append_getElem h
  have hg : l.getD k 0 = l[k] := by rw [List.getD_eq_getElem?_getD, List.getElem?_eq_getElem h]; rfl
  rw [List.set_append, if_neg (by omega), hl, Nat.sub_self, hd, ht, List.map_append, List.append_assoc, hg]
  rfl
theorem upK_enc (n : Nat) (k : Nat) (h : k + 1 = (dig n).length) : upK (dig n) k = enc n := by
  rw [enc_dig]
  unfold upK
  have e : k = (dig n).length - 1 := by omega
  rw [List.dropLast_eq_take, ← e]
  congr 1
  rw [List.drop_eq_getElem_cons (by omega), List.drop_eq_nil_of_le (by omega), List.getLast_eq_getElem]
  simp [e]

set_option maxHeartbeats 1000000 in
set_option maxRecDepth 100000 in
theorem refUint_any (u : Nat) (w : World) (hu : u < 18446744073709551616) :
    Calls Try.prog 11 #[.int .u64 (u : Int)] w fun e w' => e = .returned (.string ⟨(enc u).toArray⟩) ∧ Below w.heap.size w w' := by
  have HD := fun (W : World) => hide (refDigits_any u W hu)
  have hpos := List.length_pos_iff.2 (dig_ne u)
  have hlen := dig_len u 10 (Nat.lt_of_lt_of_le hu (by decide)) (by omega)
  have hlow := hide (dig_lt u)
  have henc := hide (upK_enc u)
  generalize dig u = D at *
  go_enter Try.func11, Try.ntmps11
  go_wp2_with fail
  refine (unhide (HD _)).mono ?_
  rintro e w1 ⟨v1, rfl, hO1, hb1⟩
  obtain ⟨g, n, cap, rfl⟩ := own_form hO1 hpos
  have hn := own_len hO1
  have Hn := hide hn
  have hn1 : 1 ≤ n := by omega
  have hn2 : n ≤ 10 := by omega
  have HO1 : Hid (Own w1 w.heap.size (.slice (some ⟨g, 0, none⟩) n cap) (upK D 0)) := hide (by rw [upK_zero]; exact hO1)
  have HB1 := hide hb1
  clear hn hO1 hb1
  go_wp2
  go_loopw [4] (fun i wr => ∃ k : Nat, i = .int .i64 k ∧ k + 1 ≤ n ∧ Hid (Own wr w.heap.size (.slice (some ⟨g, 0, none⟩) n cap) (upK D k)) ∧ Hid (Below w.heap.size w wr)) (fun i _ => n - (intOf i).toNat)
  case atStart => exact ⟨0, rfl, by omega, HO1, HB1⟩
  case round =>
    obtain ⟨k, rfl, hk, HO, HB⟩ := hrel
    clear HO1 HB1
    by_cases hlt : k + 1 < n
    · have hkD : k < D.length := by have := Hn.out; omega
      have c0 := HO.out.at k (by rw [upK_len]; omega)
      have f0 := HO.out.cold k
      rw [upK_at D k hkD] at c0
      obtain ⟨O2, B2⟩ := HO.out.put k (upB (D.getD k 0))
      rw [upK_step D k hkD] at O2
      have hl7 : (D.getD k 0).toNat < 128 := hlow.out _ (by rw [List.getD_eq_getElem?_getD, List.getElem?_eq_getElem hkD]; exact List.getElem_mem _)
      rw [upB_val hl7] at O2 B2
      have HO2 := hide O2
      have HB2 := hide (HB.out.trans B2)
      clear O2 B2
      generalize D.getD k 0 = c at *
      have hc7 : (c.toNat : Int) < 128 := by omega
      have hlt' : (k : Int) < (n : Int) - 1 := by omega
      go_wp2
      exact ⟨⟨k + 1, by go_num, by omega, HO2, HB2⟩, by simp [intOf]; omega⟩
    · have hcv := conv_own HO.out
      have E := hide (henc.out k (by have := Hn.out; omega))
      have hge : (n : Int) - 1 ≤ (k : Int) := by omega
      go_wp2
      go_ret
      exact ⟨ret_str (by rw [E.out]), HB.out⟩

theorem zz_pos (n : Int) (h : 0 ≤ n) : ((zz n : Nat) : Int) = 2 * n := by unfold zz; rw [if_pos h]; omega
theorem zz_neg (n : Int) (h : ¬ 0 ≤ n) : ((zz n : Nat) : Int) = 2 * (-1 - n) + 1 := by unfold zz; rw [if_neg h]; omega

set_option maxHeartbeats 1000000 in
set_option maxRecDepth 100000 in
theorem refInt_any (n : Int) (w : World) (h0 : -9223372036854775808 ≤ n) (h1 : n ≤ 9223372036854775807) :
    Calls Try.prog 13 #[.int .i64 n] w fun e w' => e = .returned (.string ⟨(enc (zz n)).toArray⟩) ∧ Below w.heap.size w w' := by
  have HU := fun (W : World) => refUint_any (zz n) W (zz_bd n h0 h1)
  by_cases hn : 0 ≤ n
  · rw [zz_pos n hn] at HU
    have H := fun W => hide (HU W)
    clear HU
    go_enter Try.func13, Try.ntmps13
    go_wp2_with fail
    refine (unhide (H _)).mono ?_
    rintro e w1 ⟨rfl, hb1⟩
    go_wp2
    go_ret
    exact ⟨rfl, hb1⟩
  · rw [zz_neg n hn] at HU
    have H := fun W => hide (HU W)
    clear HU
    go_enter Try.func13, Try.ntmps13
    go_wp2_with fail
    refine (unhide (H _)).mono ?_
    rintro e w1 ⟨rfl, hb1⟩
    go_wp2
    go_ret
    exact ⟨rfl, hb1⟩

set_option maxHeartbeats 1000000 in
set_option maxRecDepth 100000 in
theorem refStr_any (s : ByteArray) (w : World) (hs : s.size ≤ 1048576) :
    Calls Try.prog 15 #[.string s] w fun e w' => e = .returned (.string (⟨(enc s.size).toArray⟩ ++ s)) ∧ Below w.heap.size w w' := by
  have HU := fun (W : World) => hide (refUint_any s.size W (by omega))
  have hz : ((⟨(enc s.size).toArray⟩ : ByteArray).size) ≤ 10 := by rw [Lib.size_eq]; exact (enc_len_le s.size (by omega)).2
  generalize (⟨(enc s.size).toArray⟩ : ByteArray) = T at *
  go_enter Try.func15, Try.ntmps15
  go_wp2_with fail
  refine (unhide (HU _)).mono ?_
  rintro e w1 ⟨rfl, hb1⟩
  go_wp2
  go_ret
  exact ⟨rfl, hb1⟩
end Go.Proofs.Ytbiahajpmnfhbaa
