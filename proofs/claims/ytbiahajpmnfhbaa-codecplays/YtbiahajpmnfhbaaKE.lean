/-
  The walks of the program's Uint, Int and Str.
-/
import Derived.Test.YtbiahajpmnfhbaaKD
set_option linter.unusedSimpArgs false
set_option linter.unusedVariables false
namespace Go.Proofs.Ytbiahajpmnfhbaa
open Go.RowKit

/-- The digits ahead of the last ones, as they are written. -/
def hiD (m : Nat) : List UInt8 := if m = 0 then [] else (dig m).map upB
theorem hiD_zero : hiD 0 = [] := by simp [hiD]
theorem hiD_step (m : Nat) (h : 0 < m) : hiD m = hiD (m / 128) ++ [upB (UInt8.ofNat (m % 128))] := by
  unfold hiD
  rw [if_neg (by omega)]
  by_cases hm : m < 128
  · rw [if_pos (by omega), dig_small hm, show m % 128 = m by omega]; rfl
  · rw [if_neg (by omega), dig_big (by omega), List.map_append]; rfl
theorem enc_hiD (n : Nat) : enc n = hiD (n / 128) ++ [UInt8.ofNat (n % 128)] := by
  unfold hiD
  by_cases h : n < 128
  · rw [enc_small h, if_pos (by omega), show n % 128 = n by omega]; rfl
  · rw [enc_big (by omega), if_neg (by omega)]
theorem hiD_pos (m : Nat) (h : 0 < m) : 1 ≤ (hiD m).length := by
  rw [hiD_step m h, List.length_append, List.length_singleton]; omega

set_option maxHeartbeats 1000000 in
set_option maxRecDepth 100000 in
theorem uint_any (u : Nat) (w : World) (hu : u < 18446744073709551616) :
    Calls Try.prog 10 #[.int .u64 (u : Int)] w fun e w' => e = .returned (.string ⟨(enc u).toArray⟩) ∧ Below w.heap.size w w' := by
  obtain ⟨U, hU⟩ : ∃ U : Int, U = (u : Int) := ⟨_, rfl⟩
  have hU0 : 0 ≤ U := by omega
  have hU1 : U < 18446744073709551616 := by omega
  have hlen := hide (enc_len_le u hu).2
  have henc := hide (enc_hiD u)
  rw [← hU]
  have HU := hide hU
  clear hU hu
  generalize enc u = E at *
  have hc : IntKind.u8.wrap (U % 128) = U % 128 := by rw [IntKind.wrap_u8]; omega
  go_enter Try.func10, Try.ntmps10
  go_wp2
  go_loopw [0, 4] (fun nv av wr => ∃ (M : Int) (k : Nat) (l : List UInt8), nv = .int .u64 M ∧ av = .int .i64 k ∧ 0 ≤ M ∧ M < 18446744073709551616 ∧ k ≤ 9 ∧ Hid (l.length = 10) ∧ Hid (E = hiD M.toNat ++ l.drop k) ∧ Hid (wr.heap[w.heap.size]? = some (.cells (Lib.byteCells l).toArray 48 (0, 0))) ∧ Hid (Below w.heap.size w wr)) (fun nv _ _ => (intOf nv).toNat)
  case atStart =>
    refine ⟨U / 128, 9, [0, 0, 0, 0, 0, 0, 0, 0, 0, UInt8.ofNat (u % 128)], rfl, rfl, by omega, by omega, by omega, hide rfl, hide ?_, hide ?_, hide ?_⟩
    · rw [henc.out]
      have e : (U / 128).toNat = u / 128 := by have := HU.out; omega
      rw [e]; rfl
    · refine (heap_new _ _).trans ?_
      have e : U % 128 = ((UInt8.ofNat (u % 128)).toNat : Int) := by have := HU.out; rw [UInt8.toNat_ofNat']; omega
      rw [e]
      rfl
    · exact (Below.refl _ _).alloc (Nat.le_refl _) _
  case round =>
    obtain ⟨M, k, l, rfl, rfl, hM0, hM1, hk, HL, HE, HH, HB⟩ := hrel
    by_cases hz : 0 < M
    · have hk1 : 1 ≤ k := by
        have h1 := hiD_pos M.toNat (by omega)
        have h2 := congrArg List.length HE.out
        have h3 := hlen.out
        rw [List.length_append, List.length_drop, HL.out] at h2
        omega
      have hc2 : IntKind.u8.wrap (M % 128) = M % 128 := by rw [IntKind.wrap_u8]; omega
      have hc3 : IntKind.u8.wrap (M % 128 + 128) = M % 128 + 128 := by rw [IntKind.wrap_u8]; omega
      have hq : IntKind.u64.wrap (M / 128) = M / 128 := by rw [IntKind.wrap_u64]; omega
      have f0 := frozen_heap HH.out (k - 1)
      have c0 : wr.cell? ⟨w.heap.size, k - 1, none⟩ = some (.int .u8 ((l.getD (k - 1) 0).toNat : Int)) := by
        rw [cell_heap HH.out]
        have := HL.out
        simp [Lib.byteCells, List.getElem?_eq_getElem (show k - 1 < l.length by omega), List.getD_eq_getElem?_getD]
      generalize (l.getD (k - 1) 0).toNat = old at c0
      have hset : Hid ((wr.setCell ⟨w.heap.size, k - 1, none⟩ (.int .u8 (M % 128 + 128))).heap[w.heap.size]? = some (.cells (Lib.byteCells (l.set (k - 1) (upB (UInt8.ofNat (M.toNat % 128))))).toArray 48 (0, 0))) := hide (by
        rw [heap_setCell _ HH.out]
        have e : M % 128 + 128 = ((upB (UInt8.ofNat (M.toNat % 128))).toNat : Int) := by rw [upB_val (by rw [UInt8.toNat_ofNat']; omega), UInt8.toNat_ofNat']; omega
        rw [e]
        simp [Lib.byteCells, List.map_set])
      have hdr : Hid (E = hiD (M / 128).toNat ++ (l.set (k - 1) (upB (UInt8.ofNat (M.toNat % 128)))).drop (k - 1)) := hide (by
        have hl10 := HL.out
        rw [HE.out, hiD_step M.toNat (by omega), show (M / 128).toNat = M.toNat / 128 by omega, List.append_assoc]
        congr 1
        have hd : ∀ (m : List UInt8) (c : UInt8) (i : Nat), i < m.length → (m.set i c).drop i = c :: m.drop (i + 1) := fun m c i hi => by
          rw [List.drop_eq_getElem_cons (by rw [List.length_set]; exact hi), List.getElem_set_self, List.drop_set, if_pos (by omega)]
        rw [hd _ _ _ (by omega), show k - 1 + 1 = k by omega]
        rfl)
      have hB2 : Hid (Below w.heap.size w (wr.setCell ⟨w.heap.size, k - 1, none⟩ (.int .u8 (M % 128 + 128)))) := hide (HB.out.setCell (Nat.le_refl _) _)
      go_wp2
      exact ⟨⟨M / 128, k - 1, _, rfl, by go_num, by omega, by omega, by omega, hide (by rw [List.length_set]; exact HL.out), hdr, hset, hB2⟩, by simp [intOf]; omega⟩
    · have hsl : (Instr.sliceAt 48 (.pointer (some ⟨w.heap.size, 0, none⟩)) (some (.int .i64 (k : Int))) none none).run Try.prog wr = .ok (.slice (some ⟨w.heap.size, k, none⟩) (10 - k) (10 - k)) wr := by
        rw [run_sliceAt_array_l wr 48 _ (by kernel_rfl) .i64 k (by omega) (by rw [show Program.arrayLen Try.prog 48 = 10 by kernel_rfl]; omega)]
        rw [show Program.arrayLen Try.prog 48 = 10 by kernel_rfl, show Program.elem Try.prog 48 = 5 by kernel_rfl, show (sizeOf 5).run Try.prog wr = .ok 1 wr by kernel_rfl]
        simp [slicedAt, Addr.add]
        rw [if_neg (by omega)]
        split
        · rename_i hk0; rw [hk0]
        · rfl
      have hcv : (convert 49 9 (.slice (some ⟨w.heap.size, k, none⟩) (10 - k) (10 - k))).run Try.prog wr = .ok (.string ⟨(l.drop k).toArray⟩) wr := by
        have hl10 := HL.out
        have e : (l.drop k).length = 10 - k := by rw [List.length_drop]; omega
        have := run_convert_bytes_back (P := Try.prog) wr 49 9 5 ⟨w.heap.size, k, none⟩ (10 - k) (l.drop k) Try.underlying49 Try.underlying5 Try.underlying9 (fun j hj => by
          rw [show (Addr.add ⟨w.heap.size, k, none⟩ j) = ⟨w.heap.size, k + j, none⟩ by simp [Addr.add], cell_heap HH.out]
          simp [Lib.byteCells, List.getElem?_eq_getElem (show k + j < l.length by omega)])
        rw [e] at this
        exact this
      have hE : Hid (E = l.drop k) := hide (by rw [HE.out, show M.toNat = 0 by omega, hiD_zero]; rfl)
      go_wp2
      go_ret
      exact ⟨ret_str (by rw [hE.out]), HB.out⟩

set_option maxHeartbeats 1000000 in
set_option maxRecDepth 100000 in
theorem int_any (n : Int) (w : World) (h0 : -9223372036854775808 ≤ n) (h1 : n ≤ 9223372036854775807) :
    Calls Try.prog 12 #[.int .i64 n] w fun e w' => e = .returned (.string ⟨(enc (zz n)).toArray⟩) ∧ Below w.heap.size w w' := by
  have HU := fun (W : World) => uint_any (zz n) W (zz_bd n h0 h1)
  by_cases hn : 0 ≤ n
  · rw [zz_pos n hn] at HU
    have H := fun W => hide (HU W)
    clear HU
    go_enter Try.func12, Try.ntmps12
    go_wp2_with fail
    refine (unhide (H _)).mono ?_
    rintro e w1 ⟨rfl, hb1⟩
    go_wp2
    go_ret
    exact ⟨rfl, hb1⟩
  · rw [zz_neg n hn] at HU
    have H := fun W => hide (HU W)
    clear HU
    go_enter Try.func12, Try.ntmps12
    go_wp2_with fail
    refine (unhide (H _)).mono ?_
    rintro e w1 ⟨rfl, hb1⟩
    go_wp2
    go_ret
    exact ⟨rfl, hb1⟩

set_option maxHeartbeats 1000000 in
set_option maxRecDepth 100000 in
theorem str_any (s : ByteArray) (w : World) (hs : s.size ≤ 1048576) :
    Calls Try.prog 14 #[.string s] w fun e w' => e = .returned (.string (⟨(enc s.size).toArray⟩ ++ s)) ∧ Below w.heap.size w w' := by
  have HU := fun (W : World) => hide (uint_any s.size W (by omega))
  have hz : ((⟨(enc s.size).toArray⟩ : ByteArray).size) ≤ 10 := by rw [Lib.size_eq]; exact (enc_len_le s.size (by omega)).2
  generalize (⟨(enc s.size).toArray⟩ : ByteArray) = T at *
  go_enter Try.func14, Try.ntmps14
  go_wp2_with fail
  refine (unhide (HU _)).mono ?_
  rintro e w1 ⟨rfl, hb1⟩
  go_wp2
  go_ret
  exact ⟨rfl, hb1⟩
end Go.Proofs.Ytbiahajpmnfhbaa
