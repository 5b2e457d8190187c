/-
  The walks of value.readNumber, value.readString and value.Read.
-/
import Derived.Test.YthiffpdioclnlaaDoorVR
import Derived.Lib.AtoiAllCases
set_option linter.unusedSimpArgs false
set_option linter.unusedVariables false
namespace Go.Proofs.YthiffpdioclnlaaDoor
open Go.RowKit

def retR : R → Value
  | none => .tuple #[.agg #[.int .i64 0, .int .i64 0, .string ⟨#[]⟩], .int .i64 0, .bool false]
  | some (k, n, s, long) => .tuple #[.agg #[.int .i64 k, .int .i64 n, .string ⟨s.toArray⟩], .int .i64 (long : Nat), .bool true]

theorem atoi_ok (s : ByteArray) (hl : s.size ≤ 281474976710656) (w : World) (hE : Env w) (v : Int) (h : Lib.atoiAll s.data.toList = .ok v) :
    Calls Tryd.prog 40 #[.string s] w fun e w' => e = .returned (.tuple #[.int .i64 v, .nilIface]) ∧ Below w.heap.size w w' := by
  refine (atoi_any s hl w hE).mono ?_
  rintro e w' ⟨⟨v', hv, rfl⟩ | ⟨hn, _⟩, hb⟩
  · rw [h] at hv
    injection hv with hv
    subst hv
    exact ⟨rfl, hb⟩
  · exact absurd h (hn v)
theorem atoi_err (s : ByteArray) (hl : s.size ≤ 281474976710656) (w : World) (hE : Env w) (h : ∀ v, Lib.atoiAll s.data.toList ≠ .ok v) :
    Calls Tryd.prog 40 #[.string s] w fun e w' => ∃ z N, e = .returned (.tuple #[.int .i64 z, .iface 90 (.pointer (some ⟨N, 0, none⟩))]) ∧ Below w.heap.size w w' := by
  refine (atoi_any s hl w hE).mono ?_
  rintro e w' ⟨⟨v', hv, rfl⟩ | ⟨hn, z, N, rfl⟩, hb⟩
  · exact absurd hv (h v')
  · exact ⟨z, N, rfl, hb⟩

theorem below_alloc {w w1 : World} {o : Obj} (hb : Below (w.alloc o).heap.size (w.alloc o) w1) : Below w.heap.size w w1 :=
  ((Below.refl _ _).alloc (Nat.le_refl _) o).trans (hb.mono (by simp))

/-- Three stores, one behind the other: what each cell holds, as the end of a walk asks it. -/
theorem three_stores {w : World} {r : Nat} {x0 x1 x2 : Value} (a b c : Value) (r0 : w.cell? ⟨r, 0, none⟩ = some x0) (r1 : w.cell? ⟨r, 1, none⟩ = some x1) (r2 : w.cell? ⟨r, 2, none⟩ = some x2) :
    (w.setCell ⟨r, 0, none⟩ a).cell? ⟨r, 0, none⟩ = some a ∧ ((w.setCell ⟨r, 0, none⟩ a).setCell ⟨r, 1, none⟩ b).cell? ⟨r, 1, none⟩ = some b ∧
    (((w.setCell ⟨r, 0, none⟩ a).setCell ⟨r, 1, none⟩ b).setCell ⟨r, 2, none⟩ c).cell? ⟨r, 2, none⟩ = some c := by
  refine ⟨World.cell?_setCell_same _ _ _ r0, World.cell?_setCell_same _ _ _ ((World.cell?_setCell_other _ _ _ _ (by simp)).trans r1), World.cell?_setCell_same _ _ _ ((World.cell?_setCell_other _ _ _ _ (by simp)).trans ((World.cell?_setCell_other _ _ _ _ (by simp)).trans r2))⟩
theorem below_three {w w2 : World} (a b c : Value) (hb : Below w.heap.size w w2) : Below w.heap.size w (((w2.setCell ⟨w.heap.size, 0, none⟩ a).setCell ⟨w.heap.size, 1, none⟩ b).setCell ⟨w.heap.size, 2, none⟩ c) :=
  ((hb.setCell (Nat.le_refl _) _).setCell (Nat.le_refl _) _).setCell (Nat.le_refl _) _

set_option maxHeartbeats 1000000 in
set_option maxRecDepth 100000 in
theorem readNumber_any (s : ByteArray) (w : World) (hE : Env w) (hs : s.size ≤ 1048576) :
    Calls Tryd.prog 32 #[.string s] w fun e w' => e = .returned (retR (rnL s.data.toList)) ∧ Below w.heap.size w w' := by
  by_cases hok : ∃ v, Lib.atoiAll s.data.toList = .ok v
  · obtain ⟨v, hv⟩ := hok
    obtain ⟨v0, v1⟩ := Lib.atoiAll_bounds hv
    have HA := fun W (h : Env W) => hide (atoi_ok s (by omega) W h v hv)
    have HI := fun W (h : Env W) => hide (itoa_any v v0 v1 W h)
    have Hr := hide (rnL_ok hv)
    clear hv
    have hE' := hide hE
    clear hE
    go_enter Tryd.func32, Tryd.ntmps32
    go_wp2_with fail
    refine (unhide (HA _ (hE'.out.alloc _))).mono ?_
    rintro e w1 ⟨rfl, hb1⟩
    have hE1 := hide ((hE'.out.alloc _).on hb1)
    have hb1' := hide (below_alloc hb1)
    obtain ⟨hc, hf⟩ := bcell hb1
    have hz : w.heap.size < w1.heap.size := by have := hb1.size; simp at this; omega
    clear hb1
    by_cases hi : Lib.itoa v = s.data.toList
    · have hq : (Lib.itoa v == s.toList) = true := by rw [ByteArray.toList_eq, hi]; simp
      have Hi := hide hi
      clear hi
      go_wp2_with (go_at_call 26; refine (unhide (HI _ hE1.out)).mono ?_; rintro e w2 ⟨rfl, hb2⟩; refine Hid.out ?_)
      refine hide ?_
      obtain ⟨hc2, hf2⟩ := bcell hb2
      have hz2 : w.heap.size < w2.heap.size := by have := hb2.size; omega
      have hB := hide (hb1'.out.trans (hb2.mono (by omega)))
      clear hb2
      have r0 : w2.cell? ⟨w.heap.size, 0, none⟩ = some (.int .i64 0) := by rw [hc2 _ _ hz, hc _ _ (by simp)]; simp
      have r1 : w2.cell? ⟨w.heap.size, 1, none⟩ = some (.int .i64 0) := by rw [hc2 _ _ hz, hc _ _ (by simp)]; simp
      have r2 : w2.cell? ⟨w.heap.size, 2, none⟩ = some (.string ⟨#[]⟩) := by rw [hc2 _ _ hz, hc _ _ (by simp)]; simp
      have Hq := hide (three_stores (.int .i64 1) (.int .i64 v) (.string ⟨#[]⟩) r0 r1 r2)
      go_wp2
      obtain ⟨q0, q1, q2⟩ := Hq.out
      refine bodyPost_ret (v := retR (some (1, v, [], s.size))) (by simp [results, Tryd.results32, go_sem, retR, q0, q1, q2]) rfl ⟨?_, below_three _ _ _ hB.out⟩
      rw [Hr.out, if_pos Hi.out, ← Lib.size_eq]
    · have hq : (Lib.itoa v == s.toList) = false := by rw [ByteArray.toList_eq]; exact beq_eq_false_iff_ne.2 hi
      have Hi := hide hi
      clear hi
      go_wp2_with (go_at_call 26; refine (unhide (HI _ hE1.out)).mono ?_; rintro e w2 ⟨rfl, hb2⟩; refine Hid.out ?_)
      refine hide ?_
      obtain ⟨hc2, hf2⟩ := bcell hb2
      have hz2 : w.heap.size < w2.heap.size := by have := hb2.size; omega
      have hB := hide (hb1'.out.trans (hb2.mono (by omega)))
      clear hb2
      have r0 : w2.cell? ⟨w.heap.size, 0, none⟩ = some (.int .i64 0) := by rw [hc2 _ _ hz, hc _ _ (by simp)]; simp
      have r1 : w2.cell? ⟨w.heap.size, 1, none⟩ = some (.int .i64 0) := by rw [hc2 _ _ hz, hc _ _ (by simp)]; simp
      have r2 : w2.cell? ⟨w.heap.size, 2, none⟩ = some (.string ⟨#[]⟩) := by rw [hc2 _ _ hz, hc _ _ (by simp)]; simp
      have Hq := hide (three_stores (.int .i64 0) (.int .i64 0) (.string ⟨#[]⟩) r0 r1 r2)
      go_wp2
      obtain ⟨q0, q1, q2⟩ := Hq.out
      refine bodyPost_ret (v := retR (none)) (by simp [results, Tryd.results32, go_sem, retR, q0, q1, q2]) rfl ⟨?_, below_three _ _ _ hB.out⟩
      rw [Hr.out, if_neg Hi.out]
  · have hne : ∀ v, Lib.atoiAll s.data.toList ≠ .ok v := fun v h => hok ⟨v, h⟩
    have HA := fun W (h : Env W) => hide (atoi_err s (by omega) W h hne)
    have Hr := hide (rnL_err hne)
    clear hok hne
    have hE' := hide hE
    clear hE
    go_enter Tryd.func32, Tryd.ntmps32
    go_wp2_with fail
    refine (unhide (HA _ (hE'.out.alloc _))).mono ?_
    rintro e w2 ⟨z, N, rfl, hb1⟩
    have hB := hide (below_alloc hb1)
    obtain ⟨hc, hf⟩ := bcell hb1
    have hz : w.heap.size < w2.heap.size := by have := hb1.size; simp at this; omega
    clear hb1
    have r0 : w2.cell? ⟨w.heap.size, 0, none⟩ = some (.int .i64 0) := by rw [hc _ _ (by simp)]; simp
    have r1 : w2.cell? ⟨w.heap.size, 1, none⟩ = some (.int .i64 0) := by rw [hc _ _ (by simp)]; simp
    have r2 : w2.cell? ⟨w.heap.size, 2, none⟩ = some (.string ⟨#[]⟩) := by rw [hc _ _ (by simp)]; simp
    have Hq := hide (three_stores (.int .i64 0) (.int .i64 0) (.string ⟨#[]⟩) r0 r1 r2)
    go_wp2
    obtain ⟨q0, q1, q2⟩ := Hq.out
    refine bodyPost_ret (v := retR none) (by simp [results, Tryd.results32, go_sem, retR, q0, q1, q2]) rfl ⟨?_, below_three _ _ _ hB.out⟩
    rw [Hr.out]

theorem readByte_at (s : ByteArray) (k : Nat) (hk : k < s.size) (hs : s.size ≤ 1048576) (w : World) :
    Calls Tryd.prog 39 #[.string (s.extract k s.size)] w fun e w' => e = .returned (.tuple #[.int .u8 ((rbC (s.data.toList.drop k)).toNat : Int), .int .i64 ((rbW (s.data.toList.drop k) : Nat) : Int)]) ∧ Below w.heap.size w w' := by
  have hsz : (s.extract k s.size).size = s.size - k := by rw [Lib.size_eq, Lib.extract_data, List.length_take, List.length_drop, ← Lib.size_eq]; omega
  have hd : (s.extract k s.size).data.toList = s.data.toList.drop k := by
    rw [Lib.extract_data, List.take_of_length_le]
    rw [List.length_drop, ← Lib.size_eq]; omega
  refine (readByte_any (s.extract k s.size) w (by omega) (by omega)).mono ?_
  rw [hd, rb_c, rb_w]
  exact fun e w' h => h

theorem below_one {w w1 : World} {o : Obj} (hb : Below (w.heap.size + 1) (w.alloc o) w1) : Below w.heap.size w w1 :=
  ((Below.refl _ _).alloc (Nat.le_refl _) o).trans (hb.mono (by omega))

set_option maxHeartbeats 1000000 in
set_option maxRecDepth 100000 in
theorem readString_any (s : ByteArray) (w : World) (h0 : 0 < s.size) (hs : s.size ≤ 1048576) :
    Calls Tryd.prog 30 #[.string s] w fun e w' => e = .returned (retR (rsL s.size (s.data.toList.drop 1) [] 1)) ∧ Below w.heap.size w w' := by
  obtain ⟨i0, hi, hz0, hz1, hz2⟩ := info_parts infoByte
  go_enter Tryd.func30, Tryd.ntmps30
  go_wp2_with (at_make; refine wpList_make_own _ rfl _ _ 61 rfl (w.heap.size + 1) 5 i0 (.int .u8 0) 1 Tryd.underlying61 hi hz0 hz1 _ _ _ 8 rfl rfl (by omega) ?b2 ?b3 (by simp) ?_)
  case b2 => rw [hz2]; omega
  case b3 => unfold maxLen; omega
  intro w0 hown0 hgrow0
  have hb0 : Below (w.heap.size + 1) (w.alloc (.cells #[.int .i64 0, .int .i64 0, .string ⟨#[]⟩] 23)) w0 := (Below.refl _ _).grown hgrow0 (by simp) (fun k h => by cases h)
  have hO0 : Hid (Own w0 (w.heap.size + 1) (.slice (some ⟨w.heap.size + 1, 0, none⟩) 0 8) []) := hide (by simpa [Own, Lib.byteCells] using hown0)
  have hB0 := hide hb0
  clear hown0 hgrow0 hi hz0 hz1 hz2 hb0
  go_wp2
  go_loopw [5, 6] (fun v i wr => ∃ (k g n cap : Nat) (acc : List UInt8), 1 ≤ k ∧ k ≤ s.size ∧ i = .int .i64 k ∧ v = .slice (some ⟨g, 0, none⟩) n cap ∧ n ≤ 8 ∧ Hid (n = acc.length) ∧ Hid (Own wr (w.heap.size + 1) (.slice (some ⟨g, 0, none⟩) n cap) acc) ∧ Hid (Rs s acc k) ∧ Hid (Below (w.heap.size + 1) (w.alloc (.cells #[.int .i64 0, .int .i64 0, .string ⟨#[]⟩] 23)) wr)) (fun _ i _ => s.size - (intOf i).toNat)
  case atStart => exact ⟨1, w.heap.size + 1, 0, 8, [], by omega, by omega, rfl, rfl, by omega, rfl, hO0, rs_start s, hB0⟩
  case round =>
    obtain ⟨k, g, n, cap, acc, hk1, hk, rfl, rfl, hn8, hn, hO, hR, hB⟩ := hrel
    clear hO0 hB0
    have hsz : w.heap.size + 1 ≤ wr.heap.size := by have := hB.out.size; simp at this; omega
    have r0 := hB.out.cell (p := ⟨w.heap.size, 0, none⟩) (by simp)
    have r1 := hB.out.cell (p := ⟨w.heap.size, 1, none⟩) (by simp)
    have r2 := hB.out.cell (p := ⟨w.heap.size, 2, none⟩) (by simp)
    have f0 := hB.out.frozen (p := ⟨w.heap.size, 0, none⟩) (by simp)
    have f1 := hB.out.frozen (p := ⟨w.heap.size, 1, none⟩) (by simp)
    have f2 := hB.out.frozen (p := ⟨w.heap.size, 2, none⟩) (by simp)
    simp at r0 r1 r2 f0 f1 f2
    by_cases hlt : k < s.size
    · by_cases hq : s[k].toNat = 39
      · have hqb : ((s[k].toNat : Int) != 39) = false := by rw [hq]; rfl
        have E := hide (rs_quote s acc k hR.out hlt hq)
        have hcv := conv_own hO.out
        have Hq := hide (three_stores (.int .i64 2) (.int .i64 0) (.string ⟨acc.toArray⟩) r0 r1 r2)
        have hkb : ((k : Int) == (s.size : Int)) = false := beq_eq_false_iff_ne.2 (by omega)
        clear hq
        go_wp2
        obtain ⟨q0, q1, q2⟩ := Hq.out
        refine bodyPost_ret (v := retR (some (2, 0, acc, k + 1))) (by simp [results, Tryd.results30, go_sem, retR, q0, q1, q2]) rfl ⟨by rw [E.out], below_three _ _ _ (below_one hB.out)⟩
      · have hqb : ((s[k].toNat : Int) != 39) = true := by rw [bne_iff_ne]; omega
        have HQ := hide hq
        clear hq
        have hw := rbW_at s k hlt
        have HRB := fun W => hide (readByte_at s k hlt hs W)
        have hst := hide (fun a b => rs_step s acc k hR.out hlt HQ.out a b)
        have hwr := hide (fun a => rs_wrong s acc k hR.out hlt HQ.out a)
        have hlg := hide (fun a => rs_long s acc k hR.out hlt HQ.out a)
        generalize rbW (s.data.toList.drop k) = q at *
        generalize rbC (s.data.toList.drop k) = c at *
        go_wp2_with (go_at_call 39; refine (unhide (HRB _)).mono ?_; rintro e w1 ⟨rfl, hb1⟩; refine Hid.out ?_)
        refine hide ?_
        have hO1 := hide (hO.out.on hb1)
        have hB1 := hide (hB.out.trans (hb1.mono hsz))
        obtain ⟨hc, hf⟩ := bcell hb1
        have hsz1 : w.heap.size + 1 ≤ w1.heap.size := by have := hb1.size; omega
        rw [← hc _ _ (by omega)] at r0 r1 r2
        rw [← hf _ _ (by omega)] at f0 f1 f2
        clear hb1 hc hf
        by_cases q0 : q = 0
        · have E := hide (hwr.out q0)
          have qb : ((q : Int) == 0) = true := by rw [q0]; rfl
          have Hq := hide (three_stores (.int .i64 0) (.int .i64 0) (.string ⟨#[]⟩) r0 r1 r2)
          clear q0
          go_wp2
          obtain ⟨q0, q1, q2⟩ := Hq.out
          refine bodyPost_ret (v := retR (none)) (by simp [results, Tryd.results30, go_sem, retR, q0, q1, q2]) rfl ⟨by rw [E.out], below_three _ _ _ (below_one hB1.out)⟩
        · have qb : ((q : Int) == 0) = false := beq_eq_false_iff_ne.2 (by omega)
          by_cases n8 : n = 8
          · have E := hide (hlg.out (hn.out.symm.trans n8))
            have nb : ((n : Int) == 8) = true := by rw [n8]; rfl
            have Hq := hide (three_stores (.int .i64 0) (.int .i64 0) (.string ⟨#[]⟩) r0 r1 r2)
            clear n8
            go_wp2
            obtain ⟨q0, q1, q2⟩ := Hq.out
            refine bodyPost_ret (v := retR (none)) (by simp [results, Tryd.results30, go_sem, retR, q0, q1, q2]) rfl ⟨by rw [E.out], below_three _ _ _ (below_one hB1.out)⟩
          · have nb : ((n : Int) == 8) = false := beq_eq_false_iff_ne.2 (by omega)
            have hR2 := hide (hst.out q0 (fun h => n8 (hn.out.trans h)))
            have hl8 : acc.length + 1 ≤ 9 := by have := hn.out; omega
            go_wp2_with (at_builtin; refine wpList_app _ rfl _ _ rfl (w.heap.size + 1) _ acc rfl (hO1.out.alloc _) _ 1 1 _ [c] rfl rfl (heap_top _ _) rfl (by omega) (by simp; omega) ?_; intro v2 w2 hO2 hb2; refine Hid.out ?_)
            refine hide ?_
            obtain ⟨g2, n2, cap2, rfl⟩ := own_form hO2 (by simp)
            have hn2 := own_len hO2
            have hn2' : n2 = n + 1 := by rw [hn2, List.length_append, ← hn.out]; rfl
            have Hn2 := hide hn2
            have hn28 : n2 ≤ 8 := by omega
            have HO2 := hide hO2
            have HB2 := hide ((hB1.out.alloc hsz1 _).trans hb2)
            clear hn2 hn2' hO2 hb2
            go_wp2
            exact ⟨⟨k + q, g2, n2, cap2, acc ++ [c], by omega, by omega, by go_num, rfl, hn28, Hn2, HO2, hR2, HB2⟩, by simp [intOf]; omega⟩
    · have E := hide (rs_end s acc k hR.out (by omega))
      have Hq := hide (three_stores (.int .i64 0) (.int .i64 0) (.string ⟨#[]⟩) r0 r1 r2)
      have hkb : ((k : Int) == (s.size : Int)) = true := by rw [show k = s.size from by omega]; simp
      go_wp2
      obtain ⟨q0, q1, q2⟩ := Hq.out
      refine bodyPost_ret (v := retR (none)) (by simp [results, Tryd.results30, go_sem, retR, q0, q1, q2]) rfl ⟨by rw [E.out], below_three _ _ _ (below_one hB.out)⟩
end Go.Proofs.YthiffpdioclnlaaDoor
