/-
  The walk of the reference's Read.
-/
import Derived.Test.YthiffpdioclnlaaDoorRX
import Derived.Test.YthiffpdioclnlaaDoorRM
import Derived.Test.YthiffpdioclnlaaDoorVT
set_option linter.unusedSimpArgs false
set_option linter.unusedVariables false
namespace Go.Proofs.YthiffpdioclnlaaDoor
open Go.RowKit

theorem out_or (s : ByteArray) (k : Nat) (h : ¬ ∃ h : k < s.size, 48 ≤ (s[k].toNat : Int) ∧ (s[k].toNat : Int) ≤ 57) : (¬ k < s.size) ∨ (∃ h : k < s.size, ¬ 48 ≤ (s[k].toNat : Int)) ∨ (∃ h : k < s.size, 48 ≤ (s[k].toNat : Int) ∧ ¬ (s[k].toNat : Int) ≤ 57) := by
  by_cases hlt : k < s.size
  · by_cases d1 : 48 ≤ (s[k].toNat : Int)
    · exact Or.inr (Or.inr ⟨hlt, d1, fun d2 => h ⟨hlt, d1, d2⟩⟩)
    · exact Or.inr (Or.inl ⟨hlt, d1⟩)
  · exact Or.inl hlt
theorem out_dig (s : ByteArray) (k : Nat) (hk : k ≤ s.size) (h : ¬ ∃ h : k < s.size, 48 ≤ (s[k].toNat : Int) ∧ (s[k].toNat : Int) ≤ 57) : k = s.size ∨ isDig (s.data.toList.getD k 0) = false := by
  by_cases hlt : k < s.size
  · refine Or.inr (notDig s k hlt ?_)
    by_cases d1 : 48 ≤ (s[k].toNat : Int)
    · exact Or.inr (by have : ¬ (s[k].toNat : Int) ≤ 57 := fun d2 => h ⟨hlt, d1, d2⟩; omega)
    · exact Or.inl (by omega)
  · exact Or.inl (by omega)

set_option maxHeartbeats 4000000 in
set_option maxRecDepth 100000 in
theorem refRead_minus (s : ByteArray) (w : World) (hs : s.size ≤ 1000) (h0 : 0 < s.size) (c0 : s[0].toNat = 45) :
    Calls Tryd.prog 21 #[.string s] w fun e w' => e = .returned (retR (readL s.data.toList)) ∧ Below w.heap.size w w' := by
  have cq : ((s[0].toNat : Int) == 39) = false := by rw [c0]; rfl
  have cm : ((s[0].toNat : Int) == 45) = true := by rw [c0]; rfl
  have HC := hide c0
  clear c0
  go_enter Tryd.func21, Tryd.ntmps21
  go_wp2
  go_loop [9] (fun t => ∃ k : Nat, 1 ≤ k ∧ k ≤ s.size ∧ t = .int .i64 k ∧ Hid (digsTo s.data.toList 1 k)) (fun t => s.size - (intOf t).toNat)
  case atStart => exact ⟨1, by omega, by omega, rfl, digsTo_start _ _⟩
  case round =>
    obtain ⟨k, hk1, hk, rfl, hd⟩ := hrel
    by_cases hin : ∃ h : k < s.size, 48 ≤ (s[k].toNat : Int) ∧ (s[k].toNat : Int) ≤ 57
    · obtain ⟨hlt, d1, d2⟩ := hin
      go_wp2
      exact ⟨⟨k + 1, by omega, by omega, by go_num, hide (digsTo_step s 1 k hd.out hlt d1 d2)⟩, by simp [intOf]; omega⟩
    have hout := out_or s k hin
    have Hdc := hide (digCount_loop s 1 k hk1 hk hd.out (out_dig s k hk hin))
    clear hin
    by_cases k1 : k = 1
    · have E := hide (read_none1 s h0 HC.out (Hdc.out.trans (by omega)))
      have kb : ((k : Int) == 1) = true := by rw [k1]; rfl
      clear k1 Hdc
      rcases hout with hlt | ⟨hlt, d1⟩ | ⟨hlt, d1, d2⟩
      all_goals
        go_wp2
        refine bodyPost_ret (v := retR (some (0, 0, [], 1))) (by simp [results, Tryd.results21, go_sem, retR]) rfl ⟨by rw [E.out], (Below.refl _ _).alloc (Nat.le_refl _) _⟩
    have kb : ((k : Int) == 1) = false := beq_eq_false_iff_ne.2 (by omega)
    have E := hide ((read_seg1 s k h0 HC.out (by omega) hk hd.out Hdc.out).trans (refN_seg s 1 k (by omega) hk))
    have g1 : (1 : Int) < (s.size : Int) := by omega
    clear Hdc
    by_cases z : s[1].toNat = 48 ∧ 1 < k
    · have E2 := hide (E.out.trans (if_pos z))
      have zb : ((s[1].toNat : Int) == 48) = true := by rw [z.1]; rfl
      have z2 : (1 : Int) < (k : Int) := by omega
      clear z E
      rcases hout with hlt | ⟨hlt, d1⟩ | ⟨hlt, d1, d2⟩
      all_goals
        go_wp2
        refine bodyPost_ret (v := retR (none)) (by simp [results, Tryd.results21, go_sem, retR]) rfl ⟨by rw [E2.out], (Below.refl _ _).alloc (Nat.le_refl _) _⟩
    have E1 := hide (E.out.trans (if_neg z))
    clear E
    by_cases l19 : 19 < k - 1
    · have E2 := hide (E1.out.trans (if_pos l19))
      have l19' : (19 : Int) < (k : Int) - 1 := by omega
      clear E1
      by_cases z1 : s[1].toNat = 48
      · exact absurd ⟨z1, by omega⟩ z
      have zb : ((s[1].toNat : Int) == 48) = false := beq_eq_false_iff_ne.2 (by omega)
      clear z z1
      rcases hout with hlt | ⟨hlt, d1⟩ | ⟨hlt, d1, d2⟩
      all_goals
        go_wp2
        refine bodyPost_ret (v := retR (none)) (by simp [results, Tryd.results21, go_sem, retR]) rfl ⟨by rw [E2.out], (Below.refl _ _).alloc (Nat.le_refl _) _⟩
    have E2 := hide (E1.out.trans (if_neg l19))
    have l19' : (k : Int) - 1 ≤ 19 := by omega
    clear E1
    have hz1 : ¬ s[1].toNat = 48 := fun h => z ⟨h, by omega⟩
    have zb : ((s[1].toNat : Int) == 48) = false := beq_eq_false_iff_ne.2 (by omega)
    have hpos := hide (numAt_pos s k (by omega) hk hd.out hz1)
    clear z hz1
    rcases hout with hlt | ⟨hlt, d1⟩ | ⟨hlt, d1, d2⟩
    all_goals
      go_wp2
      go_loop [10, 11] (fun u i => ∃ j : Nat, 1 ≤ j ∧ j ≤ k ∧ i = .int .i64 j ∧ u = .int .u64 (numAt s 1 j : Nat)) (fun _ i => k - (intOf i).toNat)
      case atStart => exact ⟨1, by omega, by omega, rfl, by rw [numAt_start]; rfl⟩
      case round =>
        obtain ⟨j, hj1, hj, rfl, rfl⟩ := hrel
        by_cases hjk : j < k
        · obtain ⟨e1, e2⟩ := dig_at' s 1 k j hd.out hj1 hjk hk
          have sm := numAt_small s 1 j k hjk hk hd.out (by omega)
          have st := hide (numAt_step s 1 j hj1 (by omega))
          have f1 : (48 : Int) ≤ (s[j].toNat : Int) := by omega
          have f2 : (s[j].toNat : Int) ≤ 57 := by omega
          have f3 : (j : Int) < (s.size : Int) := by omega
          have hJ := hide (hjk)
          generalize numAt s 1 j = V at *
          clear e1 e2
          go_wp2
          exact ⟨⟨j + 1, by omega, by have := hJ.out; omega, by go_num, by rw [st.out]; congr 1; omega⟩, by have := hJ.out; simp [intOf]; omega⟩
        · obtain rfl : j = k := by omega
          have hle : numAt s 1 j < 18446744073709551616 := by
            by_cases hb : j = 1
            · rw [hb, numAt_start]; omega
            · obtain ⟨i, rfl⟩ : ∃ i, j = i + 1 := ⟨j - 1, by omega⟩
              have := numAt_small s 1 i (i + 1) (by omega) hk hd.out (by omega)
              have e := numAt_step s 1 i (by omega) (by omega)
              have := (dig_at' s 1 (i + 1) i hd.out (by omega) (by omega) hk).2
              omega
          generalize numAt s 1 j = V at *
          by_cases big : 9223372036854775808 < V
          · have E3 := hide (E2.out.trans (if_pos (Or.inr big)))
            have big' : (9223372036854775808 : Int) < (V : Int) := by omega
            go_wp2
            refine bodyPost_ret (v := retR (none)) (by simp [results, Tryd.results21, go_sem, retR]) rfl ⟨by rw [E3.out], (Below.refl _ _).alloc (Nat.le_refl _) _⟩
          · have E3 := hide (E2.out.trans (if_neg (fun h => by omega)))
            have p1 : (1 : Int) ≤ (V : Int) := by have := hpos.out; omega
            have big' : (V : Int) ≤ 9223372036854775808 := by omega
            have hw1 : IntKind.u64.wrap ((V : Int) - 1) = (V : Int) - 1 := by rw [IntKind.wrap_u64]; omega
            have hw2 : IntKind.i64.wrap ((V : Int) - 1) = (V : Int) - 1 := by rw [IntKind.wrap_i64]; omega
            have hw3 : IntKind.i64.wrap (-((V : Int) - 1)) = -((V : Int) - 1) := by rw [IntKind.wrap_i64]; omega
            have hw4 : IntKind.i64.wrap (-((V : Int) - 1) - 1) = -((V : Int) - 1) - 1 := by rw [IntKind.wrap_i64]; omega
            have hn : Hid (-(V : Int) = -((V : Int) - 1) - 1) := hide (by omega)
            go_wp2
            refine bodyPost_ret (v := retR (some (1, -((V : Int) - 1) - 1, [], j))) (by simp [results, Tryd.results21, go_sem, retR]) rfl ⟨by rw [E3.out, if_pos (by trivial), hn.out], (Below.refl _ _).alloc (Nat.le_refl _) _⟩

set_option maxHeartbeats 4000000 in
set_option maxRecDepth 100000 in
theorem refRead_plain (s : ByteArray) (w : World) (hs : s.size ≤ 1000) (h0 : 0 < s.size) (c0 : ¬ s[0].toNat = 45) (cq0 : ¬ s[0].toNat = 39) :
    Calls Tryd.prog 21 #[.string s] w fun e w' => e = .returned (retR (readL s.data.toList)) ∧ Below w.heap.size w w' := by
  have cq : ((s[0].toNat : Int) == 39) = false := beq_eq_false_iff_ne.2 (by omega)
  have cm : ((s[0].toNat : Int) == 45) = false := beq_eq_false_iff_ne.2 (by omega)
  have HC := hide c0
  have HQ := hide cq0
  clear c0 cq0
  go_enter Tryd.func21, Tryd.ntmps21
  go_wp2
  go_loop [9] (fun t => ∃ k : Nat, 0 ≤ k ∧ k ≤ s.size ∧ t = .int .i64 k ∧ Hid (digsTo s.data.toList 0 k)) (fun t => s.size - (intOf t).toNat)
  case atStart => exact ⟨0, by omega, by omega, rfl, digsTo_start _ _⟩
  case round =>
    obtain ⟨k, hk1, hk, rfl, hd⟩ := hrel
    by_cases hin : ∃ h : k < s.size, 48 ≤ (s[k].toNat : Int) ∧ (s[k].toNat : Int) ≤ 57
    · obtain ⟨hlt, d1, d2⟩ := hin
      go_wp2
      exact ⟨⟨k + 1, by omega, by omega, by go_num, hide (digsTo_step s 0 k hd.out hlt d1 d2)⟩, by simp [intOf]; omega⟩
    have hout := out_or s k hin
    have Hdc := hide (digCount_loop s 0 k hk1 hk hd.out (out_dig s k hk hin))
    clear hin
    by_cases k1 : k = 0
    · have E := hide (read_none0 s h0 HC.out HQ.out (Hdc.out.trans (by omega)))
      have kb : ((k : Int) == 0) = true := by rw [k1]; rfl
      clear k1 Hdc
      rcases hout with hlt | ⟨hlt, d1⟩ | ⟨hlt, d1, d2⟩
      all_goals
        go_wp2
        refine bodyPost_ret (v := retR (none)) (by simp [results, Tryd.results21, go_sem, retR]) rfl ⟨by rw [E.out], (Below.refl _ _).alloc (Nat.le_refl _) _⟩
    have kb : ((k : Int) == 0) = false := beq_eq_false_iff_ne.2 (by omega)
    have E := hide ((read_seg0 s k h0 HC.out HQ.out (by omega) hk hd.out Hdc.out).trans (refN_seg s 0 k (by omega) hk))
    have g1 : (0 : Int) < (s.size : Int) := by omega
    clear Hdc
    by_cases z : s[0].toNat = 48 ∧ 1 < k
    · have E2 := hide (E.out.trans (if_pos z))
      have zb : ((s[0].toNat : Int) == 48) = true := by rw [z.1]; rfl
      have z2 : (1 : Int) < (k : Int) := by omega
      clear z E
      rcases hout with hlt | ⟨hlt, d1⟩ | ⟨hlt, d1, d2⟩
      all_goals
        go_wp2
        refine bodyPost_ret (v := retR (none)) (by simp [results, Tryd.results21, go_sem, retR]) rfl ⟨by rw [E2.out], (Below.refl _ _).alloc (Nat.le_refl _) _⟩
    have E1 := hide (E.out.trans (if_neg z))
    clear E
    by_cases l19 : 19 < k - 0
    · have E2 := hide (E1.out.trans (if_pos l19))
      have l19' : (19 : Int) < (k : Int) - 0 := by omega
      clear E1
      by_cases z1 : s[0].toNat = 48
      · exact absurd ⟨z1, by omega⟩ z
      have zb : ((s[0].toNat : Int) == 48) = false := beq_eq_false_iff_ne.2 (by omega)
      clear z z1
      rcases hout with hlt | ⟨hlt, d1⟩ | ⟨hlt, d1, d2⟩
      all_goals
        go_wp2
        refine bodyPost_ret (v := retR (none)) (by simp [results, Tryd.results21, go_sem, retR]) rfl ⟨by rw [E2.out], (Below.refl _ _).alloc (Nat.le_refl _) _⟩
    have E2 := hide (E1.out.trans (if_neg l19))
    have l19' : (k : Int) - 0 ≤ 19 := by omega
    clear E1
    by_cases z1 : s[0].toNat = 48
    · have zb : ((s[0].toNat : Int) == 48) = true := by rw [z1]; rfl
      have zk : (k : Int) ≤ 1 := by have : ¬ 1 < k := fun h => z ⟨z1, h⟩; omega
      clear z z1
      rcases hout with hlt | ⟨hlt, d1⟩ | ⟨hlt, d1, d2⟩
      all_goals
        go_wp2
        go_loop [10, 11] (fun u i => ∃ j : Nat, 0 ≤ j ∧ j ≤ k ∧ i = .int .i64 j ∧ u = .int .u64 (numAt s 0 j : Nat)) (fun _ i => k - (intOf i).toNat)
        case atStart => exact ⟨0, by omega, by omega, rfl, by rw [numAt_start]; rfl⟩
        case round =>
          obtain ⟨j, hj1, hj, rfl, rfl⟩ := hrel
          by_cases hjk : j < k
          · obtain ⟨e1, e2⟩ := dig_at' s 0 k j hd.out hj1 hjk hk
            have sm := numAt_small s 0 j k hjk hk hd.out (by omega)
            have st := hide (numAt_step s 0 j hj1 (by omega))
            have f1 : (48 : Int) ≤ (s[j].toNat : Int) := by omega
            have f2 : (s[j].toNat : Int) ≤ 57 := by omega
            have f3 : (j : Int) < (s.size : Int) := by omega
            have hJ := hide (hjk)
            generalize numAt s 0 j = V at *
            clear e1 e2
            go_wp2
            exact ⟨⟨j + 1, by omega, by have := hJ.out; omega, by go_num, by rw [st.out]; congr 1; omega⟩, by have := hJ.out; simp [intOf]; omega⟩
          · obtain rfl : j = k := by omega
            have hle : numAt s 0 j < 18446744073709551616 := by
              by_cases hb : j = 0
              · rw [hb, numAt_start]; omega
              · obtain ⟨i, rfl⟩ : ∃ i, j = i + 1 := ⟨j - 1, by omega⟩
                have := numAt_small s 0 i (i + 1) (by omega) hk hd.out (by omega)
                have e := numAt_step s 0 i (by omega) (by omega)
                have := (dig_at' s 0 (i + 1) i hd.out (by omega) (by omega) hk).2
                omega
            generalize numAt s 0 j = V at *
            by_cases big : 9223372036854775807 < V
            · have E3 := hide (E2.out.trans (if_pos (Or.inl (by refine ⟨?_, big⟩; trivial))))
              have big' : (9223372036854775807 : Int) < (V : Int) := by omega
              go_wp2
              refine bodyPost_ret (v := retR (none)) (by simp [results, Tryd.results21, go_sem, retR]) rfl ⟨by rw [E3.out], (Below.refl _ _).alloc (Nat.le_refl _) _⟩
            · have E3 := hide (E2.out.trans (if_neg (fun h => by omega)))
              have big' : (V : Int) ≤ 9223372036854775807 := by omega
              have hw2 : IntKind.i64.wrap (V : Int) = (V : Int) := by rw [IntKind.wrap_i64]; omega
              go_wp2
              refine bodyPost_ret (v := retR (some (1, (V : Int), [], j))) (by simp [results, Tryd.results21, go_sem, retR]) rfl ⟨by rw [E3.out, if_neg (by decide)], (Below.refl _ _).alloc (Nat.le_refl _) _⟩
    have zb : ((s[0].toNat : Int) == 48) = false := beq_eq_false_iff_ne.2 (by omega)
    clear z z1
    rcases hout with hlt | ⟨hlt, d1⟩ | ⟨hlt, d1, d2⟩
    all_goals
      go_wp2
      go_loop [10, 11] (fun u i => ∃ j : Nat, 0 ≤ j ∧ j ≤ k ∧ i = .int .i64 j ∧ u = .int .u64 (numAt s 0 j : Nat)) (fun _ i => k - (intOf i).toNat)
      case atStart => exact ⟨0, by omega, by omega, rfl, by rw [numAt_start]; rfl⟩
      case round =>
        obtain ⟨j, hj1, hj, rfl, rfl⟩ := hrel
        by_cases hjk : j < k
        · obtain ⟨e1, e2⟩ := dig_at' s 0 k j hd.out hj1 hjk hk
          have sm := numAt_small s 0 j k hjk hk hd.out (by omega)
          have st := hide (numAt_step s 0 j hj1 (by omega))
          have f1 : (48 : Int) ≤ (s[j].toNat : Int) := by omega
          have f2 : (s[j].toNat : Int) ≤ 57 := by omega
          have f3 : (j : Int) < (s.size : Int) := by omega
          have hJ := hide (hjk)
          generalize numAt s 0 j = V at *
          clear e1 e2
          go_wp2
          exact ⟨⟨j + 1, by omega, by have := hJ.out; omega, by go_num, by rw [st.out]; congr 1; omega⟩, by have := hJ.out; simp [intOf]; omega⟩
        · obtain rfl : j = k := by omega
          have hle : numAt s 0 j < 18446744073709551616 := by
            by_cases hb : j = 0
            · rw [hb, numAt_start]; omega
            · obtain ⟨i, rfl⟩ : ∃ i, j = i + 1 := ⟨j - 1, by omega⟩
              have := numAt_small s 0 i (i + 1) (by omega) hk hd.out (by omega)
              have e := numAt_step s 0 i (by omega) (by omega)
              have := (dig_at' s 0 (i + 1) i hd.out (by omega) (by omega) hk).2
              omega
          generalize numAt s 0 j = V at *
          by_cases big : 9223372036854775807 < V
          · have E3 := hide (E2.out.trans (if_pos (Or.inl (by refine ⟨?_, big⟩; trivial))))
            have big' : (9223372036854775807 : Int) < (V : Int) := by omega
            go_wp2
            refine bodyPost_ret (v := retR (none)) (by simp [results, Tryd.results21, go_sem, retR]) rfl ⟨by rw [E3.out], (Below.refl _ _).alloc (Nat.le_refl _) _⟩
          · have E3 := hide (E2.out.trans (if_neg (fun h => by omega)))
            have big' : (V : Int) ≤ 9223372036854775807 := by omega
            have hw2 : IntKind.i64.wrap (V : Int) = (V : Int) := by rw [IntKind.wrap_i64]; omega
            go_wp2
            refine bodyPost_ret (v := retR (some (1, (V : Int), [], j))) (by simp [results, Tryd.results21, go_sem, retR]) rfl ⟨by rw [E3.out, if_neg (by decide)], (Below.refl _ _).alloc (Nat.le_refl _) _⟩

end Go.Proofs.YthiffpdioclnlaaDoor
