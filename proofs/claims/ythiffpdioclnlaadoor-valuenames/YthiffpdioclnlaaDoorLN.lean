/-
  The walk of the law ValueNames.
-/
import Derived.Test.YthiffpdioclnlaaDoorVU
import Derived.BigQuiet
set_option linter.unusedSimpArgs false
set_option linter.unusedVariables false
namespace Go.Proofs.YthiffpdioclnlaaDoor
open Go.RowKit
attribute [local go_sem ↓] Go.wp_at_zero Go.wp_at_succ

theorem name_k0 (b : Nat) (w : World) (hN : NamesAt w b) :
    Calls Tryd.prog 22 #[.pointer (some ⟨b, 0, none⟩), .int .i64 0] w fun e w' => e = .returned (.string ⟨#[97]⟩) ∧ NamesAt w' b ∧ w.grownBy w' (some b) := by
  have h := name_some b 0 w hN
  have e : nameOf 0 = ⟨#[97]⟩ := rfl
  rw [e] at h
  exact h
theorem attr_k0 (b : Nat) (w : World) (hN : NamesAt w b) :
    Calls Tryd.prog 23 #[.pointer (some ⟨b, 0, none⟩), .string ⟨#[97]⟩] w fun e w' => e = .returned (.int .i64 0) ∧ NamesAt w' b ∧ w.grownBy w' (some b) := by
  have h := attr_some b ⟨#[97]⟩ w hN
  have e : attrOf (⟨#[97]⟩ : ByteArray).data.toList = 0 := rfl
  rw [e] at h
  exact h
theorem name_k1 (b : Nat) (w : World) (hN : NamesAt w b) :
    Calls Tryd.prog 22 #[.pointer (some ⟨b, 0, none⟩), .int .i64 1] w fun e w' => e = .returned (.string ⟨#[98]⟩) ∧ NamesAt w' b ∧ w.grownBy w' (some b) := by
  have h := name_some b 1 w hN
  have e : nameOf 1 = ⟨#[98]⟩ := rfl
  rw [e] at h
  exact h
theorem attr_k1 (b : Nat) (w : World) (hN : NamesAt w b) :
    Calls Tryd.prog 23 #[.pointer (some ⟨b, 0, none⟩), .string ⟨#[98]⟩] w fun e w' => e = .returned (.int .i64 1) ∧ NamesAt w' b ∧ w.grownBy w' (some b) := by
  have h := attr_some b ⟨#[98]⟩ w hN
  have e : attrOf (⟨#[98]⟩ : ByteArray).data.toList = 1 := rfl
  rw [e] at h
  exact h
theorem name_k2 (b : Nat) (w : World) (hN : NamesAt w b) :
    Calls Tryd.prog 22 #[.pointer (some ⟨b, 0, none⟩), .int .i64 2] w fun e w' => e = .returned (.string ⟨#[99]⟩) ∧ NamesAt w' b ∧ w.grownBy w' (some b) := by
  have h := name_some b 2 w hN
  have e : nameOf 2 = ⟨#[99]⟩ := rfl
  rw [e] at h
  exact h
theorem attr_k2 (b : Nat) (w : World) (hN : NamesAt w b) :
    Calls Tryd.prog 23 #[.pointer (some ⟨b, 0, none⟩), .string ⟨#[99]⟩] w fun e w' => e = .returned (.int .i64 2) ∧ NamesAt w' b ∧ w.grownBy w' (some b) := by
  have h := attr_some b ⟨#[99]⟩ w hN
  have e : attrOf (⟨#[99]⟩ : ByteArray).data.toList = 2 := rfl
  rw [e] at h
  exact h
theorem name_k3 (b : Nat) (w : World) (hN : NamesAt w b) :
    Calls Tryd.prog 22 #[.pointer (some ⟨b, 0, none⟩), .int .i64 3] w fun e w' => e = .returned (.string ⟨#[100]⟩) ∧ NamesAt w' b ∧ w.grownBy w' (some b) := by
  have h := name_some b 3 w hN
  have e : nameOf 3 = ⟨#[100]⟩ := rfl
  rw [e] at h
  exact h
theorem attr_k3 (b : Nat) (w : World) (hN : NamesAt w b) :
    Calls Tryd.prog 23 #[.pointer (some ⟨b, 0, none⟩), .string ⟨#[100]⟩] w fun e w' => e = .returned (.int .i64 3) ∧ NamesAt w' b ∧ w.grownBy w' (some b) := by
  have h := attr_some b ⟨#[100]⟩ w hN
  have e : attrOf (⟨#[100]⟩ : ByteArray).data.toList = 3 := rfl
  rw [e] at h
  exact h

theorem name_off (a : Int) (h : a < 0 ∨ 4 ≤ a) : nameOf a = ⟨#[]⟩ := by
  unfold nameOf; rw [if_neg (by omega), if_neg (by omega), if_neg (by omega), if_neg (by omega)]
theorem one_byte (s : ByteArray) (h0 : 0 < s.size) (h : s.size = 1) : s.data.toList = [s[0]] := by
  have e := drop_at s 0 h0
  rw [List.drop_zero] at e
  rw [e, drop_end s 1 h.symm]
theorem attr_in (s : ByteArray) (h0 : 0 < s.size) (h : s.size = 1) (h1 : (97 : Int) ≤ (s[0].toNat : Int)) (h2 : (s[0].toNat : Int) ≤ 100) : attrOf s.data.toList = (s[0].toNat : Int) - 97 := by
  rw [one_byte s h0 h]
  generalize s[0] = c at *
  have : c.toNat = 97 ∨ c.toNat = 98 ∨ c.toNat = 99 ∨ c.toNat = 100 := by omega
  rcases this with e | e | e | e
  · rw [show c = 97 from UInt8.toNat_inj.1 (by rw [e]; rfl)]; rfl
  · rw [show c = 98 from UInt8.toNat_inj.1 (by rw [e]; rfl)]; rfl
  · rw [show c = 99 from UInt8.toNat_inj.1 (by rw [e]; rfl)]; rfl
  · rw [show c = 100 from UInt8.toNat_inj.1 (by rw [e]; rfl)]; rfl
theorem attr_off (s : ByteArray) (h0 : 0 < s.size) (h : s.size = 1) (h1 : (s[0].toNat : Int) < 97 ∨ 100 < (s[0].toNat : Int)) : attrOf s.data.toList = -1 := by
  rw [one_byte s h0 h]
  generalize s[0] = c at *
  unfold attrOf
  have ne : ∀ d : UInt8, 97 ≤ d.toNat → d.toNat ≤ 100 → ¬ [c] = [d] := fun d h3 h4 e => by
    injection e with e
    rw [e] at h1
    omega
  rw [if_neg (ne 97 (by decide) (by decide)), if_neg (ne 98 (by decide) (by decide)), if_neg (ne 99 (by decide) (by decide)), if_neg (ne 100 (by decide) (by decide))]
theorem attr_size (s : ByteArray) (h : ¬ s.size = 1) : attrOf s.data.toList = -1 := by
  have ne : ∀ d : UInt8, ¬ s.data.toList = [d] := fun d e => h (by rw [Lib.size_eq, e]; rfl)
  unfold attrOf
  rw [if_neg (ne _), if_neg (ne _), if_neg (ne _), if_neg (ne _)]

/-- The worlds in which a Names at block b may have been asked, and nothing else has turned. -/
structure NW (w : World) (b : Nat) where
  v : World
  hN : NamesAt v b
  hg : w.grownBy v (some b)

theorem wp_region_names {b : Nat} {id : Nat} {Q : Exit → Act → World → Prop} {a : Act} {w : World} {l : List Oper} (hm : Tryd.prog.follows .mixedOrders = true) (hB : Region.lexB .any l.toArray = true) (hN : NamesAt w b)
    (h : wpQuiet Tryd.prog l.toArray (fun w' => ∃ p : NW w b, w' = p.v) (fun a' => ∀ w', (∃ p : NW w b, w' = p.v) → Q .normal a' w') l a) : (Code.region id l.toArray true).wp Tryd.prog Q a w :=
  wp_region_quiet (C := fun w' => ∃ p : NW w b, w' = p.v) hm hB ⟨⟨{ w with drawn := w.drawn + 1 }, hN, ⟨rfl, rfl, rfl, Nat.le_refl _, fun _ _ _ => rfl⟩⟩, rfl⟩ (by simpa using h)

theorem nw_of {w : World} {b : Nat} (p : NW w b) {f : FuncId} {args : Array Value} {v : Value} (h : Calls Tryd.prog f args p.v fun e w' => e = .returned v ∧ NamesAt w' b ∧ p.v.grownBy w' (some b)) :
    Calls Tryd.prog f args p.v fun e w'' => e = .returned v ∧ ∃ p' : NW w b, w'' = p'.v :=
  h.mono fun _ w' ⟨he, hN, hg⟩ => ⟨he, ⟨w', hN, grown_trans p.hg hg⟩, rfl⟩

theorem ex_0 : (⟨#[97, 98, 99, 100]⟩ : ByteArray).extract 0 1 = ⟨#[97]⟩ := by rw [Lib.extract_eq]; rfl
theorem ex_1 : (⟨#[97, 98, 99, 100]⟩ : ByteArray).extract 1 2 = ⟨#[98]⟩ := by rw [Lib.extract_eq]; rfl
theorem ex_2 : (⟨#[97, 98, 99, 100]⟩ : ByteArray).extract 2 3 = ⟨#[99]⟩ := by rw [Lib.extract_eq]; rfl
theorem ex_3 : (⟨#[97, 98, 99, 100]⟩ : ByteArray).extract 3 4 = ⟨#[100]⟩ := by rw [Lib.extract_eq]; rfl
theorem mixedN : Tryd.prog.follows .mixedOrders = true := by kernel_rfl

set_option maxHeartbeats 2000000 in
set_option maxRecDepth 100000 in
theorem law_names (at_ : Int) (s : ByteArray) (many : Int) (w : World) (hE : Env w) (m0 : -9223372036854775808 ≤ many) (m1 : many ≤ 9223372036854775807) (hs : s.size ≤ maxLen) :
    Calls Tryd.prog 7 #[.int .i64 at_, .string s, .int .i64 many] w fun e w' => e = .returned (.bool true) ∧ Below w.heap.size w w' := by
  have HAW := fun (W : World) (h : Env W) => hide (awake_any W h)
  have HE := hide hE
  clear hE
  by_cases h100 : (100 : Int) < (s.size : Int)
  · go_enter Tryd.func7, Tryd.ntmps7
    go_wp2_with fail
    refine (unhide (HAW _ HE.out)).mono ?_
    rintro e w1 ⟨rfl, hb1⟩
    have HB1 := hide hb1
    have HE1 := hide (HE.out.on hb1)
    clear hb1
    go_wp2_with fail
    refine (unhide (HAW _ HE1.out)).mono ?_
    rintro e w2 ⟨rfl, hb2⟩
    have HB2 := hide (HB1.out.trans (hb2.mono HB1.out.size))
    clear hb2
    go_wp2
    go_ret
    exact ⟨rfl, HB2.out⟩
  · have r0 : 0 ≤ (IntKind.u64.wrap many).tmod 8 := by rw [IntKind.wrap_u64, Int.tmod_eq_emod_of_nonneg (by omega)]; omega
    have r1 : (IntKind.u64.wrap many).tmod 8 ≤ 7 := by rw [IntKind.wrap_u64, Int.tmod_eq_emod_of_nonneg (by omega)]; omega
    go_enter Tryd.func7, Tryd.ntmps7
    go_wp2_with fail
    refine (unhide (HAW _ HE.out)).mono ?_
    rintro e w1 ⟨rfl, hb1⟩
    have HB1 := hide hb1
    clear hb1
    go_wp2
    have HN0 : Hid (NamesAt (w1.alloc freshN) w1.heap.size) := hide (Or.inl (heap_new _ _))
    have HB2 : Hid (Below w.heap.size w (w1.alloc freshN)) := hide (HB1.out.alloc HB1.out.size _)
    have Hb : w.heap.size ≤ w1.heap.size := HB1.out.size
    unfold freshN at HN0 HB2
    generalize (IntKind.u64.wrap many).tmod 8 = r at *
    generalize w1.heap.size = b at *
    go_loopw [27] (fun i wr => ∃ k : Int, i = .int .i64 k ∧ 0 ≤ k ∧ k ≤ 1 + r ∧ Hid (NamesAt wr b) ∧ Hid (Below w.heap.size w wr)) (fun i _ => 9 - (intOf i).toNat)
    case atStart => exact ⟨0, rfl, by omega, by omega, HN0, HB2⟩
    case round =>
      obtain ⟨k, rfl, hk0, hk, HN, HB⟩ := hrel
      have Hz : w.heap.size ≤ wr.heap.size := HB.out.size
      have hne : Nonempty (NW wr b) := ⟨⟨wr, HN.out, grown_refl _ _⟩⟩
      clear HN0 HB2 HB1 HE HAW
      have e0 := ex_0
      have e1 := ex_1
      have e2 := ex_2
      have e3 := ex_3
      by_cases hlt : k < 1 + r
      · have hk8 : k = 0 ∨ k = 1 ∨ k = 2 ∨ k = 3 ∨ k = 4 ∨ k = 5 ∨ k = 6 ∨ k = 7 := by omega
        rcases hk8 with rfl | rfl | rfl | rfl | rfl | rfl | rfl | rfl
        · go_wp2
          refine wp_region_names mixedN (by kernel_rfl) HN.out ?_
          repeat (go_big_quiet_step ((first | exact nw_of _ (name_k0 _ _ (NW.hN _)) | exact nw_of _ (attr_k0 _ _ (NW.hN _)))))
          refine wpQuiet_nil ?_
          intro _ hw'
          obtain ⟨⟨w3, hN3, hg3⟩, hw''⟩ := hw'
          subst hw''
          go_wp2
          refine ⟨⟨1, by simp, by omega, by omega, hide hN3, hide (below_grownBy HB.out hg3 Hz Hb)⟩, by simp [intOf]⟩
        · go_wp2
          refine wp_region_names mixedN (by kernel_rfl) HN.out ?_
          repeat (go_big_quiet_step ((first | exact nw_of _ (name_k1 _ _ (NW.hN _)) | exact nw_of _ (attr_k1 _ _ (NW.hN _)))))
          refine wpQuiet_nil ?_
          intro _ hw'
          obtain ⟨⟨w3, hN3, hg3⟩, hw''⟩ := hw'
          subst hw''
          go_wp2
          refine ⟨⟨2, by simp, by omega, by omega, hide hN3, hide (below_grownBy HB.out hg3 Hz Hb)⟩, by simp [intOf]⟩
        · go_wp2
          refine wp_region_names mixedN (by kernel_rfl) HN.out ?_
          repeat (go_big_quiet_step ((first | exact nw_of _ (name_k2 _ _ (NW.hN _)) | exact nw_of _ (attr_k2 _ _ (NW.hN _)))))
          refine wpQuiet_nil ?_
          intro _ hw'
          obtain ⟨⟨w3, hN3, hg3⟩, hw''⟩ := hw'
          subst hw''
          go_wp2
          refine ⟨⟨3, by simp, by omega, by omega, hide hN3, hide (below_grownBy HB.out hg3 Hz Hb)⟩, by simp [intOf]⟩
        · go_wp2
          refine wp_region_names mixedN (by kernel_rfl) HN.out ?_
          repeat (go_big_quiet_step ((first | exact nw_of _ (name_k3 _ _ (NW.hN _)) | exact nw_of _ (attr_k3 _ _ (NW.hN _)))))
          refine wpQuiet_nil ?_
          intro _ hw'
          obtain ⟨⟨w3, hN3, hg3⟩, hw''⟩ := hw'
          subst hw''
          go_wp2
          refine ⟨⟨4, by simp, by omega, by omega, hide hN3, hide (below_grownBy HB.out hg3 Hz Hb)⟩, by simp [intOf]⟩
        · go_wp2
          refine wp_region_names mixedN (by kernel_rfl) HN.out ?_
          repeat (go_big_quiet_step ((first | exact nw_of _ (name_k0 _ _ (NW.hN _)) | exact nw_of _ (attr_k0 _ _ (NW.hN _)))))
          refine wpQuiet_nil ?_
          intro _ hw'
          obtain ⟨⟨w3, hN3, hg3⟩, hw''⟩ := hw'
          subst hw''
          go_wp2
          refine ⟨⟨5, by simp, by omega, by omega, hide hN3, hide (below_grownBy HB.out hg3 Hz Hb)⟩, by simp [intOf]⟩
        · go_wp2
          refine wp_region_names mixedN (by kernel_rfl) HN.out ?_
          repeat (go_big_quiet_step ((first | exact nw_of _ (name_k1 _ _ (NW.hN _)) | exact nw_of _ (attr_k1 _ _ (NW.hN _)))))
          refine wpQuiet_nil ?_
          intro _ hw'
          obtain ⟨⟨w3, hN3, hg3⟩, hw''⟩ := hw'
          subst hw''
          go_wp2
          refine ⟨⟨6, by simp, by omega, by omega, hide hN3, hide (below_grownBy HB.out hg3 Hz Hb)⟩, by simp [intOf]⟩
        · go_wp2
          refine wp_region_names mixedN (by kernel_rfl) HN.out ?_
          repeat (go_big_quiet_step ((first | exact nw_of _ (name_k2 _ _ (NW.hN _)) | exact nw_of _ (attr_k2 _ _ (NW.hN _)))))
          refine wpQuiet_nil ?_
          intro _ hw'
          obtain ⟨⟨w3, hN3, hg3⟩, hw''⟩ := hw'
          subst hw''
          go_wp2
          refine ⟨⟨7, by simp, by omega, by omega, hide hN3, hide (below_grownBy HB.out hg3 Hz Hb)⟩, by simp [intOf]⟩
        · go_wp2
          refine wp_region_names mixedN (by kernel_rfl) HN.out ?_
          repeat (go_big_quiet_step ((first | exact nw_of _ (name_k3 _ _ (NW.hN _)) | exact nw_of _ (attr_k3 _ _ (NW.hN _)))))
          refine wpQuiet_nil ?_
          intro _ hw'
          obtain ⟨⟨w3, hN3, hg3⟩, hw''⟩ := hw'
          subst hw''
          go_wp2
          refine ⟨⟨8, by simp, by omega, by omega, hide hN3, hide (below_grownBy HB.out hg3 Hz Hb)⟩, by simp [intOf]⟩
      · by_cases a0 : at_ < 0
        · have hnm := name_off at_ (Or.inl a0)
          by_cases q1 : s.size = 1
          · have q1' : ((s.size : Int) == 1) = true := by rw [q1]; rfl
            have h0 : 0 < s.size := by omega
            by_cases q2 : (97 : Int) ≤ (s[0].toNat : Int)
            · by_cases q3 : (s[0].toNat : Int) ≤ 100
              · have hav := attr_in s h0 q1 q2 q3
                clear q1
                have HN1 : ∀ W, NamesAt W b → Hid (Calls Tryd.prog 22 #[.pointer (some ⟨b, 0, none⟩), .int .i64 at_] W fun e w' => e = .returned (.string ⟨#[]⟩) ∧ NamesAt w' b ∧ W.grownBy w' (some b)) := fun W h => hide (by have h2 := name_some b at_ W h; rw [hnm] at h2; exact h2)
                have HN2 : ∀ W, Hid (Calls Tryd.prog 22 #[.pointer none, .int .i64 at_] W fun e w' => e = .returned (.string ⟨#[]⟩) ∧ Below W.heap.size W w') := fun W => hide (by have h2 := name_nil at_ W; rw [hnm] at h2; exact h2)
                have HA1 : ∀ W, NamesAt W b → Hid (Calls Tryd.prog 23 #[.pointer (some ⟨b, 0, none⟩), .string s] W fun e w' => e = .returned (.int .i64 ((s[0].toNat : Int) - 97)) ∧ NamesAt w' b ∧ W.grownBy w' (some b)) := fun W h => hide (by have h2 := attr_some b s W h; rw [hav] at h2; exact h2)
                have HA2 : ∀ W, Hid (Calls Tryd.prog 23 #[.pointer none, .string s] W fun e w' => e = .returned (.int .i64 ((s[0].toNat : Int) - 97)) ∧ Below W.heap.size W w') := fun W => hide (by have h2 := attr_nil s W; rw [hav] at h2; exact h2)
                clear hnm hav
                go_wp2_with fail
                refine (unhide (HN1 _ HN.out)).mono ?_
                rintro e w2 ⟨rfl, hN2, hg2⟩
                have B2 := hide (below_grownBy HB.out hg2 Hz Hb)
                go_wp2_with fail
                refine (unhide (HN2 _)).mono ?_
                rintro e w3 ⟨rfl, hb3⟩
                have B3 := hide (B2.out.trans (hb3.mono B2.out.size))
                have N3 := hide (NamesAt.on hN2 hb3)
                clear hb3 hN2 hg2
                go_wp2_with fail
                refine (unhide (HA1 _ N3.out)).mono ?_
                rintro e w4 ⟨rfl, hN4, hg4⟩
                have B4 := hide (below_grownBy B3.out hg4 B3.out.size Hb)
                clear hN4 hg4
                go_wp2_with fail
                refine (unhide (HA2 _)).mono ?_
                rintro e w5 ⟨rfl, hb5⟩
                have B5 := hide (B4.out.trans (hb5.mono B4.out.size))
                clear hb5
                go_wp2
                go_ret
                exact ⟨rfl, B5.out⟩
              · have hav := attr_off s h0 q1 (Or.inr (by omega))
                clear q1
                have HN1 : ∀ W, NamesAt W b → Hid (Calls Tryd.prog 22 #[.pointer (some ⟨b, 0, none⟩), .int .i64 at_] W fun e w' => e = .returned (.string ⟨#[]⟩) ∧ NamesAt w' b ∧ W.grownBy w' (some b)) := fun W h => hide (by have h2 := name_some b at_ W h; rw [hnm] at h2; exact h2)
                have HN2 : ∀ W, Hid (Calls Tryd.prog 22 #[.pointer none, .int .i64 at_] W fun e w' => e = .returned (.string ⟨#[]⟩) ∧ Below W.heap.size W w') := fun W => hide (by have h2 := name_nil at_ W; rw [hnm] at h2; exact h2)
                have HA1 : ∀ W, NamesAt W b → Hid (Calls Tryd.prog 23 #[.pointer (some ⟨b, 0, none⟩), .string s] W fun e w' => e = .returned (.int .i64 (-1)) ∧ NamesAt w' b ∧ W.grownBy w' (some b)) := fun W h => hide (by have h2 := attr_some b s W h; rw [hav] at h2; exact h2)
                have HA2 : ∀ W, Hid (Calls Tryd.prog 23 #[.pointer none, .string s] W fun e w' => e = .returned (.int .i64 (-1)) ∧ Below W.heap.size W w') := fun W => hide (by have h2 := attr_nil s W; rw [hav] at h2; exact h2)
                clear hnm hav
                go_wp2_with fail
                refine (unhide (HN1 _ HN.out)).mono ?_
                rintro e w2 ⟨rfl, hN2, hg2⟩
                have B2 := hide (below_grownBy HB.out hg2 Hz Hb)
                go_wp2_with fail
                refine (unhide (HN2 _)).mono ?_
                rintro e w3 ⟨rfl, hb3⟩
                have B3 := hide (B2.out.trans (hb3.mono B2.out.size))
                have N3 := hide (NamesAt.on hN2 hb3)
                clear hb3 hN2 hg2
                go_wp2_with fail
                refine (unhide (HA1 _ N3.out)).mono ?_
                rintro e w4 ⟨rfl, hN4, hg4⟩
                have B4 := hide (below_grownBy B3.out hg4 B3.out.size Hb)
                clear hN4 hg4
                go_wp2_with fail
                refine (unhide (HA2 _)).mono ?_
                rintro e w5 ⟨rfl, hb5⟩
                have B5 := hide (B4.out.trans (hb5.mono B4.out.size))
                clear hb5
                go_wp2
                go_ret
                exact ⟨rfl, B5.out⟩
            · have hav := attr_off s h0 q1 (Or.inl (by omega))
              clear q1
              have HN1 : ∀ W, NamesAt W b → Hid (Calls Tryd.prog 22 #[.pointer (some ⟨b, 0, none⟩), .int .i64 at_] W fun e w' => e = .returned (.string ⟨#[]⟩) ∧ NamesAt w' b ∧ W.grownBy w' (some b)) := fun W h => hide (by have h2 := name_some b at_ W h; rw [hnm] at h2; exact h2)
              have HN2 : ∀ W, Hid (Calls Tryd.prog 22 #[.pointer none, .int .i64 at_] W fun e w' => e = .returned (.string ⟨#[]⟩) ∧ Below W.heap.size W w') := fun W => hide (by have h2 := name_nil at_ W; rw [hnm] at h2; exact h2)
              have HA1 : ∀ W, NamesAt W b → Hid (Calls Tryd.prog 23 #[.pointer (some ⟨b, 0, none⟩), .string s] W fun e w' => e = .returned (.int .i64 (-1)) ∧ NamesAt w' b ∧ W.grownBy w' (some b)) := fun W h => hide (by have h2 := attr_some b s W h; rw [hav] at h2; exact h2)
              have HA2 : ∀ W, Hid (Calls Tryd.prog 23 #[.pointer none, .string s] W fun e w' => e = .returned (.int .i64 (-1)) ∧ Below W.heap.size W w') := fun W => hide (by have h2 := attr_nil s W; rw [hav] at h2; exact h2)
              clear hnm hav
              go_wp2_with fail
              refine (unhide (HN1 _ HN.out)).mono ?_
              rintro e w2 ⟨rfl, hN2, hg2⟩
              have B2 := hide (below_grownBy HB.out hg2 Hz Hb)
              go_wp2_with fail
              refine (unhide (HN2 _)).mono ?_
              rintro e w3 ⟨rfl, hb3⟩
              have B3 := hide (B2.out.trans (hb3.mono B2.out.size))
              have N3 := hide (NamesAt.on hN2 hb3)
              clear hb3 hN2 hg2
              go_wp2_with fail
              refine (unhide (HA1 _ N3.out)).mono ?_
              rintro e w4 ⟨rfl, hN4, hg4⟩
              have B4 := hide (below_grownBy B3.out hg4 B3.out.size Hb)
              clear hN4 hg4
              go_wp2_with fail
              refine (unhide (HA2 _)).mono ?_
              rintro e w5 ⟨rfl, hb5⟩
              have B5 := hide (B4.out.trans (hb5.mono B4.out.size))
              clear hb5
              go_wp2
              go_ret
              exact ⟨rfl, B5.out⟩
          · have q1' : ((s.size : Int) == 1) = false := beq_eq_false_iff_ne.2 (by omega)
            have hav := attr_size s q1
            have HN1 : ∀ W, NamesAt W b → Hid (Calls Tryd.prog 22 #[.pointer (some ⟨b, 0, none⟩), .int .i64 at_] W fun e w' => e = .returned (.string ⟨#[]⟩) ∧ NamesAt w' b ∧ W.grownBy w' (some b)) := fun W h => hide (by have h2 := name_some b at_ W h; rw [hnm] at h2; exact h2)
            have HN2 : ∀ W, Hid (Calls Tryd.prog 22 #[.pointer none, .int .i64 at_] W fun e w' => e = .returned (.string ⟨#[]⟩) ∧ Below W.heap.size W w') := fun W => hide (by have h2 := name_nil at_ W; rw [hnm] at h2; exact h2)
            have HA1 : ∀ W, NamesAt W b → Hid (Calls Tryd.prog 23 #[.pointer (some ⟨b, 0, none⟩), .string s] W fun e w' => e = .returned (.int .i64 (-1)) ∧ NamesAt w' b ∧ W.grownBy w' (some b)) := fun W h => hide (by have h2 := attr_some b s W h; rw [hav] at h2; exact h2)
            have HA2 : ∀ W, Hid (Calls Tryd.prog 23 #[.pointer none, .string s] W fun e w' => e = .returned (.int .i64 (-1)) ∧ Below W.heap.size W w') := fun W => hide (by have h2 := attr_nil s W; rw [hav] at h2; exact h2)
            clear hnm hav
            go_wp2_with fail
            refine (unhide (HN1 _ HN.out)).mono ?_
            rintro e w2 ⟨rfl, hN2, hg2⟩
            have B2 := hide (below_grownBy HB.out hg2 Hz Hb)
            go_wp2_with fail
            refine (unhide (HN2 _)).mono ?_
            rintro e w3 ⟨rfl, hb3⟩
            have B3 := hide (B2.out.trans (hb3.mono B2.out.size))
            have N3 := hide (NamesAt.on hN2 hb3)
            clear hb3 hN2 hg2
            go_wp2_with fail
            refine (unhide (HA1 _ N3.out)).mono ?_
            rintro e w4 ⟨rfl, hN4, hg4⟩
            have B4 := hide (below_grownBy B3.out hg4 B3.out.size Hb)
            clear hN4 hg4
            go_wp2_with fail
            refine (unhide (HA2 _)).mono ?_
            rintro e w5 ⟨rfl, hb5⟩
            have B5 := hide (B4.out.trans (hb5.mono B4.out.size))
            clear hb5
            go_wp2
            go_ret
            exact ⟨rfl, B5.out⟩
        by_cases a4 : 4 ≤ at_
        · have hnm := name_off at_ (Or.inr a4)
          by_cases q1 : s.size = 1
          · have q1' : ((s.size : Int) == 1) = true := by rw [q1]; rfl
            have h0 : 0 < s.size := by omega
            by_cases q2 : (97 : Int) ≤ (s[0].toNat : Int)
            · by_cases q3 : (s[0].toNat : Int) ≤ 100
              · have hav := attr_in s h0 q1 q2 q3
                clear q1
                have HN1 : ∀ W, NamesAt W b → Hid (Calls Tryd.prog 22 #[.pointer (some ⟨b, 0, none⟩), .int .i64 at_] W fun e w' => e = .returned (.string ⟨#[]⟩) ∧ NamesAt w' b ∧ W.grownBy w' (some b)) := fun W h => hide (by have h2 := name_some b at_ W h; rw [hnm] at h2; exact h2)
                have HN2 : ∀ W, Hid (Calls Tryd.prog 22 #[.pointer none, .int .i64 at_] W fun e w' => e = .returned (.string ⟨#[]⟩) ∧ Below W.heap.size W w') := fun W => hide (by have h2 := name_nil at_ W; rw [hnm] at h2; exact h2)
                have HA1 : ∀ W, NamesAt W b → Hid (Calls Tryd.prog 23 #[.pointer (some ⟨b, 0, none⟩), .string s] W fun e w' => e = .returned (.int .i64 ((s[0].toNat : Int) - 97)) ∧ NamesAt w' b ∧ W.grownBy w' (some b)) := fun W h => hide (by have h2 := attr_some b s W h; rw [hav] at h2; exact h2)
                have HA2 : ∀ W, Hid (Calls Tryd.prog 23 #[.pointer none, .string s] W fun e w' => e = .returned (.int .i64 ((s[0].toNat : Int) - 97)) ∧ Below W.heap.size W w') := fun W => hide (by have h2 := attr_nil s W; rw [hav] at h2; exact h2)
                clear hnm hav
                go_wp2_with fail
                refine (unhide (HN1 _ HN.out)).mono ?_
                rintro e w2 ⟨rfl, hN2, hg2⟩
                have B2 := hide (below_grownBy HB.out hg2 Hz Hb)
                go_wp2_with fail
                refine (unhide (HN2 _)).mono ?_
                rintro e w3 ⟨rfl, hb3⟩
                have B3 := hide (B2.out.trans (hb3.mono B2.out.size))
                have N3 := hide (NamesAt.on hN2 hb3)
                clear hb3 hN2 hg2
                go_wp2_with fail
                refine (unhide (HA1 _ N3.out)).mono ?_
                rintro e w4 ⟨rfl, hN4, hg4⟩
                have B4 := hide (below_grownBy B3.out hg4 B3.out.size Hb)
                clear hN4 hg4
                go_wp2_with fail
                refine (unhide (HA2 _)).mono ?_
                rintro e w5 ⟨rfl, hb5⟩
                have B5 := hide (B4.out.trans (hb5.mono B4.out.size))
                clear hb5
                go_wp2
                go_ret
                exact ⟨rfl, B5.out⟩
              · have hav := attr_off s h0 q1 (Or.inr (by omega))
                clear q1
                have HN1 : ∀ W, NamesAt W b → Hid (Calls Tryd.prog 22 #[.pointer (some ⟨b, 0, none⟩), .int .i64 at_] W fun e w' => e = .returned (.string ⟨#[]⟩) ∧ NamesAt w' b ∧ W.grownBy w' (some b)) := fun W h => hide (by have h2 := name_some b at_ W h; rw [hnm] at h2; exact h2)
                have HN2 : ∀ W, Hid (Calls Tryd.prog 22 #[.pointer none, .int .i64 at_] W fun e w' => e = .returned (.string ⟨#[]⟩) ∧ Below W.heap.size W w') := fun W => hide (by have h2 := name_nil at_ W; rw [hnm] at h2; exact h2)
                have HA1 : ∀ W, NamesAt W b → Hid (Calls Tryd.prog 23 #[.pointer (some ⟨b, 0, none⟩), .string s] W fun e w' => e = .returned (.int .i64 (-1)) ∧ NamesAt w' b ∧ W.grownBy w' (some b)) := fun W h => hide (by have h2 := attr_some b s W h; rw [hav] at h2; exact h2)
                have HA2 : ∀ W, Hid (Calls Tryd.prog 23 #[.pointer none, .string s] W fun e w' => e = .returned (.int .i64 (-1)) ∧ Below W.heap.size W w') := fun W => hide (by have h2 := attr_nil s W; rw [hav] at h2; exact h2)
                clear hnm hav
                go_wp2_with fail
                refine (unhide (HN1 _ HN.out)).mono ?_
                rintro e w2 ⟨rfl, hN2, hg2⟩
                have B2 := hide (below_grownBy HB.out hg2 Hz Hb)
                go_wp2_with fail
                refine (unhide (HN2 _)).mono ?_
                rintro e w3 ⟨rfl, hb3⟩
                have B3 := hide (B2.out.trans (hb3.mono B2.out.size))
                have N3 := hide (NamesAt.on hN2 hb3)
                clear hb3 hN2 hg2
                go_wp2_with fail
                refine (unhide (HA1 _ N3.out)).mono ?_
                rintro e w4 ⟨rfl, hN4, hg4⟩
                have B4 := hide (below_grownBy B3.out hg4 B3.out.size Hb)
                clear hN4 hg4
                go_wp2_with fail
                refine (unhide (HA2 _)).mono ?_
                rintro e w5 ⟨rfl, hb5⟩
                have B5 := hide (B4.out.trans (hb5.mono B4.out.size))
                clear hb5
                go_wp2
                go_ret
                exact ⟨rfl, B5.out⟩
            · have hav := attr_off s h0 q1 (Or.inl (by omega))
              clear q1
              have HN1 : ∀ W, NamesAt W b → Hid (Calls Tryd.prog 22 #[.pointer (some ⟨b, 0, none⟩), .int .i64 at_] W fun e w' => e = .returned (.string ⟨#[]⟩) ∧ NamesAt w' b ∧ W.grownBy w' (some b)) := fun W h => hide (by have h2 := name_some b at_ W h; rw [hnm] at h2; exact h2)
              have HN2 : ∀ W, Hid (Calls Tryd.prog 22 #[.pointer none, .int .i64 at_] W fun e w' => e = .returned (.string ⟨#[]⟩) ∧ Below W.heap.size W w') := fun W => hide (by have h2 := name_nil at_ W; rw [hnm] at h2; exact h2)
              have HA1 : ∀ W, NamesAt W b → Hid (Calls Tryd.prog 23 #[.pointer (some ⟨b, 0, none⟩), .string s] W fun e w' => e = .returned (.int .i64 (-1)) ∧ NamesAt w' b ∧ W.grownBy w' (some b)) := fun W h => hide (by have h2 := attr_some b s W h; rw [hav] at h2; exact h2)
              have HA2 : ∀ W, Hid (Calls Tryd.prog 23 #[.pointer none, .string s] W fun e w' => e = .returned (.int .i64 (-1)) ∧ Below W.heap.size W w') := fun W => hide (by have h2 := attr_nil s W; rw [hav] at h2; exact h2)
              clear hnm hav
              go_wp2_with fail
              refine (unhide (HN1 _ HN.out)).mono ?_
              rintro e w2 ⟨rfl, hN2, hg2⟩
              have B2 := hide (below_grownBy HB.out hg2 Hz Hb)
              go_wp2_with fail
              refine (unhide (HN2 _)).mono ?_
              rintro e w3 ⟨rfl, hb3⟩
              have B3 := hide (B2.out.trans (hb3.mono B2.out.size))
              have N3 := hide (NamesAt.on hN2 hb3)
              clear hb3 hN2 hg2
              go_wp2_with fail
              refine (unhide (HA1 _ N3.out)).mono ?_
              rintro e w4 ⟨rfl, hN4, hg4⟩
              have B4 := hide (below_grownBy B3.out hg4 B3.out.size Hb)
              clear hN4 hg4
              go_wp2_with fail
              refine (unhide (HA2 _)).mono ?_
              rintro e w5 ⟨rfl, hb5⟩
              have B5 := hide (B4.out.trans (hb5.mono B4.out.size))
              clear hb5
              go_wp2
              go_ret
              exact ⟨rfl, B5.out⟩
          · have q1' : ((s.size : Int) == 1) = false := beq_eq_false_iff_ne.2 (by omega)
            have hav := attr_size s q1
            have HN1 : ∀ W, NamesAt W b → Hid (Calls Tryd.prog 22 #[.pointer (some ⟨b, 0, none⟩), .int .i64 at_] W fun e w' => e = .returned (.string ⟨#[]⟩) ∧ NamesAt w' b ∧ W.grownBy w' (some b)) := fun W h => hide (by have h2 := name_some b at_ W h; rw [hnm] at h2; exact h2)
            have HN2 : ∀ W, Hid (Calls Tryd.prog 22 #[.pointer none, .int .i64 at_] W fun e w' => e = .returned (.string ⟨#[]⟩) ∧ Below W.heap.size W w') := fun W => hide (by have h2 := name_nil at_ W; rw [hnm] at h2; exact h2)
            have HA1 : ∀ W, NamesAt W b → Hid (Calls Tryd.prog 23 #[.pointer (some ⟨b, 0, none⟩), .string s] W fun e w' => e = .returned (.int .i64 (-1)) ∧ NamesAt w' b ∧ W.grownBy w' (some b)) := fun W h => hide (by have h2 := attr_some b s W h; rw [hav] at h2; exact h2)
            have HA2 : ∀ W, Hid (Calls Tryd.prog 23 #[.pointer none, .string s] W fun e w' => e = .returned (.int .i64 (-1)) ∧ Below W.heap.size W w') := fun W => hide (by have h2 := attr_nil s W; rw [hav] at h2; exact h2)
            clear hnm hav
            go_wp2_with fail
            refine (unhide (HN1 _ HN.out)).mono ?_
            rintro e w2 ⟨rfl, hN2, hg2⟩
            have B2 := hide (below_grownBy HB.out hg2 Hz Hb)
            go_wp2_with fail
            refine (unhide (HN2 _)).mono ?_
            rintro e w3 ⟨rfl, hb3⟩
            have B3 := hide (B2.out.trans (hb3.mono B2.out.size))
            have N3 := hide (NamesAt.on hN2 hb3)
            clear hb3 hN2 hg2
            go_wp2_with fail
            refine (unhide (HA1 _ N3.out)).mono ?_
            rintro e w4 ⟨rfl, hN4, hg4⟩
            have B4 := hide (below_grownBy B3.out hg4 B3.out.size Hb)
            clear hN4 hg4
            go_wp2_with fail
            refine (unhide (HA2 _)).mono ?_
            rintro e w5 ⟨rfl, hb5⟩
            have B5 := hide (B4.out.trans (hb5.mono B4.out.size))
            clear hb5
            go_wp2
            go_ret
            exact ⟨rfl, B5.out⟩
        have ha : at_ = 0 ∨ at_ = 1 ∨ at_ = 2 ∨ at_ = 3 := by omega
        rcases ha with rfl | rfl | rfl | rfl
        · have hnm : nameOf 0 = ⟨#[97]⟩ := rfl
          by_cases q1 : s.size = 1
          · have q1' : ((s.size : Int) == 1) = true := by rw [q1]; rfl
            have h0 : 0 < s.size := by omega
            by_cases q2 : (97 : Int) ≤ (s[0].toNat : Int)
            · by_cases q3 : (s[0].toNat : Int) ≤ 100
              · have hav := attr_in s h0 q1 q2 q3
                clear q1
                have HN1 : ∀ W, NamesAt W b → Hid (Calls Tryd.prog 22 #[.pointer (some ⟨b, 0, none⟩), .int .i64 0] W fun e w' => e = .returned (.string ⟨#[97]⟩) ∧ NamesAt w' b ∧ W.grownBy w' (some b)) := fun W h => hide (by have h2 := name_some b 0 W h; rw [hnm] at h2; exact h2)
                have HN2 : ∀ W, Hid (Calls Tryd.prog 22 #[.pointer none, .int .i64 0] W fun e w' => e = .returned (.string ⟨#[97]⟩) ∧ Below W.heap.size W w') := fun W => hide (by have h2 := name_nil 0 W; rw [hnm] at h2; exact h2)
                have HA1 : ∀ W, NamesAt W b → Hid (Calls Tryd.prog 23 #[.pointer (some ⟨b, 0, none⟩), .string s] W fun e w' => e = .returned (.int .i64 ((s[0].toNat : Int) - 97)) ∧ NamesAt w' b ∧ W.grownBy w' (some b)) := fun W h => hide (by have h2 := attr_some b s W h; rw [hav] at h2; exact h2)
                have HA2 : ∀ W, Hid (Calls Tryd.prog 23 #[.pointer none, .string s] W fun e w' => e = .returned (.int .i64 ((s[0].toNat : Int) - 97)) ∧ Below W.heap.size W w') := fun W => hide (by have h2 := attr_nil s W; rw [hav] at h2; exact h2)
                clear hnm hav
                go_wp2_with fail
                refine (unhide (HN1 _ HN.out)).mono ?_
                rintro e w2 ⟨rfl, hN2, hg2⟩
                have B2 := hide (below_grownBy HB.out hg2 Hz Hb)
                go_wp2_with fail
                refine (unhide (HN2 _)).mono ?_
                rintro e w3 ⟨rfl, hb3⟩
                have B3 := hide (B2.out.trans (hb3.mono B2.out.size))
                have N3 := hide (NamesAt.on hN2 hb3)
                clear hb3 hN2 hg2
                go_wp2_with fail
                refine (unhide (HA1 _ N3.out)).mono ?_
                rintro e w4 ⟨rfl, hN4, hg4⟩
                have B4 := hide (below_grownBy B3.out hg4 B3.out.size Hb)
                clear hN4 hg4
                go_wp2_with fail
                refine (unhide (HA2 _)).mono ?_
                rintro e w5 ⟨rfl, hb5⟩
                have B5 := hide (B4.out.trans (hb5.mono B4.out.size))
                clear hb5
                go_wp2
                go_ret
                exact ⟨rfl, B5.out⟩
              · have hav := attr_off s h0 q1 (Or.inr (by omega))
                clear q1
                have HN1 : ∀ W, NamesAt W b → Hid (Calls Tryd.prog 22 #[.pointer (some ⟨b, 0, none⟩), .int .i64 0] W fun e w' => e = .returned (.string ⟨#[97]⟩) ∧ NamesAt w' b ∧ W.grownBy w' (some b)) := fun W h => hide (by have h2 := name_some b 0 W h; rw [hnm] at h2; exact h2)
                have HN2 : ∀ W, Hid (Calls Tryd.prog 22 #[.pointer none, .int .i64 0] W fun e w' => e = .returned (.string ⟨#[97]⟩) ∧ Below W.heap.size W w') := fun W => hide (by have h2 := name_nil 0 W; rw [hnm] at h2; exact h2)
                have HA1 : ∀ W, NamesAt W b → Hid (Calls Tryd.prog 23 #[.pointer (some ⟨b, 0, none⟩), .string s] W fun e w' => e = .returned (.int .i64 (-1)) ∧ NamesAt w' b ∧ W.grownBy w' (some b)) := fun W h => hide (by have h2 := attr_some b s W h; rw [hav] at h2; exact h2)
                have HA2 : ∀ W, Hid (Calls Tryd.prog 23 #[.pointer none, .string s] W fun e w' => e = .returned (.int .i64 (-1)) ∧ Below W.heap.size W w') := fun W => hide (by have h2 := attr_nil s W; rw [hav] at h2; exact h2)
                clear hnm hav
                go_wp2_with fail
                refine (unhide (HN1 _ HN.out)).mono ?_
                rintro e w2 ⟨rfl, hN2, hg2⟩
                have B2 := hide (below_grownBy HB.out hg2 Hz Hb)
                go_wp2_with fail
                refine (unhide (HN2 _)).mono ?_
                rintro e w3 ⟨rfl, hb3⟩
                have B3 := hide (B2.out.trans (hb3.mono B2.out.size))
                have N3 := hide (NamesAt.on hN2 hb3)
                clear hb3 hN2 hg2
                go_wp2_with fail
                refine (unhide (HA1 _ N3.out)).mono ?_
                rintro e w4 ⟨rfl, hN4, hg4⟩
                have B4 := hide (below_grownBy B3.out hg4 B3.out.size Hb)
                clear hN4 hg4
                go_wp2_with fail
                refine (unhide (HA2 _)).mono ?_
                rintro e w5 ⟨rfl, hb5⟩
                have B5 := hide (B4.out.trans (hb5.mono B4.out.size))
                clear hb5
                go_wp2
                go_ret
                exact ⟨rfl, B5.out⟩
            · have hav := attr_off s h0 q1 (Or.inl (by omega))
              clear q1
              have HN1 : ∀ W, NamesAt W b → Hid (Calls Tryd.prog 22 #[.pointer (some ⟨b, 0, none⟩), .int .i64 0] W fun e w' => e = .returned (.string ⟨#[97]⟩) ∧ NamesAt w' b ∧ W.grownBy w' (some b)) := fun W h => hide (by have h2 := name_some b 0 W h; rw [hnm] at h2; exact h2)
              have HN2 : ∀ W, Hid (Calls Tryd.prog 22 #[.pointer none, .int .i64 0] W fun e w' => e = .returned (.string ⟨#[97]⟩) ∧ Below W.heap.size W w') := fun W => hide (by have h2 := name_nil 0 W; rw [hnm] at h2; exact h2)
              have HA1 : ∀ W, NamesAt W b → Hid (Calls Tryd.prog 23 #[.pointer (some ⟨b, 0, none⟩), .string s] W fun e w' => e = .returned (.int .i64 (-1)) ∧ NamesAt w' b ∧ W.grownBy w' (some b)) := fun W h => hide (by have h2 := attr_some b s W h; rw [hav] at h2; exact h2)
              have HA2 : ∀ W, Hid (Calls Tryd.prog 23 #[.pointer none, .string s] W fun e w' => e = .returned (.int .i64 (-1)) ∧ Below W.heap.size W w') := fun W => hide (by have h2 := attr_nil s W; rw [hav] at h2; exact h2)
              clear hnm hav
              go_wp2_with fail
              refine (unhide (HN1 _ HN.out)).mono ?_
              rintro e w2 ⟨rfl, hN2, hg2⟩
              have B2 := hide (below_grownBy HB.out hg2 Hz Hb)
              go_wp2_with fail
              refine (unhide (HN2 _)).mono ?_
              rintro e w3 ⟨rfl, hb3⟩
              have B3 := hide (B2.out.trans (hb3.mono B2.out.size))
              have N3 := hide (NamesAt.on hN2 hb3)
              clear hb3 hN2 hg2
              go_wp2_with fail
              refine (unhide (HA1 _ N3.out)).mono ?_
              rintro e w4 ⟨rfl, hN4, hg4⟩
              have B4 := hide (below_grownBy B3.out hg4 B3.out.size Hb)
              clear hN4 hg4
              go_wp2_with fail
              refine (unhide (HA2 _)).mono ?_
              rintro e w5 ⟨rfl, hb5⟩
              have B5 := hide (B4.out.trans (hb5.mono B4.out.size))
              clear hb5
              go_wp2
              go_ret
              exact ⟨rfl, B5.out⟩
          · have q1' : ((s.size : Int) == 1) = false := beq_eq_false_iff_ne.2 (by omega)
            have hav := attr_size s q1
            have HN1 : ∀ W, NamesAt W b → Hid (Calls Tryd.prog 22 #[.pointer (some ⟨b, 0, none⟩), .int .i64 0] W fun e w' => e = .returned (.string ⟨#[97]⟩) ∧ NamesAt w' b ∧ W.grownBy w' (some b)) := fun W h => hide (by have h2 := name_some b 0 W h; rw [hnm] at h2; exact h2)
            have HN2 : ∀ W, Hid (Calls Tryd.prog 22 #[.pointer none, .int .i64 0] W fun e w' => e = .returned (.string ⟨#[97]⟩) ∧ Below W.heap.size W w') := fun W => hide (by have h2 := name_nil 0 W; rw [hnm] at h2; exact h2)
            have HA1 : ∀ W, NamesAt W b → Hid (Calls Tryd.prog 23 #[.pointer (some ⟨b, 0, none⟩), .string s] W fun e w' => e = .returned (.int .i64 (-1)) ∧ NamesAt w' b ∧ W.grownBy w' (some b)) := fun W h => hide (by have h2 := attr_some b s W h; rw [hav] at h2; exact h2)
            have HA2 : ∀ W, Hid (Calls Tryd.prog 23 #[.pointer none, .string s] W fun e w' => e = .returned (.int .i64 (-1)) ∧ Below W.heap.size W w') := fun W => hide (by have h2 := attr_nil s W; rw [hav] at h2; exact h2)
            clear hnm hav
            go_wp2_with fail
            refine (unhide (HN1 _ HN.out)).mono ?_
            rintro e w2 ⟨rfl, hN2, hg2⟩
            have B2 := hide (below_grownBy HB.out hg2 Hz Hb)
            go_wp2_with fail
            refine (unhide (HN2 _)).mono ?_
            rintro e w3 ⟨rfl, hb3⟩
            have B3 := hide (B2.out.trans (hb3.mono B2.out.size))
            have N3 := hide (NamesAt.on hN2 hb3)
            clear hb3 hN2 hg2
            go_wp2_with fail
            refine (unhide (HA1 _ N3.out)).mono ?_
            rintro e w4 ⟨rfl, hN4, hg4⟩
            have B4 := hide (below_grownBy B3.out hg4 B3.out.size Hb)
            clear hN4 hg4
            go_wp2_with fail
            refine (unhide (HA2 _)).mono ?_
            rintro e w5 ⟨rfl, hb5⟩
            have B5 := hide (B4.out.trans (hb5.mono B4.out.size))
            clear hb5
            go_wp2
            go_ret
            exact ⟨rfl, B5.out⟩
        · have hnm : nameOf 1 = ⟨#[98]⟩ := rfl
          by_cases q1 : s.size = 1
          · have q1' : ((s.size : Int) == 1) = true := by rw [q1]; rfl
            have h0 : 0 < s.size := by omega
            by_cases q2 : (97 : Int) ≤ (s[0].toNat : Int)
            · by_cases q3 : (s[0].toNat : Int) ≤ 100
              · have hav := attr_in s h0 q1 q2 q3
                clear q1
                have HN1 : ∀ W, NamesAt W b → Hid (Calls Tryd.prog 22 #[.pointer (some ⟨b, 0, none⟩), .int .i64 1] W fun e w' => e = .returned (.string ⟨#[98]⟩) ∧ NamesAt w' b ∧ W.grownBy w' (some b)) := fun W h => hide (by have h2 := name_some b 1 W h; rw [hnm] at h2; exact h2)
                have HN2 : ∀ W, Hid (Calls Tryd.prog 22 #[.pointer none, .int .i64 1] W fun e w' => e = .returned (.string ⟨#[98]⟩) ∧ Below W.heap.size W w') := fun W => hide (by have h2 := name_nil 1 W; rw [hnm] at h2; exact h2)
                have HA1 : ∀ W, NamesAt W b → Hid (Calls Tryd.prog 23 #[.pointer (some ⟨b, 0, none⟩), .string s] W fun e w' => e = .returned (.int .i64 ((s[0].toNat : Int) - 97)) ∧ NamesAt w' b ∧ W.grownBy w' (some b)) := fun W h => hide (by have h2 := attr_some b s W h; rw [hav] at h2; exact h2)
                have HA2 : ∀ W, Hid (Calls Tryd.prog 23 #[.pointer none, .string s] W fun e w' => e = .returned (.int .i64 ((s[0].toNat : Int) - 97)) ∧ Below W.heap.size W w') := fun W => hide (by have h2 := attr_nil s W; rw [hav] at h2; exact h2)
                clear hnm hav
                go_wp2_with fail
                refine (unhide (HN1 _ HN.out)).mono ?_
                rintro e w2 ⟨rfl, hN2, hg2⟩
                have B2 := hide (below_grownBy HB.out hg2 Hz Hb)
                go_wp2_with fail
                refine (unhide (HN2 _)).mono ?_
                rintro e w3 ⟨rfl, hb3⟩
                have B3 := hide (B2.out.trans (hb3.mono B2.out.size))
                have N3 := hide (NamesAt.on hN2 hb3)
                clear hb3 hN2 hg2
                go_wp2_with fail
                refine (unhide (HA1 _ N3.out)).mono ?_
                rintro e w4 ⟨rfl, hN4, hg4⟩
                have B4 := hide (below_grownBy B3.out hg4 B3.out.size Hb)
                clear hN4 hg4
                go_wp2_with fail
                refine (unhide (HA2 _)).mono ?_
                rintro e w5 ⟨rfl, hb5⟩
                have B5 := hide (B4.out.trans (hb5.mono B4.out.size))
                clear hb5
                go_wp2
                go_ret
                exact ⟨rfl, B5.out⟩
              · have hav := attr_off s h0 q1 (Or.inr (by omega))
                clear q1
                have HN1 : ∀ W, NamesAt W b → Hid (Calls Tryd.prog 22 #[.pointer (some ⟨b, 0, none⟩), .int .i64 1] W fun e w' => e = .returned (.string ⟨#[98]⟩) ∧ NamesAt w' b ∧ W.grownBy w' (some b)) := fun W h => hide (by have h2 := name_some b 1 W h; rw [hnm] at h2; exact h2)
                have HN2 : ∀ W, Hid (Calls Tryd.prog 22 #[.pointer none, .int .i64 1] W fun e w' => e = .returned (.string ⟨#[98]⟩) ∧ Below W.heap.size W w') := fun W => hide (by have h2 := name_nil 1 W; rw [hnm] at h2; exact h2)
                have HA1 : ∀ W, NamesAt W b → Hid (Calls Tryd.prog 23 #[.pointer (some ⟨b, 0, none⟩), .string s] W fun e w' => e = .returned (.int .i64 (-1)) ∧ NamesAt w' b ∧ W.grownBy w' (some b)) := fun W h => hide (by have h2 := attr_some b s W h; rw [hav] at h2; exact h2)
                have HA2 : ∀ W, Hid (Calls Tryd.prog 23 #[.pointer none, .string s] W fun e w' => e = .returned (.int .i64 (-1)) ∧ Below W.heap.size W w') := fun W => hide (by have h2 := attr_nil s W; rw [hav] at h2; exact h2)
                clear hnm hav
                go_wp2_with fail
                refine (unhide (HN1 _ HN.out)).mono ?_
                rintro e w2 ⟨rfl, hN2, hg2⟩
                have B2 := hide (below_grownBy HB.out hg2 Hz Hb)
                go_wp2_with fail
                refine (unhide (HN2 _)).mono ?_
                rintro e w3 ⟨rfl, hb3⟩
                have B3 := hide (B2.out.trans (hb3.mono B2.out.size))
                have N3 := hide (NamesAt.on hN2 hb3)
                clear hb3 hN2 hg2
                go_wp2_with fail
                refine (unhide (HA1 _ N3.out)).mono ?_
                rintro e w4 ⟨rfl, hN4, hg4⟩
                have B4 := hide (below_grownBy B3.out hg4 B3.out.size Hb)
                clear hN4 hg4
                go_wp2_with fail
                refine (unhide (HA2 _)).mono ?_
                rintro e w5 ⟨rfl, hb5⟩
                have B5 := hide (B4.out.trans (hb5.mono B4.out.size))
                clear hb5
                go_wp2
                go_ret
                exact ⟨rfl, B5.out⟩
            · have hav := attr_off s h0 q1 (Or.inl (by omega))
              clear q1
              have HN1 : ∀ W, NamesAt W b → Hid (Calls Tryd.prog 22 #[.pointer (some ⟨b, 0, none⟩), .int .i64 1] W fun e w' => e = .returned (.string ⟨#[98]⟩) ∧ NamesAt w' b ∧ W.grownBy w' (some b)) := fun W h => hide (by have h2 := name_some b 1 W h; rw [hnm] at h2; exact h2)
              have HN2 : ∀ W, Hid (Calls Tryd.prog 22 #[.pointer none, .int .i64 1] W fun e w' => e = .returned (.string ⟨#[98]⟩) ∧ Below W.heap.size W w') := fun W => hide (by have h2 := name_nil 1 W; rw [hnm] at h2; exact h2)
              have HA1 : ∀ W, NamesAt W b → Hid (Calls Tryd.prog 23 #[.pointer (some ⟨b, 0, none⟩), .string s] W fun e w' => e = .returned (.int .i64 (-1)) ∧ NamesAt w' b ∧ W.grownBy w' (some b)) := fun W h => hide (by have h2 := attr_some b s W h; rw [hav] at h2; exact h2)
              have HA2 : ∀ W, Hid (Calls Tryd.prog 23 #[.pointer none, .string s] W fun e w' => e = .returned (.int .i64 (-1)) ∧ Below W.heap.size W w') := fun W => hide (by have h2 := attr_nil s W; rw [hav] at h2; exact h2)
              clear hnm hav
              go_wp2_with fail
              refine (unhide (HN1 _ HN.out)).mono ?_
              rintro e w2 ⟨rfl, hN2, hg2⟩
              have B2 := hide (below_grownBy HB.out hg2 Hz Hb)
              go_wp2_with fail
              refine (unhide (HN2 _)).mono ?_
              rintro e w3 ⟨rfl, hb3⟩
              have B3 := hide (B2.out.trans (hb3.mono B2.out.size))
              have N3 := hide (NamesAt.on hN2 hb3)
              clear hb3 hN2 hg2
              go_wp2_with fail
              refine (unhide (HA1 _ N3.out)).mono ?_
              rintro e w4 ⟨rfl, hN4, hg4⟩
              have B4 := hide (below_grownBy B3.out hg4 B3.out.size Hb)
              clear hN4 hg4
              go_wp2_with fail
              refine (unhide (HA2 _)).mono ?_
              rintro e w5 ⟨rfl, hb5⟩
              have B5 := hide (B4.out.trans (hb5.mono B4.out.size))
              clear hb5
              go_wp2
              go_ret
              exact ⟨rfl, B5.out⟩
          · have q1' : ((s.size : Int) == 1) = false := beq_eq_false_iff_ne.2 (by omega)
            have hav := attr_size s q1
            have HN1 : ∀ W, NamesAt W b → Hid (Calls Tryd.prog 22 #[.pointer (some ⟨b, 0, none⟩), .int .i64 1] W fun e w' => e = .returned (.string ⟨#[98]⟩) ∧ NamesAt w' b ∧ W.grownBy w' (some b)) := fun W h => hide (by have h2 := name_some b 1 W h; rw [hnm] at h2; exact h2)
            have HN2 : ∀ W, Hid (Calls Tryd.prog 22 #[.pointer none, .int .i64 1] W fun e w' => e = .returned (.string ⟨#[98]⟩) ∧ Below W.heap.size W w') := fun W => hide (by have h2 := name_nil 1 W; rw [hnm] at h2; exact h2)
            have HA1 : ∀ W, NamesAt W b → Hid (Calls Tryd.prog 23 #[.pointer (some ⟨b, 0, none⟩), .string s] W fun e w' => e = .returned (.int .i64 (-1)) ∧ NamesAt w' b ∧ W.grownBy w' (some b)) := fun W h => hide (by have h2 := attr_some b s W h; rw [hav] at h2; exact h2)
            have HA2 : ∀ W, Hid (Calls Tryd.prog 23 #[.pointer none, .string s] W fun e w' => e = .returned (.int .i64 (-1)) ∧ Below W.heap.size W w') := fun W => hide (by have h2 := attr_nil s W; rw [hav] at h2; exact h2)
            clear hnm hav
            go_wp2_with fail
            refine (unhide (HN1 _ HN.out)).mono ?_
            rintro e w2 ⟨rfl, hN2, hg2⟩
            have B2 := hide (below_grownBy HB.out hg2 Hz Hb)
            go_wp2_with fail
            refine (unhide (HN2 _)).mono ?_
            rintro e w3 ⟨rfl, hb3⟩
            have B3 := hide (B2.out.trans (hb3.mono B2.out.size))
            have N3 := hide (NamesAt.on hN2 hb3)
            clear hb3 hN2 hg2
            go_wp2_with fail
            refine (unhide (HA1 _ N3.out)).mono ?_
            rintro e w4 ⟨rfl, hN4, hg4⟩
            have B4 := hide (below_grownBy B3.out hg4 B3.out.size Hb)
            clear hN4 hg4
            go_wp2_with fail
            refine (unhide (HA2 _)).mono ?_
            rintro e w5 ⟨rfl, hb5⟩
            have B5 := hide (B4.out.trans (hb5.mono B4.out.size))
            clear hb5
            go_wp2
            go_ret
            exact ⟨rfl, B5.out⟩
        · have hnm : nameOf 2 = ⟨#[99]⟩ := rfl
          by_cases q1 : s.size = 1
          · have q1' : ((s.size : Int) == 1) = true := by rw [q1]; rfl
            have h0 : 0 < s.size := by omega
            by_cases q2 : (97 : Int) ≤ (s[0].toNat : Int)
            · by_cases q3 : (s[0].toNat : Int) ≤ 100
              · have hav := attr_in s h0 q1 q2 q3
                clear q1
                have HN1 : ∀ W, NamesAt W b → Hid (Calls Tryd.prog 22 #[.pointer (some ⟨b, 0, none⟩), .int .i64 2] W fun e w' => e = .returned (.string ⟨#[99]⟩) ∧ NamesAt w' b ∧ W.grownBy w' (some b)) := fun W h => hide (by have h2 := name_some b 2 W h; rw [hnm] at h2; exact h2)
                have HN2 : ∀ W, Hid (Calls Tryd.prog 22 #[.pointer none, .int .i64 2] W fun e w' => e = .returned (.string ⟨#[99]⟩) ∧ Below W.heap.size W w') := fun W => hide (by have h2 := name_nil 2 W; rw [hnm] at h2; exact h2)
                have HA1 : ∀ W, NamesAt W b → Hid (Calls Tryd.prog 23 #[.pointer (some ⟨b, 0, none⟩), .string s] W fun e w' => e = .returned (.int .i64 ((s[0].toNat : Int) - 97)) ∧ NamesAt w' b ∧ W.grownBy w' (some b)) := fun W h => hide (by have h2 := attr_some b s W h; rw [hav] at h2; exact h2)
                have HA2 : ∀ W, Hid (Calls Tryd.prog 23 #[.pointer none, .string s] W fun e w' => e = .returned (.int .i64 ((s[0].toNat : Int) - 97)) ∧ Below W.heap.size W w') := fun W => hide (by have h2 := attr_nil s W; rw [hav] at h2; exact h2)
                clear hnm hav
                go_wp2_with fail
                refine (unhide (HN1 _ HN.out)).mono ?_
                rintro e w2 ⟨rfl, hN2, hg2⟩
                have B2 := hide (below_grownBy HB.out hg2 Hz Hb)
                go_wp2_with fail
                refine (unhide (HN2 _)).mono ?_
                rintro e w3 ⟨rfl, hb3⟩
                have B3 := hide (B2.out.trans (hb3.mono B2.out.size))
                have N3 := hide (NamesAt.on hN2 hb3)
                clear hb3 hN2 hg2
                go_wp2_with fail
                refine (unhide (HA1 _ N3.out)).mono ?_
                rintro e w4 ⟨rfl, hN4, hg4⟩
                have B4 := hide (below_grownBy B3.out hg4 B3.out.size Hb)
                clear hN4 hg4
                go_wp2_with fail
                refine (unhide (HA2 _)).mono ?_
                rintro e w5 ⟨rfl, hb5⟩
                have B5 := hide (B4.out.trans (hb5.mono B4.out.size))
                clear hb5
                go_wp2
                go_ret
                exact ⟨rfl, B5.out⟩
              · have hav := attr_off s h0 q1 (Or.inr (by omega))
                clear q1
                have HN1 : ∀ W, NamesAt W b → Hid (Calls Tryd.prog 22 #[.pointer (some ⟨b, 0, none⟩), .int .i64 2] W fun e w' => e = .returned (.string ⟨#[99]⟩) ∧ NamesAt w' b ∧ W.grownBy w' (some b)) := fun W h => hide (by have h2 := name_some b 2 W h; rw [hnm] at h2; exact h2)
                have HN2 : ∀ W, Hid (Calls Tryd.prog 22 #[.pointer none, .int .i64 2] W fun e w' => e = .returned (.string ⟨#[99]⟩) ∧ Below W.heap.size W w') := fun W => hide (by have h2 := name_nil 2 W; rw [hnm] at h2; exact h2)
                have HA1 : ∀ W, NamesAt W b → Hid (Calls Tryd.prog 23 #[.pointer (some ⟨b, 0, none⟩), .string s] W fun e w' => e = .returned (.int .i64 (-1)) ∧ NamesAt w' b ∧ W.grownBy w' (some b)) := fun W h => hide (by have h2 := attr_some b s W h; rw [hav] at h2; exact h2)
                have HA2 : ∀ W, Hid (Calls Tryd.prog 23 #[.pointer none, .string s] W fun e w' => e = .returned (.int .i64 (-1)) ∧ Below W.heap.size W w') := fun W => hide (by have h2 := attr_nil s W; rw [hav] at h2; exact h2)
                clear hnm hav
                go_wp2_with fail
                refine (unhide (HN1 _ HN.out)).mono ?_
                rintro e w2 ⟨rfl, hN2, hg2⟩
                have B2 := hide (below_grownBy HB.out hg2 Hz Hb)
                go_wp2_with fail
                refine (unhide (HN2 _)).mono ?_
                rintro e w3 ⟨rfl, hb3⟩
                have B3 := hide (B2.out.trans (hb3.mono B2.out.size))
                have N3 := hide (NamesAt.on hN2 hb3)
                clear hb3 hN2 hg2
                go_wp2_with fail
                refine (unhide (HA1 _ N3.out)).mono ?_
                rintro e w4 ⟨rfl, hN4, hg4⟩
                have B4 := hide (below_grownBy B3.out hg4 B3.out.size Hb)
                clear hN4 hg4
                go_wp2_with fail
                refine (unhide (HA2 _)).mono ?_
                rintro e w5 ⟨rfl, hb5⟩
                have B5 := hide (B4.out.trans (hb5.mono B4.out.size))
                clear hb5
                go_wp2
                go_ret
                exact ⟨rfl, B5.out⟩
            · have hav := attr_off s h0 q1 (Or.inl (by omega))
              clear q1
              have HN1 : ∀ W, NamesAt W b → Hid (Calls Tryd.prog 22 #[.pointer (some ⟨b, 0, none⟩), .int .i64 2] W fun e w' => e = .returned (.string ⟨#[99]⟩) ∧ NamesAt w' b ∧ W.grownBy w' (some b)) := fun W h => hide (by have h2 := name_some b 2 W h; rw [hnm] at h2; exact h2)
              have HN2 : ∀ W, Hid (Calls Tryd.prog 22 #[.pointer none, .int .i64 2] W fun e w' => e = .returned (.string ⟨#[99]⟩) ∧ Below W.heap.size W w') := fun W => hide (by have h2 := name_nil 2 W; rw [hnm] at h2; exact h2)
              have HA1 : ∀ W, NamesAt W b → Hid (Calls Tryd.prog 23 #[.pointer (some ⟨b, 0, none⟩), .string s] W fun e w' => e = .returned (.int .i64 (-1)) ∧ NamesAt w' b ∧ W.grownBy w' (some b)) := fun W h => hide (by have h2 := attr_some b s W h; rw [hav] at h2; exact h2)
              have HA2 : ∀ W, Hid (Calls Tryd.prog 23 #[.pointer none, .string s] W fun e w' => e = .returned (.int .i64 (-1)) ∧ Below W.heap.size W w') := fun W => hide (by have h2 := attr_nil s W; rw [hav] at h2; exact h2)
              clear hnm hav
              go_wp2_with fail
              refine (unhide (HN1 _ HN.out)).mono ?_
              rintro e w2 ⟨rfl, hN2, hg2⟩
              have B2 := hide (below_grownBy HB.out hg2 Hz Hb)
              go_wp2_with fail
              refine (unhide (HN2 _)).mono ?_
              rintro e w3 ⟨rfl, hb3⟩
              have B3 := hide (B2.out.trans (hb3.mono B2.out.size))
              have N3 := hide (NamesAt.on hN2 hb3)
              clear hb3 hN2 hg2
              go_wp2_with fail
              refine (unhide (HA1 _ N3.out)).mono ?_
              rintro e w4 ⟨rfl, hN4, hg4⟩
              have B4 := hide (below_grownBy B3.out hg4 B3.out.size Hb)
              clear hN4 hg4
              go_wp2_with fail
              refine (unhide (HA2 _)).mono ?_
              rintro e w5 ⟨rfl, hb5⟩
              have B5 := hide (B4.out.trans (hb5.mono B4.out.size))
              clear hb5
              go_wp2
              go_ret
              exact ⟨rfl, B5.out⟩
          · have q1' : ((s.size : Int) == 1) = false := beq_eq_false_iff_ne.2 (by omega)
            have hav := attr_size s q1
            have HN1 : ∀ W, NamesAt W b → Hid (Calls Tryd.prog 22 #[.pointer (some ⟨b, 0, none⟩), .int .i64 2] W fun e w' => e = .returned (.string ⟨#[99]⟩) ∧ NamesAt w' b ∧ W.grownBy w' (some b)) := fun W h => hide (by have h2 := name_some b 2 W h; rw [hnm] at h2; exact h2)
            have HN2 : ∀ W, Hid (Calls Tryd.prog 22 #[.pointer none, .int .i64 2] W fun e w' => e = .returned (.string ⟨#[99]⟩) ∧ Below W.heap.size W w') := fun W => hide (by have h2 := name_nil 2 W; rw [hnm] at h2; exact h2)
            have HA1 : ∀ W, NamesAt W b → Hid (Calls Tryd.prog 23 #[.pointer (some ⟨b, 0, none⟩), .string s] W fun e w' => e = .returned (.int .i64 (-1)) ∧ NamesAt w' b ∧ W.grownBy w' (some b)) := fun W h => hide (by have h2 := attr_some b s W h; rw [hav] at h2; exact h2)
            have HA2 : ∀ W, Hid (Calls Tryd.prog 23 #[.pointer none, .string s] W fun e w' => e = .returned (.int .i64 (-1)) ∧ Below W.heap.size W w') := fun W => hide (by have h2 := attr_nil s W; rw [hav] at h2; exact h2)
            clear hnm hav
            go_wp2_with fail
            refine (unhide (HN1 _ HN.out)).mono ?_
            rintro e w2 ⟨rfl, hN2, hg2⟩
            have B2 := hide (below_grownBy HB.out hg2 Hz Hb)
            go_wp2_with fail
            refine (unhide (HN2 _)).mono ?_
            rintro e w3 ⟨rfl, hb3⟩
            have B3 := hide (B2.out.trans (hb3.mono B2.out.size))
            have N3 := hide (NamesAt.on hN2 hb3)
            clear hb3 hN2 hg2
            go_wp2_with fail
            refine (unhide (HA1 _ N3.out)).mono ?_
            rintro e w4 ⟨rfl, hN4, hg4⟩
            have B4 := hide (below_grownBy B3.out hg4 B3.out.size Hb)
            clear hN4 hg4
            go_wp2_with fail
            refine (unhide (HA2 _)).mono ?_
            rintro e w5 ⟨rfl, hb5⟩
            have B5 := hide (B4.out.trans (hb5.mono B4.out.size))
            clear hb5
            go_wp2
            go_ret
            exact ⟨rfl, B5.out⟩
        · have hnm : nameOf 3 = ⟨#[100]⟩ := rfl
          by_cases q1 : s.size = 1
          · have q1' : ((s.size : Int) == 1) = true := by rw [q1]; rfl
            have h0 : 0 < s.size := by omega
            by_cases q2 : (97 : Int) ≤ (s[0].toNat : Int)
            · by_cases q3 : (s[0].toNat : Int) ≤ 100
              · have hav := attr_in s h0 q1 q2 q3
                clear q1
                have HN1 : ∀ W, NamesAt W b → Hid (Calls Tryd.prog 22 #[.pointer (some ⟨b, 0, none⟩), .int .i64 3] W fun e w' => e = .returned (.string ⟨#[100]⟩) ∧ NamesAt w' b ∧ W.grownBy w' (some b)) := fun W h => hide (by have h2 := name_some b 3 W h; rw [hnm] at h2; exact h2)
                have HN2 : ∀ W, Hid (Calls Tryd.prog 22 #[.pointer none, .int .i64 3] W fun e w' => e = .returned (.string ⟨#[100]⟩) ∧ Below W.heap.size W w') := fun W => hide (by have h2 := name_nil 3 W; rw [hnm] at h2; exact h2)
                have HA1 : ∀ W, NamesAt W b → Hid (Calls Tryd.prog 23 #[.pointer (some ⟨b, 0, none⟩), .string s] W fun e w' => e = .returned (.int .i64 ((s[0].toNat : Int) - 97)) ∧ NamesAt w' b ∧ W.grownBy w' (some b)) := fun W h => hide (by have h2 := attr_some b s W h; rw [hav] at h2; exact h2)
                have HA2 : ∀ W, Hid (Calls Tryd.prog 23 #[.pointer none, .string s] W fun e w' => e = .returned (.int .i64 ((s[0].toNat : Int) - 97)) ∧ Below W.heap.size W w') := fun W => hide (by have h2 := attr_nil s W; rw [hav] at h2; exact h2)
                clear hnm hav
                go_wp2_with fail
                refine (unhide (HN1 _ HN.out)).mono ?_
                rintro e w2 ⟨rfl, hN2, hg2⟩
                have B2 := hide (below_grownBy HB.out hg2 Hz Hb)
                go_wp2_with fail
                refine (unhide (HN2 _)).mono ?_
                rintro e w3 ⟨rfl, hb3⟩
                have B3 := hide (B2.out.trans (hb3.mono B2.out.size))
                have N3 := hide (NamesAt.on hN2 hb3)
                clear hb3 hN2 hg2
                go_wp2_with fail
                refine (unhide (HA1 _ N3.out)).mono ?_
                rintro e w4 ⟨rfl, hN4, hg4⟩
                have B4 := hide (below_grownBy B3.out hg4 B3.out.size Hb)
                clear hN4 hg4
                go_wp2_with fail
                refine (unhide (HA2 _)).mono ?_
                rintro e w5 ⟨rfl, hb5⟩
                have B5 := hide (B4.out.trans (hb5.mono B4.out.size))
                clear hb5
                go_wp2
                go_ret
                exact ⟨rfl, B5.out⟩
              · have hav := attr_off s h0 q1 (Or.inr (by omega))
                clear q1
                have HN1 : ∀ W, NamesAt W b → Hid (Calls Tryd.prog 22 #[.pointer (some ⟨b, 0, none⟩), .int .i64 3] W fun e w' => e = .returned (.string ⟨#[100]⟩) ∧ NamesAt w' b ∧ W.grownBy w' (some b)) := fun W h => hide (by have h2 := name_some b 3 W h; rw [hnm] at h2; exact h2)
                have HN2 : ∀ W, Hid (Calls Tryd.prog 22 #[.pointer none, .int .i64 3] W fun e w' => e = .returned (.string ⟨#[100]⟩) ∧ Below W.heap.size W w') := fun W => hide (by have h2 := name_nil 3 W; rw [hnm] at h2; exact h2)
                have HA1 : ∀ W, NamesAt W b → Hid (Calls Tryd.prog 23 #[.pointer (some ⟨b, 0, none⟩), .string s] W fun e w' => e = .returned (.int .i64 (-1)) ∧ NamesAt w' b ∧ W.grownBy w' (some b)) := fun W h => hide (by have h2 := attr_some b s W h; rw [hav] at h2; exact h2)
                have HA2 : ∀ W, Hid (Calls Tryd.prog 23 #[.pointer none, .string s] W fun e w' => e = .returned (.int .i64 (-1)) ∧ Below W.heap.size W w') := fun W => hide (by have h2 := attr_nil s W; rw [hav] at h2; exact h2)
                clear hnm hav
                go_wp2_with fail
                refine (unhide (HN1 _ HN.out)).mono ?_
                rintro e w2 ⟨rfl, hN2, hg2⟩
                have B2 := hide (below_grownBy HB.out hg2 Hz Hb)
                go_wp2_with fail
                refine (unhide (HN2 _)).mono ?_
                rintro e w3 ⟨rfl, hb3⟩
                have B3 := hide (B2.out.trans (hb3.mono B2.out.size))
                have N3 := hide (NamesAt.on hN2 hb3)
                clear hb3 hN2 hg2
                go_wp2_with fail
                refine (unhide (HA1 _ N3.out)).mono ?_
                rintro e w4 ⟨rfl, hN4, hg4⟩
                have B4 := hide (below_grownBy B3.out hg4 B3.out.size Hb)
                clear hN4 hg4
                go_wp2_with fail
                refine (unhide (HA2 _)).mono ?_
                rintro e w5 ⟨rfl, hb5⟩
                have B5 := hide (B4.out.trans (hb5.mono B4.out.size))
                clear hb5
                go_wp2
                go_ret
                exact ⟨rfl, B5.out⟩
            · have hav := attr_off s h0 q1 (Or.inl (by omega))
              clear q1
              have HN1 : ∀ W, NamesAt W b → Hid (Calls Tryd.prog 22 #[.pointer (some ⟨b, 0, none⟩), .int .i64 3] W fun e w' => e = .returned (.string ⟨#[100]⟩) ∧ NamesAt w' b ∧ W.grownBy w' (some b)) := fun W h => hide (by have h2 := name_some b 3 W h; rw [hnm] at h2; exact h2)
              have HN2 : ∀ W, Hid (Calls Tryd.prog 22 #[.pointer none, .int .i64 3] W fun e w' => e = .returned (.string ⟨#[100]⟩) ∧ Below W.heap.size W w') := fun W => hide (by have h2 := name_nil 3 W; rw [hnm] at h2; exact h2)
              have HA1 : ∀ W, NamesAt W b → Hid (Calls Tryd.prog 23 #[.pointer (some ⟨b, 0, none⟩), .string s] W fun e w' => e = .returned (.int .i64 (-1)) ∧ NamesAt w' b ∧ W.grownBy w' (some b)) := fun W h => hide (by have h2 := attr_some b s W h; rw [hav] at h2; exact h2)
              have HA2 : ∀ W, Hid (Calls Tryd.prog 23 #[.pointer none, .string s] W fun e w' => e = .returned (.int .i64 (-1)) ∧ Below W.heap.size W w') := fun W => hide (by have h2 := attr_nil s W; rw [hav] at h2; exact h2)
              clear hnm hav
              go_wp2_with fail
              refine (unhide (HN1 _ HN.out)).mono ?_
              rintro e w2 ⟨rfl, hN2, hg2⟩
              have B2 := hide (below_grownBy HB.out hg2 Hz Hb)
              go_wp2_with fail
              refine (unhide (HN2 _)).mono ?_
              rintro e w3 ⟨rfl, hb3⟩
              have B3 := hide (B2.out.trans (hb3.mono B2.out.size))
              have N3 := hide (NamesAt.on hN2 hb3)
              clear hb3 hN2 hg2
              go_wp2_with fail
              refine (unhide (HA1 _ N3.out)).mono ?_
              rintro e w4 ⟨rfl, hN4, hg4⟩
              have B4 := hide (below_grownBy B3.out hg4 B3.out.size Hb)
              clear hN4 hg4
              go_wp2_with fail
              refine (unhide (HA2 _)).mono ?_
              rintro e w5 ⟨rfl, hb5⟩
              have B5 := hide (B4.out.trans (hb5.mono B4.out.size))
              clear hb5
              go_wp2
              go_ret
              exact ⟨rfl, B5.out⟩
          · have q1' : ((s.size : Int) == 1) = false := beq_eq_false_iff_ne.2 (by omega)
            have hav := attr_size s q1
            have HN1 : ∀ W, NamesAt W b → Hid (Calls Tryd.prog 22 #[.pointer (some ⟨b, 0, none⟩), .int .i64 3] W fun e w' => e = .returned (.string ⟨#[100]⟩) ∧ NamesAt w' b ∧ W.grownBy w' (some b)) := fun W h => hide (by have h2 := name_some b 3 W h; rw [hnm] at h2; exact h2)
            have HN2 : ∀ W, Hid (Calls Tryd.prog 22 #[.pointer none, .int .i64 3] W fun e w' => e = .returned (.string ⟨#[100]⟩) ∧ Below W.heap.size W w') := fun W => hide (by have h2 := name_nil 3 W; rw [hnm] at h2; exact h2)
            have HA1 : ∀ W, NamesAt W b → Hid (Calls Tryd.prog 23 #[.pointer (some ⟨b, 0, none⟩), .string s] W fun e w' => e = .returned (.int .i64 (-1)) ∧ NamesAt w' b ∧ W.grownBy w' (some b)) := fun W h => hide (by have h2 := attr_some b s W h; rw [hav] at h2; exact h2)
            have HA2 : ∀ W, Hid (Calls Tryd.prog 23 #[.pointer none, .string s] W fun e w' => e = .returned (.int .i64 (-1)) ∧ Below W.heap.size W w') := fun W => hide (by have h2 := attr_nil s W; rw [hav] at h2; exact h2)
            clear hnm hav
            go_wp2_with fail
            refine (unhide (HN1 _ HN.out)).mono ?_
            rintro e w2 ⟨rfl, hN2, hg2⟩
            have B2 := hide (below_grownBy HB.out hg2 Hz Hb)
            go_wp2_with fail
            refine (unhide (HN2 _)).mono ?_
            rintro e w3 ⟨rfl, hb3⟩
            have B3 := hide (B2.out.trans (hb3.mono B2.out.size))
            have N3 := hide (NamesAt.on hN2 hb3)
            clear hb3 hN2 hg2
            go_wp2_with fail
            refine (unhide (HA1 _ N3.out)).mono ?_
            rintro e w4 ⟨rfl, hN4, hg4⟩
            have B4 := hide (below_grownBy B3.out hg4 B3.out.size Hb)
            clear hN4 hg4
            go_wp2_with fail
            refine (unhide (HA2 _)).mono ?_
            rintro e w5 ⟨rfl, hb5⟩
            have B5 := hide (B4.out.trans (hb5.mono B4.out.size))
            clear hb5
            go_wp2
            go_ret
            exact ⟨rfl, B5.out⟩
end Go.Proofs.YthiffpdioclnlaaDoor
