import Derived.Test.YtbaijjclofekcaaGreatDoorRG5
import Derived.Test.YtbaijjclofekcaaGreatDoorRG4
import Derived.Test.YtbaijjclofekcaaGreatDoorRG1
import Derived.Lib.MinMax
import Derived.Test.YtbaijjclofekcaaGreatDoorRG2
import Derived.Lib.SmallJoins
import Derived.Deep.Strs
set_option linter.unusedSimpArgs false
set_option linter.unusedVariables false
namespace Go.Proofs.YtbaijjclofekcaaGreatDoor
open Go.RowKit
theorem cnt_step (ns : Nat → Nat) (k : Nat) : min2 (((cntU ns k * ns k : Nat)) : Int) 1099511627776 = ((cntU ns (k + 1) : Nat) : Int) := by
  unfold min2
  rw [show cntU ns (k + 1) = if cntU ns k * ns k > 1099511627776 then 1099511627776 else cntU ns k * ns k from rfl]
  by_cases h : cntU ns k * ns k > 1099511627776
  · rw [if_pos h, if_pos (by omega)]; rfl
  · rw [if_neg h, if_neg (by omega)]
set_option maxHeartbeats 4000000 in
set_option maxRecDepth 100000 in
theorem refCount9_any (v : Value) (l : List BoxV) (w : World) (hv : Bxs w v l) (hl : l.length ≤ 1000) (hf : ∀ i, i < 4 → FewC (attrL l i)) :
    Calls Tryz.prog 12 #[v] w fun r w' => r = .returned (.int .i64 ((cntU (fun i => (cutL (attrL l i)).length) 4 : Nat) : Int)) ∧ Below w.heap.size w w' := by
  have D : w.grownBy w none := grown_refl _ _
  go_enter Tryz.func12, Tryz.ntmps12
  refine wp_seq_k (fun K1 hK1 => ?_)
  refine wp_region_lit ?_
  refine wl_yield (o := ⟨_, _, _, _, _, _⟩) (.int .i64 0) (yl_assign (by rfl) _ rfl _ rfl) ?_
  simp only [Act.put, lzA, lzB, lzC]
  refine wpList_nil ?_
  refine hK1 _ _ ?_
  clear hK1 K1
  refine wp_seq_k (fun K2 hK2 => ?_)
  refine wp_region_lit ?_
  refine wl_yield (o := ⟨_, _, _, _, _, _⟩) (.int .i64 1) (yl_assign (by rfl) _ rfl _ rfl) ?_
  simp only [Act.put, lzA, lzB, lzC]
  refine wpList_nil ?_
  refine hK2 _ _ ?_
  clear hK2 K2
  refine wp_seq_k (fun K3 hK3 => ?_)
  refine wp_seq_k (fun K4 hK4 => ?_)
  refine wp_region_lit ?_
  refine wl_yield (o := ⟨_, _, _, _, _, _⟩) (.int .i64 0) (yl_assign (by rfl) _ rfl _ rfl) ?_
  simp only [Act.put, lzA, lzB, lzC]
  refine wpList_nil ?_
  refine hK4 _ _ ?_
  clear hK4 K4
  refine wp_block ?_
  go_loopw [3, 4] (fun x j wr => ∃ (k : Nat), j = .int .i64 ((k : Nat) : Int) ∧ k ≤ 4 ∧ x = .int .i64 ((cntU (fun i => (cutL (attrL l i)).length) k : Nat) : Int) ∧ w.grownBy wr none) (fun _ j _ => 4 - (intOf j).toNat)
  case atStart => exact ⟨0, rfl, by omega, rfl, D⟩
  case round =>
    clear D
    obtain ⟨k, rfl, hk, rfl, D⟩ := hrel
    by_cases hlt : k < 4
    · have hmul : cntU (fun i => (cutL (attrL l i)).length) k * (cutL (attrL l k)).length ≤ 1099511627776 * 61000 := Nat.mul_le_mul (cntU_le _ _) (cutL_most (hf k hlt))
      refine wp_seq_k (fun K5 hK5 => ?_)
      refine wp_seq_k (fun K6 hK6 => ?_)
      refine wp_region_lit ?_
      refine wl_yield (o := ⟨_, _, _, _, _, _⟩) (.int .i64 (k : Nat)) (yl_move (by rfl) _ rfl _ rfl) ?_
      simp only [Act.put, lzA, lzB, lzC]
      refine wl_yield (o := ⟨_, _, _, _, _, _⟩) (.bool true) (yt_lssI (by rfl) _ _ _ rfl ((k : Nat) : Int) 4 true rfl rfl (decide_eq_true (by omega))) ?_
      simp only [Act.put, lzA, lzB, lzC]
      refine wpList_nil ?_
      refine hK6 _ _ ?_
      clear hK6 K6
      refine wp_cond_true rfl ?_
      refine wp_skip ?_
      refine hK5 _ _ ?_
      clear hK5 K5
      refine wp_seq_k (fun K7 hK7 => ?_)
      refine wp_block ?_
      refine wp_region_lit ?_
      refine wl_yield (o := ⟨_, _, _, _, _, _⟩) (.int .i64 (cntU (fun i => (cutL (attrL l i)).length) k : Nat)) (yl_move (by rfl) _ rfl _ rfl) ?_
      simp only [Act.put, lzA, lzB, lzC]
      refine wl_yield (o := ⟨_, _, _, _, _, _⟩) (v) (yl_move (by rfl) _ rfl _ rfl) ?_
      simp only [Act.put, lzA, lzB, lzC]
      refine wl_yield (o := ⟨_, _, _, _, _, _⟩) (.int .i64 (k : Nat)) (yl_move (by rfl) _ rfl _ rfl) ?_
      simp only [Act.put, lzA, lzB, lzC]
      refine wt_call (o := ⟨_, _, _, _, _, _⟩) (by rfl) 14 _ _ rfl #[v, .int .i64 (k : Nat)] rfl (run_call Tryz.func14 (by kernel_rfl) (by kernel_rfl)) ?_
      refine (refAttr_any _ k hlt l _ (hv.on (below_none D)) hl (hf k hlt)).mono ?_
      rintro r v1 (⟨⟨u9, rfl, HR⟩, kb⟩)
      · replace D := grown_below D kb
        clear kb
        have HR1 := HR
        obtain ⟨a9, c9, rfl, -⟩ := HR1.2
        clear HR1 HR
        refine Or.inl ⟨.slice a9 (cutL (attrL l k)).length c9, rfl, ?_⟩
        simp only [Act.put, lzA, lzB, lzC]
        refine wl_yield (o := ⟨_, _, _, _, _, _⟩) (.int .i64 ((cutL (attrL l k)).length : Nat)) (yt_lenQ (by rfl) _ rfl a9 (cutL (attrL l k)).length c9 rfl) ?_
        simp only [Act.put, lzA, lzB, lzC]
        refine wl_yield (o := ⟨_, _, _, _, _, _⟩) (.int .i64 (((cntU (fun i => (cutL (attrL l i)).length) k * (cutL (attrL l k)).length) : Nat) : Int)) (yq_mulI (by rfl) _ _ _ rfl ((cntU (fun i => (cutL (attrL l i)).length) k : Nat) : Int) (((cutL (attrL l k)).length : Nat) : Int) (((cntU (fun i => (cutL (attrL l i)).length) k * (cutL (attrL l k)).length) : Nat) : Int) rfl rfl (Int.natCast_mul _ _).symm (by omega) (by omega)) ?_
        simp only [Act.put, lzA, lzB, lzC]
        refine wl_yield (o := ⟨_, _, _, _, _, _⟩) (.int .i64 (min2 ((cntU (fun i => (cutL (attrL l i)).length) k * (cutL (attrL l k)).length : Nat) : Int) 1099511627776)) (yt_minI (by rfl) _ _ rfl ((cntU (fun i => (cutL (attrL l i)).length) k * (cutL (attrL l k)).length : Nat) : Int) 1099511627776 rfl rfl) ?_
        simp only [Act.put, lzA, lzB, lzC]
        refine wl_yield (o := ⟨_, _, _, _, _, _⟩) (.int .i64 (min2 ((cntU (fun i => (cutL (attrL l i)).length) k * (cutL (attrL l k)).length : Nat) : Int) 1099511627776)) (yl_assign (by rfl) _ rfl _ rfl) ?_
        simp only [Act.put, lzA, lzB, lzC]
        refine wpList_nil ?_
        refine hK7 _ _ ?_
        clear hK7 K7
        refine wp_region_lit ?_
        refine wl_yield (o := ⟨_, _, _, _, _, _⟩) (.int .i64 (k : Nat)) (yl_move (by rfl) _ rfl _ rfl) ?_
        simp only [Act.put, lzA, lzB, lzC]
        refine wl_yield (o := ⟨_, _, _, _, _, _⟩) (.int .i64 (k + 1 : Nat)) (yt_addI (by rfl) _ _ _ rfl ((k : Nat) : Int) 1 ((k + 1 : Nat) : Int) rfl rfl (by omega) (by omega) (by omega)) ?_
        simp only [Act.put, lzA, lzB, lzC]
        refine wl_yield (o := ⟨_, _, _, _, _, _⟩) (.int .i64 (k + 1 : Nat)) (yl_assign (by rfl) _ rfl _ rfl) ?_
        simp only [Act.put, lzA, lzB, lzC]
        refine wpList_nil ?_
        show _ ∧ _
        go_roundw
        case rel => exact ⟨k + 1, rfl, by omega, by rw [← cnt_step], D⟩
        case measure => simp [intOf]; omega
    · obtain rfl : k = 4 := by omega
      refine wp_seq_k (fun K5 hK5 => ?_)
      refine wp_seq_k (fun K6 hK6 => ?_)
      refine wp_region_lit ?_
      refine wl_yield (o := ⟨_, _, _, _, _, _⟩) (.int .i64 (4 : Nat)) (yl_move (by rfl) _ rfl _ rfl) ?_
      simp only [Act.put, lzA, lzB, lzC]
      refine wl_yield (o := ⟨_, _, _, _, _, _⟩) (.bool false) (yt_lssI (by rfl) _ _ _ rfl ((4 : Nat) : Int) 4 false rfl rfl (by decide)) ?_
      simp only [Act.put, lzA, lzB, lzC]
      refine wpList_nil ?_
      refine hK6 _ _ ?_
      clear hK6 K6
      refine wp_cond_false rfl ?_
      refine wp_exit ?_
      refine hK3 _ _ ?_
      clear hK5 K5 hK3 K3
      refine wp_seq_k (fun K7 hK7 => ?_)
      refine wp_region_lit ?_
      refine wl_yield (o := ⟨_, _, _, _, _, _⟩) (.int .i64 (cntU (fun i => (cutL (attrL l i)).length) 4 : Nat)) (yl_move (by rfl) _ rfl _ rfl) ?_
      simp only [Act.put, lzA, lzB, lzC]
      refine wl_yield (o := ⟨_, _, _, _, _, _⟩) (.int .i64 (cntU (fun i => (cutL (attrL l i)).length) 4 : Nat)) (yl_assign (by rfl) _ rfl _ rfl) ?_
      simp only [Act.put, lzA, lzB, lzC]
      refine wpList_nil ?_
      refine hK7 _ _ ?_
      clear hK7 K7
      refine wp_ret ?_
      try simp only [Exit.inBlock, Exit.then]
      go_ret
      exact ⟨rfl, below_none D⟩
end Go.Proofs.YtbaijjclofekcaaGreatDoor
namespace Go.Proofs.YtbaijjclofekcaaGreatDoor
open Go.RowKit
theorem OwnU.asd {w w' : World} {m B : Nat} {v : Value} {cs : List SC} {b : Option Nat} (h : OwnU w m v cs) (ha : Asd b B w w') (hne : ∀ g, v.ownBlock = some g → b ≠ some g) : OwnU w' m v cs := by
  refine ⟨⟨h.own.1, ?_⟩, fun g hg => ?_⟩
  · rcases h.own.2 with h2 | ⟨g, cap, cur, e1, hB, hg, r⟩
    · exact Or.inl h2
    · exact Or.inr ⟨g, cap, cur, e1, hB, (ha.k g (lt_heap hg) (fun e2 => hne g (by rw [e1]; rfl) e2.symm)).trans hg, r⟩
  · obtain ⟨cur, h1, h2⟩ := h.pl g hg
    exact ⟨cur, (ha.k g (lt_heap h1) (fun e2 => hne g hg e2.symm)).trans h1, h2⟩
theorem OwnU.put {w w' : World} {m b : Nat} {v : Value} {cs : List SC} (h : OwnU w m v cs) (kg : w.grownBy w' (some b)) (hne : v.ownBlock ≠ some b) : OwnU w' m v cs := by
  refine ⟨⟨h.own.1, ?_⟩, fun g hg => ?_⟩
  · rcases h.own.2 with h2 | ⟨g, cap, cur, e1, hB, hg, r⟩
    · exact Or.inl h2
    · exact Or.inr ⟨g, cap, cur, e1, hB, heap_gro hg kg (fun e2 => hne (by rw [e1]; exact e2.symm)), r⟩
  · obtain ⟨cur, h1, h2⟩ := h.pl g hg
    exact ⟨cur, heap_gro h1 kg (fun e2 => hne (by rw [hg]; exact e2.symm)), h2⟩
theorem NewSt.put {m b : Nat} {w w' : World} {cs : List SC} {l : List SetV} {xs : Array Value} {T : TypeId} {fz : Nat × Nat} (h : NewSt m w cs l) (hb : w.heap[b]? = some (.cells xs T fz)) (hn : ∀ x ∈ xs.toList, plainQ x = true) (kg : w.grownBy w' (some b)) : NewSt m w' cs l :=
  ⟨⟨h.at_.1, fun i hi => (h.at_.2 i hi).asq hb hn kg.size (fun k hk hne => kg.block k hk (fun e => hne (Option.some.inj e)))⟩, h.up⟩
structure Four (m : Nat) (w : World) (s : Nat → Sl) (cs : Nat → List SC) (ls : Nat → List SetV) : Prop where
  own : ∀ j, j < 4 → OwnU w m (s j).val (cs j)
  st : ∀ j, j < 4 → NewSt m w (cs j) (ls j)
  ne : ∀ i j, i < 4 → j < 4 → i ≠ j → ∀ g, (s i).val.ownBlock = some g → (s j).val.ownBlock ≠ some g
theorem Four.on {m : Nat} {w w' : World} {s : Nat → Sl} {cs : Nat → List SC} {ls : Nat → List SetV} (h : Four m w s cs ls) (hb : Below w.heap.size w w') : Four m w' s cs ls :=
  ⟨fun j hj => (h.own j hj).on hb, fun j hj => (h.st j hj).on hb, h.ne⟩
theorem four_nil (m : Nat) (w : World) : Four m w (fun _ => sl0) (fun _ => []) (fun _ => []) :=
  ⟨fun j hj => ownU_nil _ _, fun j hj => newSt_nil _ _, fun i j _ _ _ g e => by cases e⟩
theorem Four.put {m b : Nat} {w w' : World} {s : Nat → Sl} {cs : Nat → List SC} {ls : Nat → List SetV} {xs : Array Value} {T : TypeId} {fz : Nat × Nat} (h : Four m w s cs ls) (hb : w.heap[b]? = some (.cells xs T fz)) (hn : ∀ x ∈ xs.toList, plainQ x = true)
    (kg : w.grownBy w' (some b)) (hne : ∀ j, j < 4 → (s j).val.ownBlock ≠ some b) : Four m w' s cs ls :=
  ⟨fun j hj => (h.own j hj).put kg (hne j hj), fun j hj => (h.st j hj).put hb hn kg, h.ne⟩
theorem Four.notG {m b : Nat} {w : World} {s s' c : Nat → Sl} {cs : Nat → List SC} {ls : Nat → List SetV} {d e : Int} (h : Four m w s cs ls) (hG : GridIn w b d e s' c) : ∀ j, j < 4 → (s j).val.ownBlock ≠ some b := by
  intro j hj hx
  obtain ⟨cur, h1, _⟩ := (h.own j hj).pl b hx
  have h2 : w.heap[b]? = some (gObj d e s' c) := hG
  rw [h1] at h2
  injection h2 with h2
  unfold gObj at h2
  injection h2 with _ h2 _
  exact absurd h2 (by decide)
theorem Four.grid {m b : Nat} {w w' : World} {s s' c : Nat → Sl} {cs : Nat → List SC} {ls : Nat → List SetV} {d e : Int} (h : Four m w s cs ls) (hG : GridIn w b d e s' c) (kg : w.grownBy w' (some b)) : Four m w' s cs ls :=
  h.put hG (fun x hx => plainG_Q (gObj_plain d e s' c x hx)) kg (h.notG hG)
theorem Four.app {m B : Nat} {w w' : World} {s : Nat → Sl} {cs : Nat → List SC} {ls : Nat → List SetV} {j : Nat} {u : Sl} {d : SC} {S : SetV} (h : Four m w s cs ls) (hj : j < 4) (hU : OwnU w' m u.val (cs j ++ [d])) (ha : Asd (s j).val.ownBlock B w w')
    (hw : ∀ k, u.val.ownBlock = some k → some k = (s j).val.ownBlock ∨ w.heap.size ≤ k) (hc : ∀ {y : Value} {b : SetV}, SetAt w y b → SetAt w' y b) (hs : SetAt w d.val S) (hu : UpC m d) :
    Four m w' (fun i => if i = j then u else s i) (fun i => if i = j then cs i ++ [d] else cs i) (fun i => if i = j then ls i ++ [S] else ls i) := by
  have lt : ∀ i, i < 4 → ∀ g, (s i).val.ownBlock = some g → g < w.heap.size := fun i hi g e => by
    obtain ⟨cur, h1, _⟩ := (h.own i hi).pl g e
    exact lt_heap h1
  refine ⟨fun i hi => ?_, fun i hi => ?_, fun i k hi hk hne g e => ?_⟩
  · by_cases e : i = j
    · subst e; simp only [if_pos]; exact hU
    · simp only [if_neg e]
      exact (h.own i hi).asd ha (fun g hg => h.ne i j hi hj e g hg)
  · by_cases e : i = j
    · subst e; simp only [if_pos]
      have := (h.st i hi).snoc hs hu
      exact ⟨⟨this.at_.1, fun k hk => hc (this.at_.2 k hk)⟩, this.up⟩
    · simp only [if_neg e]
      exact ⟨⟨(h.st i hi).at_.1, fun k hk => hc ((h.st i hi).at_.2 k hk)⟩, (h.st i hi).up⟩
  · by_cases e1 : i = j
    · subst e1
      simp only [if_pos] at e
      simp only [if_neg (Ne.symm hne)]
      intro e2
      rcases hw g e with e3 | e3
      · exact h.ne k i hk hj (Ne.symm hne) g e2 e3.symm
      · have := lt k hk g e2; omega
    · simp only [if_neg e1] at e
      by_cases e2 : k = j
      · subst e2
        simp only [if_pos]
        intro e3
        rcases hw g e3 with e4 | e4
        · exact h.ne i k hi hk hne g e e4.symm
        · have := lt i hi g e; omega
      · simp only [if_neg e2]
        exact h.ne i k hi hk hne g e
theorem Four.ok {m b : Nat} {w : World} {s c : Nat → Sl} {cs : Nat → List SC} {ls : Nat → List SetV} (h : Four m w s cs ls) (hG : GridIn w b 0 0 s c) (hl : ∀ j, j < 4 → (cs j).length ≤ 1000000) : GridN w b ls :=
  ⟨s, c, hG, fun j hj => (h.st j hj).sets (h.own j hj).own (Nat.le_refl _) (hl j hj) (Kept.refl _ _)⟩
end Go.Proofs.YtbaijjclofekcaaGreatDoor
namespace Go.Proofs.YtbaijjclofekcaaGreatDoor
open Go.RowKit
set_option maxHeartbeats 2000000 in
set_option maxRecDepth 100000 in
theorem refFresh_any (v : Value) (l : List SetV) (s : ByteArray) (w : World) (hv : SetsAt w v l) (hs : s.size ≤ 1000) :
    Calls Tryz.prog 105 #[v, .string s] w fun r w' => (∃ t, r = .returned (.string t) ∧ FreshOut l s t) ∧ Below w.heap.size w w' := by
  have HV := hide hv
  obtain ⟨hlen, a, cap, rfl, hel⟩ := hv
  clear hel
  obtain ⟨N, hN⟩ : ∃ N : Nat, N = l.length := ⟨_, rfl⟩
  rw [← hN] at hlen HV ⊢
  have HN := hide hN
  clear hN
  go_enter Tryz.func105, Tryz.ntmps105
  go_wp2
  go_loopw [5] (fun i wr => ∃ K : Int, i = .int .i64 K ∧ 0 ≤ K ∧ K ≤ 100000 ∧ Hid (∀ j : Nat, (j : Int) < K → namedB l (tryS s j) = true) ∧ Hid (Below w.heap.size w wr)) (fun i _ => 100000 - (intOf i).toNat)
  case atStart => exact ⟨0, rfl, by omega, by omega, hide (fun j hj => by omega), hide (Below.refl _ _)⟩
  case round =>
    obtain ⟨K, rfl, k0, hk, HG, HB⟩ := hrel
    by_cases hkl : K < 100000
    · have D := hide (decimal_any K (by omega) (by omega) wr)
      have hd := itoa_short K.toNat (by omega)
      have HT : Hid (s ++ ⟨(Lib.itoa ((K.toNat : Nat) : Int)).toArray⟩ = tryS s K.toNat) := hide rfl
      rw [Int.toNat_of_nonneg k0] at hd HT
      generalize (⟨(Lib.itoa K).toArray⟩ : ByteArray) = d at *
      go_wp2_with fail
      refine (unhide D).mono ?_
      rintro r w1 ⟨rfl, b1⟩
      have B1 := hide (HB.out.trans (b1.mono HB.out.size))
      clear b1 D HB
      go_wp2
      rw [HT.out]
      clear HT
      generalize hT : tryS s K.toNat = t at *
      have HT := hide hT
      clear hT
      go_loopw [7, 8] (fun f i wr' => ∃ j : Nat, i = .int .i64 j ∧ j ≤ N ∧ wr' = w1 ∧ f = .bool ((l.take j).any fun S => inStrsB S.strs t)) (fun _ i _ => N - (intOf i).toNat)
      case atStart => exact ⟨0, rfl, by omega, rfl, rfl⟩
      case round =>
        obtain ⟨j, rfl, hj, rfl, rfl⟩ := hrel
        by_cases hjt : j < N
        · have hj' : j < l.length := by rw [← HN.out]; exact hjt
          obtain ⟨b, off, vi, vs, rfl, hb, c0, c1, c2, c3, hI, hS⟩ := (HV.out.on B1.out).at.2 j hj'
          have X := hide (inStrs_any vs _ t _ hS)
          have G0 : Hid (((l.take (j + 1)).any fun S => inStrsB S.strs t) = (((l.take j).any fun S => inStrsB S.strs t) || inStrsB (l.getD j noSet).strs t)) := hide (by
            rw [List.take_succ_eq_append_getElem hj', List.any_append, List.getD_eq_getElem?_getD, List.getElem?_eq_getElem hj']
            simp)
          generalize l.getD j noSet = S at *
          generalize ((l.take j).any fun S => inStrsB S.strs t) = f at *
          generalize inStrsB S.strs t = g at *
          clear hI hS
          cases f
          · go_wp2_with fail
            refine (unhide X).mono ?_
            rintro r w2 ⟨rfl, rfl⟩
            go_wp2
            exact ⟨⟨j + 1, by go_num, by omega, trivial, by rw [G0.out]; rfl⟩, by simp [intOf]; omega⟩
          · go_wp2
            exact ⟨⟨j + 1, by go_num, by omega, trivial, by rw [G0.out]; rfl⟩, by simp [intOf]; omega⟩
        · have hge : (N : Int) ≤ (j : Int) := by omega
          have G0 : ((l.take j).any fun S => inStrsB S.strs t) = namedB l t := by rw [List.take_of_length_le (by have := HN.out; omega)]; rfl
          rw [G0]
          clear G0
          cases G1 : namedB l t
          · have G2 := hide G1
            clear G1
            go_wp2
            go_ret
            exact ⟨⟨_, rfl, Or.inl ⟨K.toNat, by omega, HT.out.symm, G2.out⟩⟩, B1.out⟩
          · have G2 := hide G1
            clear G1
            go_wp2
            refine ⟨⟨K + 1, rfl, by omega, by omega, hide (fun i hi => ?_), B1⟩, by simp [intOf]; omega⟩
            by_cases hi' : (i : Int) < K
            · exact HG.out i hi'
            · rw [show i = K.toNat by omega, HT.out]; exact G2.out
    · have hge : (100000 : Int) ≤ K := by omega
      have G2 : Hid (∀ j : Nat, j < 100000 → namedB l (tryS s j) = true) := hide (fun j hj => HG.out j (by omega))
      go_wp2
      go_ret
      exact ⟨⟨s, rfl, Or.inr ⟨rfl, G2.out⟩⟩, HB.out⟩
end Go.Proofs.YtbaijjclofekcaaGreatDoor
namespace Go.Proofs.YtbaijjclofekcaaGreatDoor
open Go.RowKit
theorem ptsS_len9 (S : SetV) (h : S.ints.length ≤ 1000 ∧ S.strs.length ≤ 1000) : (ptsS S).length ≤ 5000 := by
  unfold ptsS
  rw [List.length_append, List.length_map]
  have := flat_len ptsR 4 S.ints (fun x _ => ptsR_len x)
  omega
theorem ptsL_len9 (l : List SetV) (h : ∀ S ∈ l, S.ints.length ≤ 1000 ∧ S.strs.length ≤ 1000) : (ptsL l).length ≤ 4 + l.length * 5000 := by
  unfold ptsL
  rw [List.length_append]
  have := flat_len ptsS 5000 l (fun S hS => ptsS_len9 S (h S hS))
  have h4 : pts0.length = 4 := rfl
  omega
theorem wpList_appV {ops : Array Oper} {rest : List Oper} {o : Oper} {a : Act} {Q : Exit → Act → World → Prop} (w : World) (hgd : o.guard = none) (s x : Operand)
    (ho : o.op = .call { callee := .builtin .append, args := #[s, x], argTypes := #[114, 114] })
    (B : Nat) (v : Value) (l : List Va) (hs : a.eval s = v) (hown : OwnV w B v l) (g m c : Nat) (cs : Array Value) (news : List Va) (hm : news.length = m)
    (hx : a.eval x = .slice (some ⟨g, 0, none⟩) m c) (hb : w.heap[g]? = some (.cells cs 24 (0, 0))) (hcs : cs.toList = vaCells news) (hlen : l.length + m ≤ 1000000) (hB : B ≤ w.heap.size)
    (h : ∀ v' w', OwnV w' B v' (l ++ news) → Below B w w' → wpList Tryz.prog ops Q rest (a.put o.dst v') w') : wpList Tryz.prog ops Q (o :: rest) a w := by
  obtain ⟨i0, hi, hz0, hz1, hz2⟩ := info_parts infoVal
  refine wpList_append_own w hgd s x 114 ho B 24 i0 _ 3 32 Tryz.underlying114 hi hz0 hz1 hz2 rfl (by decide) v l.length (vaCells l) hs hown ⟨g, 0, none⟩ m c (vaCells news) hx (by rw [vaCells_len, hm]) ?_ (vaCells_one _) (by unfold maxLen; omega) (by omega) hB ?_
  · rw [← hcs]; exact World.news_of_block hb
  · intro v' w' h1 h2 _
    refine h v' w' ?_ (OwnV.grownB hown hB h2)
    unfold OwnV
    rw [List.length_append, hm, vaCells_append]
    exact h1
theorem wpList_appI {ops : Array Oper} {rest : List Oper} {o : Oper} {a : Act} {Q : Exit → Act → World → Prop} (w0 w : World) (hgd : o.guard = none) (s x : Operand)
    (ho : o.op = .call { callee := .builtin .append, args := #[s, x], argTypes := #[114, 114] })
    (R : Nat) (r : Rg) (v : Value) (l : List Va) (hs : a.eval s = v) (hin : InR w0 w R r v l) (g m c : Nat) (cs : Array Value) (news : List Va) (hm : news.length = m) (hm0 : 0 < m)
    (hx : a.eval x = .slice (some ⟨g, 0, none⟩) m c) (hb : w.heap[g]? = some (.cells cs 24 (0, 0))) (hcs : cs.toList = vaCells news) (hlen : l.length + m ≤ 1000000)
    (h : ∀ v' w', InR w0 w' R r v' (l ++ news) → wpList Tryz.prog ops Q rest (a.put o.dst v') w') : wpList Tryz.prog ops Q (o :: rest) a w := by
  obtain ⟨i0, hi, hz0, hz1, hz2⟩ := info_parts infoVal
  refine wpList_append_lies w hgd s x 114 ho w0.heap.size 24 i0 _ 3 32 Tryz.underlying114 hi hz0 hz1 hz2 rfl (by decide) v l.length (vaCells l) hs hin.own ⟨g, 0, none⟩ m c (vaCells news) hx (by rw [vaCells_len, hm]) ?_ (vaCells_one _) hm0 (by unfold maxLen; omega) (by omega) hin.below.size w.heap.size rfl ?_
  · rw [← hcs]; exact World.news_of_block hb
  · intro g' cap' w' h1 h2 h3 _
    refine h _ w' ⟨?_, ?_, ?_, hin.below.trans (OwnV.grownB hin.own hin.below.size h2)⟩
    · unfold OwnV
      rw [List.length_append, hm, vaCells_append]
      exact h1
    · rcases h3 with h3 | h3
      · show some g' ≠ some R
        rw [← h3]; exact hin.ne
      · intro e
        have e' : g' = R := by simpa [Value.ownBlock] using e
        have := lt_heap hin.rb
        omega
    · exact (h2.block R (lt_heap hin.rb) (fun e => hin.ne e.symm)).trans hin.rb
set_option maxHeartbeats 4000000 in
set_option maxRecDepth 100000 in
theorem refPoints_any (v : Value) (l : List SetV) (w : World) (hv : SetsAt w v l) (hn : l.length ≤ 100) (hfew : ∀ S ∈ l, S.ints.length ≤ 1000 ∧ S.strs.length ≤ 1000) :
    Calls Tryz.prog 81 #[v] w fun r w' => (∃ u t, r = .returned u ∧ FreshOut l ⟨#[126]⟩ t ∧ OwnV w' w.heap.size u (ptsL l ++ [(2, 0, t)])) ∧ Below w.heap.size w w' := by
  have HV := hide hv
  have HF := hide hfew
  obtain ⟨hlen, a, cap, rfl, hel⟩ := hv
  clear hel hfew
  obtain ⟨N, hN⟩ : ∃ N : Nat, N = l.length := ⟨_, rfl⟩
  rw [← hN] at hlen hn HV ⊢
  have HN := hide hN
  clear hN
  go_enter Tryz.func81, Tryz.ntmps81
  go_wp2
  go_loopw [3, 5] (fun o i wr => ∃ k : Nat, i = .int .i64 k ∧ k ≤ N ∧ Hid (OwnV wr w.heap.size o (pts0 ++ (l.take k).flatMap ptsS)) ∧ Hid (((l.take k).flatMap ptsS).length ≤ k * 5000) ∧ Hid (Below w.heap.size w wr)) (fun _ i _ => N - (intOf i).toNat)
  case atStart =>
    refine ⟨0, rfl, by omega, hide ?_, hide (by simp), hide ((Below.refl _ _).alloc (Nat.le_refl _) _)⟩
    exact ownV_new w _ (pts0 ++ []) rfl (by simp [pts0])
  case round =>
    obtain ⟨k, rfl, hk, HO, HL, HB⟩ := hrel
    by_cases hlt : k < N
    · have hk' : k < l.length := by rw [← HN.out]; exact hlt
      obtain ⟨b, off, vi, vs, rfl, hb, c0, c1, c2, c3, hI, hS⟩ := (HV.out.on HB.out).at.2 k hk'
      have hfs := HF.out (l.getD k noSet) (by rw [List.getD_eq_getElem?_getD, List.getElem?_eq_getElem hk']; exact List.getElem_mem _)
      have NX := hide (take_flat ptsS l k noSet hk')
      have SK : Hid (l.getD k noSet = l.getD k noSet) := hide rfl
      obtain ⟨S, hS0⟩ : ∃ S, S = l.getD k noSet := ⟨_, rfl⟩
      rw [← hS0] at NX hfs
      have HSk := hide hS0
      clear hS0 SK c0 c1 c2 c3 hI hS vi vs hb
      obtain ⟨sa, si, sc, ss⟩ := S
      dsimp only at *
      obtain ⟨nI, hnI⟩ : ∃ n : Nat, n = si.length := ⟨_, rfl⟩
      obtain ⟨nS, hnS⟩ : ∃ n : Nat, n = ss.length := ⟨_, rfl⟩
      rw [← hnI, ← hnS] at hfs
      have HnI := hide hnI
      have HnS := hide hnS
      clear hnI hnS
      obtain ⟨PL0, hPL0⟩ : ∃ p, p = pts0 ++ (l.take k).flatMap ptsS := ⟨_, rfl⟩
      rw [← hPL0] at HO
      have PL : Hid (PL0.length ≤ 4 + k * 5000) := hide (by have := HL.out; have h4 : pts0.length = 4 := rfl; rw [hPL0, List.length_append]; omega)
      have HPL := hide hPL0
      clear hPL0
      go_wp2
      go_loopw [3, 6] (fun o i wr' => ∃ j : Nat, i = .int .i64 j ∧ j ≤ nI ∧ Hid (OwnV wr' w.heap.size o (PL0 ++ (si.take j).flatMap ptsR)) ∧ Hid (((si.take j).flatMap ptsR).length ≤ j * 4) ∧ Hid (Below w.heap.size w wr')) (fun _ i _ => nI - (intOf i).toNat)
      case atStart => exact ⟨0, rfl, by omega, hide (by simpa using HO.out), hide (by simp), HB⟩
      case round =>
        clear HO HB
        obtain ⟨j, rfl, hj, HO', HL', HB'⟩ := hrel
        obtain ⟨b', off', vi, vs, ha, hb, c0, c1, c2, c3, hI, hS⟩ := (HV.out.on HB'.out).at.2 k hk'
        rw [← HSk.out] at c0 c2 hI hS
        dsimp only at c0 c2 hI hS
        simp at ha
        obtain ⟨rfl, rfl⟩ := ha
        obtain ⟨ai, ci, rfl⟩ := hI.form
        obtain ⟨aq, cq, rfl⟩ := hS.form
        have nIle := hI.2.1
        rw [← HnI.out] at c1 nIle
        rw [← HnS.out] at c3
        by_cases hjt : j < nI
        · have hj' : j < si.length := by rw [← HnI.out]; exact hjt
          obtain ⟨bi, oi, ha2, hbi, y0, y1⟩ := hI.at.2 j hj'
          subst ha2
          obtain ⟨q0, q1, q2, q3⟩ := hI.bound j hj'
          have NXI := hide (take_flat ptsR si j (0, 0) hj')
          generalize si.getD j (0, 0) = r at *
          clear hI hS
          have IN0 := hide (InR.start (r := r) HO'.out HB'.out)
          clear HO' HB'
          by_cases hlo : -9223372036854775808 < r.1
          · by_cases hhi : r.2 < 9223372036854775807
            · go_wp2_with (at_builtin; (first | (refine wpList_appI w _ rfl _ _ rfl wr.heap.size r _ _ rfl (IN0.out.alloc _) _ 2 2 _ [(1, r.1, noS), (1, r.2, noS)] rfl (by omega) rfl (two_at wr _ _) rfl (by have h1 := PL.out; have h2 := HL'.out; simp only [List.length_append, List.length_cons, List.length_nil]; omega) ?_; intro v1 w1 hw1; obtain ⟨zw10, zw11⟩ := hw1.cells; have IN1 := hide hw1; clear hw1 IN0) | (refine wpList_appI w _ rfl _ _ rfl wr.heap.size r _ _ rfl (IN1.out.alloc _) _ 1 1 _ [(1, r.1 - 1, noS)] rfl (by omega) rfl (heap_top _ _) rfl (by have h1 := PL.out; have h2 := HL'.out; simp only [List.length_append, List.length_cons, List.length_nil]; omega) ?_; intro v2 w2 hw2; obtain ⟨zw20, zw21⟩ := hw2.cells; have IN2 := hide hw2; clear hw2 IN1) | (refine wpList_appI w _ rfl _ _ rfl wr.heap.size r _ _ rfl (IN2.out.alloc _) _ 1 1 _ [(1, r.2 + 1, noS)] rfl (by omega) rfl (heap_top _ _) rfl (by have h1 := PL.out; have h2 := HL'.out; simp only [List.length_append, List.length_cons, List.length_nil]; omega) ?_; intro v3 w3 hw3; obtain ⟨zw30, zw31⟩ := hw3.cells; have IN3 := hide hw3; clear hw3 IN2)))
              refine ⟨⟨j + 1, by go_num, by omega, hide ?_, hide ?_, hide IN3.out.below⟩, by simp [intOf]; omega⟩
              · rw [NXI.out, ← List.append_assoc]
                have e : ptsR r = [(1, r.1, noS), (1, r.2, noS)] ++ [(1, r.1 - 1, noS)] ++ [(1, r.2 + 1, noS)] := by unfold ptsR; rw [if_pos hlo, if_pos hhi]
                rw [e]
                have h := IN3.out.own
                simp only [List.append_assoc] at h ⊢
                exact h
              · rw [NXI.out, List.length_append]
                have h1 := HL'.out
                have h2 := ptsR_len r
                omega
            · go_wp2_with (at_builtin; (first | (refine wpList_appI w _ rfl _ _ rfl wr.heap.size r _ _ rfl (IN0.out.alloc _) _ 2 2 _ [(1, r.1, noS), (1, r.2, noS)] rfl (by omega) rfl (two_at wr _ _) rfl (by have h1 := PL.out; have h2 := HL'.out; simp only [List.length_append, List.length_cons, List.length_nil]; omega) ?_; intro v1 w1 hw1; obtain ⟨zw10, zw11⟩ := hw1.cells; have IN1 := hide hw1; clear hw1 IN0) | (refine wpList_appI w _ rfl _ _ rfl wr.heap.size r _ _ rfl (IN1.out.alloc _) _ 1 1 _ [(1, r.1 - 1, noS)] rfl (by omega) rfl (heap_top _ _) rfl (by have h1 := PL.out; have h2 := HL'.out; simp only [List.length_append, List.length_cons, List.length_nil]; omega) ?_; intro v2 w2 hw2; obtain ⟨zw20, zw21⟩ := hw2.cells; have IN2 := hide hw2; clear hw2 IN1)))
              refine ⟨⟨j + 1, by go_num, by omega, hide ?_, hide ?_, hide IN2.out.below⟩, by simp [intOf]; omega⟩
              · rw [NXI.out, ← List.append_assoc]
                have e : ptsR r = [(1, r.1, noS), (1, r.2, noS)] ++ [(1, r.1 - 1, noS)] := by unfold ptsR; rw [if_pos hlo, if_neg hhi]; try simp
                rw [e]
                have h := IN2.out.own
                simp only [List.append_assoc] at h ⊢
                exact h
              · rw [NXI.out, List.length_append]
                have h1 := HL'.out
                have h2 := ptsR_len r
                omega
          · by_cases hhi : r.2 < 9223372036854775807
            · go_wp2_with (at_builtin; (first | (refine wpList_appI w _ rfl _ _ rfl wr.heap.size r _ _ rfl (IN0.out.alloc _) _ 2 2 _ [(1, r.1, noS), (1, r.2, noS)] rfl (by omega) rfl (two_at wr _ _) rfl (by have h1 := PL.out; have h2 := HL'.out; simp only [List.length_append, List.length_cons, List.length_nil]; omega) ?_; intro v1 w1 hw1; obtain ⟨zw10, zw11⟩ := hw1.cells; have IN1 := hide hw1; clear hw1 IN0) | (refine wpList_appI w _ rfl _ _ rfl wr.heap.size r _ _ rfl (IN1.out.alloc _) _ 1 1 _ [(1, r.2 + 1, noS)] rfl (by omega) rfl (heap_top _ _) rfl (by have h1 := PL.out; have h2 := HL'.out; simp only [List.length_append, List.length_cons, List.length_nil]; omega) ?_; intro v3 w3 hw3; obtain ⟨zw30, zw31⟩ := hw3.cells; have IN3 := hide hw3; clear hw3 IN1)))
              refine ⟨⟨j + 1, by go_num, by omega, hide ?_, hide ?_, hide IN3.out.below⟩, by simp [intOf]; omega⟩
              · rw [NXI.out, ← List.append_assoc]
                have e : ptsR r = [(1, r.1, noS), (1, r.2, noS)] ++ [(1, r.2 + 1, noS)] := by unfold ptsR; rw [if_neg hlo, if_pos hhi]; try simp
                rw [e]
                have h := IN3.out.own
                simp only [List.append_assoc] at h ⊢
                exact h
              · rw [NXI.out, List.length_append]
                have h1 := HL'.out
                have h2 := ptsR_len r
                omega
            · go_wp2_with (at_builtin; (first | (refine wpList_appI w _ rfl _ _ rfl wr.heap.size r _ _ rfl (IN0.out.alloc _) _ 2 2 _ [(1, r.1, noS), (1, r.2, noS)] rfl (by omega) rfl (two_at wr _ _) rfl (by have h1 := PL.out; have h2 := HL'.out; simp only [List.length_append, List.length_cons, List.length_nil]; omega) ?_; intro v1 w1 hw1; obtain ⟨zw10, zw11⟩ := hw1.cells; have IN1 := hide hw1; clear hw1 IN0)))
              refine ⟨⟨j + 1, by go_num, by omega, hide ?_, hide ?_, hide IN1.out.below⟩, by simp [intOf]; omega⟩
              · rw [NXI.out, ← List.append_assoc]
                have e : ptsR r = [(1, r.1, noS), (1, r.2, noS)] := by unfold ptsR; rw [if_neg hlo, if_neg hhi]; try simp
                rw [e]
                have h := IN1.out.own
                simp only [List.append_assoc] at h ⊢
                exact h
              · rw [NXI.out, List.length_append]
                have h1 := HL'.out
                have h2 := ptsR_len r
                omega
        · have hge : (nI : Int) ≤ (j : Int) := by omega
          obtain ⟨PL1, hPL1⟩ : ∃ p, p = PL0 ++ si.flatMap ptsR := ⟨_, rfl⟩
          have OWN1 : Hid (OwnV wr w.heap.size u3 PL1) := hide (by
            have h := HO'.out
            rw [List.take_of_length_le (by have := HnI.out; omega), ← hPL1] at h
            exact h)
          have PLE : Hid (PL1.length ≤ 4 + k * 5000 + nI * 4) := hide (by
            have h1 := PL.out
            have h2 := flat_len ptsR 4 si (fun x _ => ptsR_len x)
            rw [hPL1, List.length_append, HnI.out]; omega)
          have HPL1 := hide hPL1
          clear hPL1 HO' HL' hI
          go_wp2
          go_loopw [3, 8] (fun o i wr' => ∃ j : Nat, i = .int .i64 j ∧ j ≤ nS ∧ Hid (OwnV wr' w.heap.size o (PL1 ++ (ss.take j).map fun s => (2, 0, s))) ∧ Hid (Below w.heap.size w wr')) (fun _ i _ => nS - (intOf i).toNat)
          case atStart => exact ⟨0, rfl, by omega, hide (by simpa using OWN1.out), HB'⟩
          case round =>
            clear OWN1 HB' c0 c1 c2 c3 hS hb
            obtain ⟨i, rfl, hi, HO', HB'⟩ := hrel
            obtain ⟨b', off', vi, vs, ha, hb, c0, c1, c2, c3, hI, hS⟩ := (HV.out.on HB'.out).at.2 k hk'
            rw [← HSk.out] at c0 c2 hI hS
            dsimp only at c0 c2 hI hS
            simp at ha
            obtain ⟨rfl, rfl⟩ := ha
            obtain ⟨ai, ci, rfl⟩ := hI.form
            obtain ⟨aq, cq, rfl⟩ := hS.form
            have nSle := hS.2.1
            rw [← HnI.out] at c1
            rw [← HnS.out] at c3 nSle
            by_cases hit : i < nS
            · have hi' : i < ss.length := by rw [← HnS.out]; exact hit
              obtain ⟨bi, oi, ha2, hbi, y0⟩ := hS.at.2 i hi'
              subst ha2
              have NXS := hide (take_map (fun s => ((2, 0, s) : Va)) ss i ⟨#[]⟩ hi')
              generalize ss.getD i ⟨#[]⟩ = q at *
              have LE : Hid ((PL1 ++ (ss.take i).map fun s => ((2, 0, s) : Va)).length + 1 ≤ 1000000) := hide (by
                have h1 := PLE.out
                rw [List.length_append, List.length_map, List.length_take]
                omega)
              have szB := HB'.out.size
              clear hI hS
              go_wp2_with (at_builtin; refine wpList_appV _ rfl _ _ rfl w.heap.size _ _ rfl (HO'.out.alloc _) _ 1 1 _ [(2, 0, q)] rfl rfl (heap_top _ _) rfl LE.out (by simp; omega) ?_; intro v1 w1 hO1 hb1; have O1 := hide hO1; have B1 := hide ((HB'.out.alloc szB _).trans hb1); clear hO1 hb1)
              exact ⟨⟨i + 1, by go_num, by omega, hide (by rw [NXS.out, ← List.append_assoc]; exact O1.out), B1⟩, by simp [intOf]; omega⟩
            · have hge : (nS : Int) ≤ (i : Int) := by omega
              have OWN2 : Hid (OwnV wr w.heap.size u3 (pts0 ++ (l.take (k + 1)).flatMap ptsS)) := hide (by
                have h := HO'.out
                rw [List.take_of_length_le (by have := HnS.out; omega), HPL1.out, HPL.out] at h
                rw [NX.out]
                unfold ptsS
                simp only [List.append_assoc] at h ⊢
                exact h)
              have LE2 : Hid (((l.take (k + 1)).flatMap ptsS).length ≤ (k + 1) * 5000) := hide (by
                rw [NX.out, List.length_append]
                have h1 := HL.out
                have h2 := flat_len ptsR 4 si (fun x _ => ptsR_len x)
                have h3 := HnI.out
                have h4 := HnS.out
                have h5 : (ptsS ⟨sa, si, sc, ss⟩).length = (si.flatMap ptsR).length + ss.length := by unfold ptsS; rw [List.length_append, List.length_map]
                rw [h5]
                omega)
              clear HO' hI hS
              go_wp2
              exact ⟨⟨k + 1, by go_num, by omega, OWN2, LE2, HB'⟩, by simp [intOf]; omega⟩
    · have hge : (N : Int) ≤ (k : Int) := by omega
      have OWN3 : Hid (OwnV wr w.heap.size u3 (ptsL l)) := hide (by
        have h := HO.out
        rw [List.take_of_length_le (by have := HN.out; omega)] at h
        exact h)
      have LE3 : Hid ((ptsL l).length + 1 ≤ 1000000) := hide (by
        have h := HL.out
        rw [List.take_of_length_le (by have := HN.out; omega)] at h
        unfold ptsL
        have h4 : pts0.length = 4 := rfl
        rw [List.length_append]; omega)
      have X := hide (refFresh_any _ l ⟨#[126]⟩ wr (HV.out.on HB.out) (by decide))
      have szB := HB.out.size
      clear HO HL
      go_wp2_with fail
      refine (unhide X).mono ?_
      rintro r w1 ⟨⟨t, rfl, ht⟩, b1⟩
      have HT := hide ht
      have O1 := hide (OWN3.out.on b1)
      have B1 := hide (HB.out.trans (b1.mono szB))
      have szC := B1.out.size
      clear ht b1 X OWN3
      go_wp2_with (at_builtin; refine wpList_appV _ rfl _ _ rfl w.heap.size _ _ rfl (O1.out.alloc _) _ 1 1 _ [(2, 0, t)] rfl rfl (heap_top _ _) rfl LE3.out (by simp; omega) ?_; intro v1 w2 hO2 hb2; have O2 := hide hO2; have B2 := hide ((B1.out.alloc szC _).trans hb2); clear hO2 hb2)
      go_ret
      exact ⟨⟨_, t, rfl, HT.out, O2.out⟩, B2.out⟩
end Go.Proofs.YtbaijjclofekcaaGreatDoor
namespace Go.Proofs.YtbaijjclofekcaaGreatDoor
open Go.RowKit
set_option maxHeartbeats 4000000 in
set_option maxRecDepth 100000 in
theorem refIn_any (v u : Value) (A B : SetV) (w : World) (hv : SetAt w v A) (hu : SetAt w u B) (fA : A.ints.length ≤ 1000 ∧ A.strs.length ≤ 1000) (fB : B.ints.length ≤ 1000 ∧ B.strs.length ≤ 1000) :
    Calls Tryz.prog 65 #[v, u] w fun r w' => (∃ t, FreshOut [A, B] ⟨#[126]⟩ t ∧ r = .returned (.bool (inPts A B (ptsL [A, B] ++ [(2, 0, t)])))) ∧ Below w.heap.size w w' := by
  have HV := hide hv
  have HU := hide hu
  obtain ⟨vi, vs, rfl, hI, hS⟩ := hv
  obtain ⟨ui, us, rfl, hJ, hT⟩ := hu
  have szA := hide hS.1
  have szB := hide hT.1
  clear hI hS hJ hT
  obtain ⟨e1, e2, b2⟩ := two_bx w (.cells #[.bool A.absent, vi, .bool A.co, vs] 43) (.cells #[.bool B.absent, ui, .bool B.co, us] 43)
  have s2 : ((w.alloc (.cells #[.bool A.absent, vi, .bool A.co, vs] 43)).alloc (.cells #[.bool B.absent, ui, .bool B.co, us] 43)).heap.size = w.heap.size + 1 + 1 := by
    show ((w.heap.push _).push _).size = _; simp
  have HP := hide (refPoints_any _ [A, B] _ (SetAt.pair (HV.out.on b2) (HU.out.on b2) (w.heap.size + 1 + 1) s2.symm vi vs ui us rfl rfl) (by simp) (by
    intro S hS
    rcases List.mem_cons.1 hS with rfl | hS
    · exact fA
    · rcases List.mem_cons.1 hS with rfl | hS
      · exact fB
      · simp at hS))
  have E1 := hide e1
  have E2 := hide e2
  have B2 := hide b2
  have S2 := hide s2
  clear e1 e2 b2 s2
  go_enter Tryz.func65, Tryz.ntmps65
  go_wp2_with fail
  refine (unhide HP).mono ?_
  rintro r w1 ⟨⟨x, t, rfl, ht, hO⟩, b3⟩
  have b4 := below_alloc b3
  have f1 := (b4.block _ (lt_heap E1.out)).trans E1.out
  have f2 := (b4.block _ (lt_heap E2.out)).trans E2.out
  have b5 := B2.out.trans (b4.mono (by have := B2.out.size; omega))
  have szP : ∀ p ∈ ptsL [A, B] ++ [(2, 0, t)], p.2.2.size ≤ maxLen := fun p hp => by
    rcases List.mem_append.1 hp with hp | hp
    · refine ptsL_size [A, B] maxLen (fun S hS s hs => ?_) p hp
      rcases List.mem_cons.1 hS with rfl | hS
      · exact szA.out s hs
      · rcases List.mem_cons.1 hS with rfl | hS
        · exact szB.out s hs
        · simp at hS
    · simp at hp
      rw [hp]
      have := fresh_size ht
      show t.size ≤ maxLen
      unfold maxLen; omega
  have npos : 0 < (ptsL [A, B] ++ [(2, 0, t)]).length := by simp
  have nle : (ptsL [A, B] ++ [(2, 0, t)]).length ≤ 1000000 := by
    have := ptsL_len9 [A, B] (by
      intro S hS
      rcases List.mem_cons.1 hS with rfl | hS
      · exact fA
      · rcases List.mem_cons.1 hS with rfl | hS
        · exact fB
        · simp at hS)
    rw [List.length_append]
    simp at this ⊢
    omega
  have HT := hide ht
  generalize hPl : ptsL [A, B] ++ [(2, 0, t)] = pl at *
  have HPl := hide hPl
  obtain ⟨g, cap, rfl, hg1, hg2⟩ := hO.form npos
  have O1 := hide hO
  have F1 := hide f1
  have F2 := hide f2
  have B5 := hide b5
  have SZP := hide szP
  have V1 := hide (HV.out.on b5)
  have U1 := hide (HU.out.on b5)
  generalize hR : inPts A B pl = Rr
  have HRr := hide hR
  have HR0 : Hid ((pl.drop 0).all (fun p => !(hasP A p && !(hasP B p))) = Rr) := hide (by rw [List.drop_zero]; exact hR)
  obtain ⟨N, hN⟩ : ∃ N : Nat, N = pl.length := ⟨_, rfl⟩
  rw [← hN] at nle O1 ⊢
  have HN := hide hN
  clear ht hO b3 b4 f1 f2 b5 szP HV HU HP E1 E2 B2 S2 hR hN npos hPl
  go_wp2
  go_loopw [6] (fun i wr => ∃ k : Nat, i = .int .i64 k ∧ k ≤ N ∧ Hid ((pl.drop k).all (fun p => !(hasP A p && !(hasP B p))) = Rr) ∧ Hid (Below w1.heap.size w1 wr)) (fun i _ => N - (intOf i).toNat)
  case atStart => exact ⟨0, rfl, by omega, HR0, hide (Below.refl _ _)⟩
  case round =>
    obtain ⟨k, rfl, hk, HG, HB⟩ := hrel
    by_cases hlt : k < N
    · have hk' : k < pl.length := by rw [← HN.out]; exact hlt
      obtain ⟨y0, y1, y2⟩ := (O1.out.on HB.out).at k hk'
      have g1 := (HB.out.block _ (lt_heap F1.out)).trans F1.out
      have g2 := (HB.out.block _ (lt_heap F2.out)).trans F2.out
      have c0 := cell_heap g1 0
      have c1 := cell_heap g1 1
      have c2 := cell_heap g1 2
      have c3 := cell_heap g1 3
      have d0 := cell_heap g2 0
      have d1 := cell_heap g2 1
      have d2 := cell_heap g2 2
      have d3 := cell_heap g2 3
      simp only [List.getElem?_toArray, List.getElem?_cons_zero, List.getElem?_cons_succ] at c0 c1 c2 c3 d0 d1 d2 d3
      have G0 := HG.out
      rw [drop_getD pl k noVa hk'] at G0
      have hz := SZP.out (pl.getD k noVa) (by rw [List.getD_eq_getElem?_getD, List.getElem?_eq_getElem hk']; exact List.getElem_mem _)
      generalize pl.getD k noVa = q at *
      rw [List.all_cons] at G0
      have X1 := fun (d : Nat) (os : Array Obj) => Calls.regrown_of (refHas_any _ A q.1 q.2.1 q.2.2 (Sort.grow (redrawn wr d) os) ((V1.out.on HB.out).on (below_regrown wr d os)) hz)
      have X2 := fun (d : Nat) (os : Array Obj) => Calls.regrown_of (refHas_any _ B q.1 q.2.1 q.2.2 (Sort.grow (redrawn wr d) os) ((U1.out.on HB.out).on (below_regrown wr d os)) hz)
      have p0 := cell_regrown c0
      have p1 := cell_regrown c1
      have p2 := cell_regrown c2
      have p3 := cell_regrown c3
      have p4 := cell_regrown d0
      have p5 := cell_regrown d1
      have p6 := cell_regrown d2
      have p7 := cell_regrown d3
      have p8 := cell_regrown y0
      have p9 := cell_regrown y1
      have pa := cell_regrown y2
      have eA : hasB A q.1 q.2.1 q.2.2 = hasP A q := rfl
      have eB : hasB B q.1 q.2.1 q.2.2 = hasP B q := rfl
      rw [eA] at X1
      rw [eB] at X2
      clear g1 g2 HG eA eB
      cases hA : hasP A q
      · rw [hA] at X1 G0
        have G1 : Hid ((pl.drop (k + 1)).all (fun p => !(hasP A p && !(hasP B p))) = Rr) := hide (by simpa using G0)
        have Y1 := fun d os => hide (X1 d os)
        clear X1 X2 G0 hA
        go_wp2
        clear c0 c1 c2 c3 d0 d1 d2 d3 y0 y1 y2
        refine wp_region_quiet_below mixed (by kernel_rfl) ?_
        repeat (first | go_big_quiet_step (exact unhide (Y1 _ _)) | quiet_step (exact unhide (Y1 _ _)))
        refine wpQuiet_nil ?_
        intro _ hw'
        obtain ⟨⟨dq, osq⟩, hw''⟩ := hw'
        subst hw''
        go_wp2
        exact ⟨⟨k + 1, by go_num, by omega, G1, hide (HB.out.trans ((below_regrown wr dq osq).mono HB.out.size))⟩, by simp [intOf]; omega⟩
      · rw [hA] at X1 G0
        cases hBq : hasP B q
        · rw [hBq] at X2 G0
          have G1 : Hid (Rr = false) := hide (by rw [← G0]; rfl)
          have Y1 := fun d os => hide (X1 d os)
          have Y2 := fun d os => hide (X2 d os)
          clear X1 X2 G0 hA hBq
          go_wp2
          clear c0 c1 c2 c3 d0 d1 d2 d3 y0 y1 y2
          refine wp_region_quiet_below mixed (by kernel_rfl) ?_
          repeat (first | go_big_quiet_step ((first | with_reducible exact unhide (Y1 _ _) | with_reducible exact unhide (Y2 _ _))) | quiet_step ((first | with_reducible exact unhide (Y1 _ _) | with_reducible exact unhide (Y2 _ _))))
          refine wpQuiet_nil ?_
          intro _ hw'
          obtain ⟨⟨dq, osq⟩, hw''⟩ := hw'
          subst hw''
          go_wp2
          go_ret
          exact ⟨⟨t, HT.out, ret_bool (by rw [HPl.out, HRr.out, G1.out])⟩, B5.out.trans ((HB.out.trans ((below_regrown wr dq osq).mono HB.out.size)).mono B5.out.size)⟩
        · rw [hBq] at X2 G0
          have G1 : Hid ((pl.drop (k + 1)).all (fun p => !(hasP A p && !(hasP B p))) = Rr) := hide (by simpa using G0)
          have Y1 := fun d os => hide (X1 d os)
          have Y2 := fun d os => hide (X2 d os)
          clear X1 X2 G0 hA hBq
          go_wp2
          clear c0 c1 c2 c3 d0 d1 d2 d3 y0 y1 y2
          refine wp_region_quiet_below mixed (by kernel_rfl) ?_
          repeat (first | go_big_quiet_step ((first | with_reducible exact unhide (Y1 _ _) | with_reducible exact unhide (Y2 _ _))) | quiet_step ((first | with_reducible exact unhide (Y1 _ _) | with_reducible exact unhide (Y2 _ _))))
          refine wpQuiet_nil ?_
          intro _ hw'
          obtain ⟨⟨dq, osq⟩, hw''⟩ := hw'
          subst hw''
          go_wp2
          exact ⟨⟨k + 1, by go_num, by omega, G1, hide (HB.out.trans ((below_regrown wr dq osq).mono HB.out.size))⟩, by simp [intOf]; omega⟩
    · have hge : (N : Int) ≤ (k : Int) := by omega
      have G1 : Hid (Rr = true) := hide (by rw [← HG.out, List.drop_eq_nil_of_le (by have := HN.out; omega)]; rfl)
      go_wp2
      go_ret
      exact ⟨⟨t, HT.out, ret_bool (by rw [HPl.out, HRr.out, G1.out])⟩, B5.out.trans (HB.out.mono B5.out.size)⟩
end Go.Proofs.YtbaijjclofekcaaGreatDoor
namespace Go.Proofs.YtbaijjclofekcaaGreatDoor
open Go.RowKit
end Go.Proofs.YtbaijjclofekcaaGreatDoor
namespace Go.Proofs.YtbaijjclofekcaaGreatDoor
open Go.RowKit
end Go.Proofs.YtbaijjclofekcaaGreatDoor
namespace Go.Proofs.YtbaijjclofekcaaGreatDoor
open Go.RowKit
set_option maxHeartbeats 4000000 in
set_option maxRecDepth 100000 in
theorem refSame_any (v u : Value) (A B : SetV) (w : World) (hv : SetAt w v A) (hu : SetAt w u B) :
    Calls Tryz.prog 31 #[v, u] w fun r w' => r = .returned (.bool (sameB A B)) ∧ Below w.heap.size w w' := by
  obtain ⟨vi, vs, rfl, hI, hS⟩ := hv
  obtain ⟨ui, us, rfl, hJ, hT⟩ := hu
  obtain ⟨ai, ci, rfl⟩ := hI.form
  obtain ⟨aq, cq, rfl⟩ := hS.form
  obtain ⟨bi, di, rfl⟩ := hJ.form
  obtain ⟨bq, dq, rfl⟩ := hT.form
  obtain ⟨sa, si, sc, ss⟩ := A
  obtain ⟨ta, ti, tc, ts⟩ := B
  dsimp only at *
  have HI := hide hI
  have HS := hide hS
  have HJ := hide hJ
  have HT := hide hT
  have nIle := hI.2.1
  have nSle := hS.2.1
  have nJle := hJ.2.1
  have nTle := hT.2.1
  clear hI hS hJ hT
  unfold sameB
  dsimp only
  have lI := rngEqB_len si ti
  have lS := strEqB_len ss ts
  obtain ⟨nI, hnI⟩ : ∃ n : Nat, n = si.length := ⟨_, rfl⟩
  obtain ⟨nS, hnS⟩ : ∃ n : Nat, n = ss.length := ⟨_, rfl⟩
  obtain ⟨nJ, hnJ⟩ : ∃ n : Nat, n = ti.length := ⟨_, rfl⟩
  obtain ⟨nT, hnT⟩ : ∃ n : Nat, n = ts.length := ⟨_, rfl⟩
  rw [← hnI] at nIle lI ⊢
  rw [← hnS] at nSle lS ⊢
  rw [← hnJ] at nJle lI ⊢
  rw [← hnT] at nTle lS ⊢
  have HnI := hide hnI
  have HnS := hide hnS
  have HnJ := hide hnJ
  have HnT := hide hnT
  have LI := hide lI
  have LS := hide lS
  clear hnI hnS hnJ hnT lI lS
  have ba := fun (o1 o2 : Obj) => hide (two_boxes w o1 o2)
  have hta : ta = sa ∨ ta = !sa := by cases ta <;> cases sa <;> simp
  rcases hta with rfl | rfl
  · have htc : tc = sc ∨ tc = !sc := by cases tc <;> cases sc <;> simp
    rcases htc with rfl | rfl
    · by_cases eI : nI = nJ
      · by_cases eS : nS = nT
        · subst eI
          subst eS
          have b1 : ((nI : Int) != (nI : Int)) = false := by simp
          have b2 : ((nS : Int) != (nS : Int)) = false := by simp
          go_enter Tryz.func31, Tryz.ntmps31
          go_wp2
          obtain ⟨e1, e2, e3⟩ := (ba (.cells #[.bool ta, .slice ai nI ci, .bool tc, .slice aq nS cq] 43) (.cells #[.bool ta, .slice bi nI di, .bool tc, .slice bq nS dq] 43)).out
          have E1 := hide e1
          have E2 := hide e2
          have E3 := hide e3
          clear e1 e2 e3 ba
          go_loopw [5] (fun i wr => ∃ k : Nat, i = .int .i64 k ∧ k ≤ nI ∧ Hid (rngEqB (si.drop k) (ti.drop k) = rngEqB si ti) ∧ Hid (wr.heap[w.heap.size]? = some (.cells #[.bool ta, .slice ai nI ci, .bool tc, .slice aq nS cq] 43 (0, 0))) ∧ Hid (wr.heap[w.heap.size + 1]? = some (.cells #[.bool ta, .slice bi nI di, .bool tc, .slice bq nS dq] 43 (0, 0))) ∧ Hid (Below w.heap.size w wr)) (fun i _ => nI - (intOf i).toNat)
          case atStart => exact ⟨0, rfl, by omega, hide rfl, E1, E2, E3⟩
          case round =>
            clear E1 E2 E3
            obtain ⟨k, rfl, hk, HG, H1, H2, HB⟩ := hrel
            have c1 := cell_heap H1.out 1
            have c3 := cell_heap H1.out 3
            have d1 := cell_heap H2.out 1
            have d3 := cell_heap H2.out 3
            simp only [List.getElem?_toArray, List.getElem?_cons_zero, List.getElem?_cons_succ] at c1 c3 d1 d3
            by_cases hlt : k < nI
            · have hk1 : k < si.length := by rw [← HnI.out]; exact hlt
              have hk2 : k < ti.length := by rw [← HnJ.out]; exact hlt
              obtain ⟨b, off, rfl, hb, x0, x1⟩ := (HI.out.on HB.out).at.2 k hk1
              obtain ⟨b', off', rfl, hb', y0, y1⟩ := (HJ.out.on HB.out).at.2 k hk2
              have G0 := HG.out
              rw [drop_getD si k (0, 0) hk1, drop_getD ti k (0, 0) hk2] at G0
              generalize si.getD k (0, 0) = r at *
              generalize ti.getD k (0, 0) = q at *
              simp only [rngEqB] at G0
              have G1 := hide G0
              clear G0 HG
              cases f1 : (r.1 == q.1)
              · have G2 : Hid (rngEqB si ti = false) := hide (by rw [← G1.out, f1]; rfl)
                clear G1
                go_wp2
                go_quiet (fail)
                go_wp2
                go_ret
                exact ⟨ret_bool (by rw [G2.out]; simp), below_drewN HB.out _⟩
              · cases f2 : (r.2 == q.2)
                · have G2 : Hid (rngEqB si ti = false) := hide (by rw [← G1.out, f1, f2]; rfl)
                  clear G1
                  go_wp2
                  go_quiet (fail)
                  go_wp2
                  go_ret
                  exact ⟨ret_bool (by rw [G2.out]; simp), below_drewN HB.out _⟩
                · have G2 : Hid (rngEqB (si.drop (k + 1)) (ti.drop (k + 1)) = rngEqB si ti) := hide (by rw [← G1.out, f1, f2]; rfl)
                  clear G1
                  go_wp2
                  go_quiet (fail)
                  go_wp2
                  exact ⟨⟨k + 1, by go_num, by omega, G2, H1, H2, hide (below_drewN HB.out _)⟩, by simp [intOf]; omega⟩
            · have hge : (nI : Int) ≤ (k : Int) := by omega
              have G2 : Hid (rngEqB si ti = true) := hide (by
                rw [← HG.out, List.drop_eq_nil_of_le (by have := HnI.out; omega), List.drop_eq_nil_of_le (by have := HnJ.out; omega)]; rfl)
              clear HG
              go_wp2
              go_loopw [6] (fun i wr => ∃ k : Nat, i = .int .i64 k ∧ k ≤ nS ∧ Hid (strEqB (ss.drop k) (ts.drop k) = strEqB ss ts) ∧ Hid (wr.heap[w.heap.size]? = some (.cells #[.bool ta, .slice ai nI ci, .bool tc, .slice aq nS cq] 43 (0, 0))) ∧ Hid (wr.heap[w.heap.size + 1]? = some (.cells #[.bool ta, .slice bi nI di, .bool tc, .slice bq nS dq] 43 (0, 0))) ∧ Hid (Below w.heap.size w wr)) (fun i _ => nS - (intOf i).toNat)
              case atStart => exact ⟨0, rfl, by omega, hide rfl, H1, H2, HB⟩
              case round =>
                clear H1 H2 HB c1 c3 d1 d3 hge hlt hk
                obtain ⟨j, rfl, hj, HG, H1, H2, HB⟩ := hrel
                have c1 := cell_heap H1.out 1
                have c3 := cell_heap H1.out 3
                have d1 := cell_heap H2.out 1
                have d3 := cell_heap H2.out 3
                simp only [List.getElem?_toArray, List.getElem?_cons_zero, List.getElem?_cons_succ] at c1 c3 d1 d3
                by_cases hlt : j < nS
                · have hj1 : j < ss.length := by rw [← HnS.out]; exact hlt
                  have hj2 : j < ts.length := by rw [← HnT.out]; exact hlt
                  obtain ⟨b, off, rfl, hb, x0⟩ := (HS.out.on HB.out).at.2 j hj1
                  obtain ⟨b', off', rfl, hb', y0⟩ := (HT.out.on HB.out).at.2 j hj2
                  have G0 := HG.out
                  rw [drop_getD ss j ⟨#[]⟩ hj1, drop_getD ts j ⟨#[]⟩ hj2] at G0
                  generalize ss.getD j ⟨#[]⟩ = r at *
                  generalize ts.getD j ⟨#[]⟩ = q at *
                  simp only [strEqB] at G0
                  have G1 := hide G0
                  clear G0 HG
                  cases f1 : (r.toList == q.toList)
                  · have G3 : Hid (strEqB ss ts = false) := hide (by rw [← G1.out, f1]; rfl)
                    clear G1
                    go_wp2
                    go_quiet (fail)
                    go_wp2
                    go_ret
                    exact ⟨ret_bool (by rw [G3.out]; simp), below_drewN HB.out _⟩
                  · have G3 : Hid (strEqB (ss.drop (j + 1)) (ts.drop (j + 1)) = strEqB ss ts) := hide (by rw [← G1.out, f1]; rfl)
                    clear G1
                    go_wp2
                    go_quiet (fail)
                    go_wp2
                    exact ⟨⟨j + 1, by go_num, by omega, G3, H1, H2, hide (below_drewN HB.out _)⟩, by simp [intOf]; omega⟩
                · have hge : (nS : Int) ≤ (j : Int) := by omega
                  have G3 : Hid (strEqB ss ts = true) := hide (by
                    rw [← HG.out, List.drop_eq_nil_of_le (by have := HnS.out; omega), List.drop_eq_nil_of_le (by have := HnT.out; omega)]; rfl)
                  clear HG
                  go_wp2
                  go_ret
                  exact ⟨ret_bool (by rw [G2.out, G3.out]; simp), HB.out⟩
        · have b2 : ((nS : Int) != (nT : Int)) = true := by rw [bne_iff_ne]; omega
          have G := hide (LS.out eS)
          subst eI
          go_enter Tryz.func31, Tryz.ntmps31
          go_wp2
          go_ret
          exact ⟨ret_bool (by rw [G.out]; simp), (ba _ _).out.2.2⟩
      · have b1 : ((nI : Int) != (nJ : Int)) = true := by rw [bne_iff_ne]; omega
        have G := hide (LI.out eI)
        go_enter Tryz.func31, Tryz.ntmps31
        go_wp2
        go_ret
        exact ⟨ret_bool (by rw [G.out]; simp), (ba _ _).out.2.2⟩
    · go_enter Tryz.func31, Tryz.ntmps31
      go_wp2
      go_ret
      exact ⟨ret_bool (by cases sc <;> simp), (ba _ _).out.2.2⟩
  · go_enter Tryz.func31, Tryz.ntmps31
    go_wp2
    go_ret
    exact ⟨ret_bool (by cases sa <;> simp), (ba _ _).out.2.2⟩
end Go.Proofs.YtbaijjclofekcaaGreatDoor
namespace Go.Proofs.YtbaijjclofekcaaGreatDoor
open Go.RowKit
set_option maxHeartbeats 4000000 in
set_option maxRecDepth 100000 in
theorem refSmall_any (v : Value) (S : SetV) (w : World) (hv : SetAt w v S) :
    Calls Tryz.prog 44 #[v] w fun r w' => r = .returned (.bool (smallB S)) ∧ Below w.heap.size w w' := by
  obtain ⟨vi, vs, rfl, hI, hS⟩ := hv
  obtain ⟨ai, ci, rfl⟩ := hI.form
  obtain ⟨aq, cq, rfl⟩ := hS.form
  have B0 := fun (o : Obj) => hide ((Below.refl _ w).alloc (Nat.le_refl _) o)
  have n1 := hI.2.1
  have n2 := hS.2.1
  unfold smallB
  clear hI hS
  generalize S.ints.length = a at *
  generalize S.strs.length = b at *
  by_cases h1 : a ≤ 6
  · have e1 : decide ((a : Int) ≤ 6) = true := decide_eq_true (by omega)
    have e1' : decide (a ≤ 6) = true := decide_eq_true h1
    go_enter Tryz.func44, Tryz.ntmps44
    go_wp2
    go_ret
    exact ⟨ret_bool (by rw [e1', Bool.true_and]; exact decide_eq_decide.2 (by omega)), (B0 _).out⟩
  · have e1 : decide ((a : Int) ≤ 6) = false := decide_eq_false (by omega)
    have e1' : decide (a ≤ 6) = false := decide_eq_false h1
    go_enter Tryz.func44, Tryz.ntmps44
    go_wp2
    go_ret
    exact ⟨ret_bool (by rw [e1', Bool.false_and]), (B0 _).out⟩
end Go.Proofs.YtbaijjclofekcaaGreatDoor
namespace Go.Proofs.YtbaijjclofekcaaGreatDoor
open Go.RowKit
theorem BcIn.scAt (k : Nat) (hk : k < 4) {w : World} {g : Nat} {c : BxC} (h : BcIn w g c) : w.cell? ⟨g, k * 4, none⟩ = some (.bool (c.sc k).a) ∧ w.cell? ⟨g, k * 4 + 1, none⟩ = some (.slice (c.sc k).p (c.sc k).n (c.sc k).c) ∧ w.cell? ⟨g, k * 4 + 2, none⟩ = some (.bool (c.sc k).d) ∧ w.cell? ⟨g, k * 4 + 3, none⟩ = some (.slice (c.sc k).q (c.sc k).m (c.sc k).e) := by
  match k, hk with
  | 0, _ => exact h.bx.at0
  | 1, _ => exact h.bx.at1
  | 2, _ => exact h.bx.at2
  | 3, _ => exact h.bx.at3
structure MidB (b : BoxV) : Prop where
  good : GoodB b
  ni : ∀ i, i < 4 → (b.get i).ints.length ≤ 400
  ns : ∀ i, i < 4 → (b.get i).strs.length ≤ 400
theorem refInB_any (v u : Value) (A B : SetV) (w : World) (hv : SetAt w v A) (hu : SetAt w u B) (gA : Good A) (gB : Good B) (fA : A.ints.length ≤ 400 ∧ A.strs.length ≤ 400) (fB : B.ints.length ≤ 400 ∧ B.strs.length ≤ 400) :
    Calls Tryz.prog 65 #[v, u] w fun r w' => r = .returned (.bool (inB A B)) ∧ Below w.heap.size w w' := by
  refine (refIn_any v u A B w hv hu ⟨by omega, by omega⟩ ⟨by omega, by omega⟩).mono ?_
  rintro r w' ⟨⟨t, ht, rfl⟩, kb⟩
  refine ⟨?_, kb⟩
  have e : inPts A B (ptsL [A, B] ++ [(2, 0, t)]) = inB A B := by
    rw [Bool.eq_iff_iff, inPts_inSet A B t ht gA.r gB.r gA.i gB.i fA.2 fB.2, inB_iff gA gB (by omega)]
  rw [e]
theorem keep_next {l : List BoxV} {i k : Nat} {K K' : Bool} (hK : K = (!emptyBx (l.getD i zBox) && (List.range k).all fun j => !betterL l j i)) (h : K' = (K && !betterL l k i)) : K' = (!emptyBx (l.getD i zBox) && (List.range (k + 1)).all fun j => !betterL l j i) := by
  rw [h, hK, List.range_succ, List.all_append, List.all_cons, List.all_nil, Bool.and_true, Bool.and_assoc]
theorem better_same {l : List BoxV} {k i : Nat} (h : k = i) : betterL l k i = false := by rw [h]; exact better_irr l i
theorem better_is {l : List BoxV} {k i : Nat} {p q r : Bool} (h : ¬ k = i) (h1 : inBx (l.getD i zBox) (l.getD k zBox) = p) (h2 : decide (k < i) = q) (h3 : q = true ∨ p = false ∨ inBx (l.getD k zBox) (l.getD i zBox) = r) : betterL l k i = (p && (q || !r)) := by
  unfold betterL
  rw [h1, h2, show (k != i) = true by simpa using h, Bool.true_and]
  rcases h3 with rfl | rfl | h3
  · cases p <;> rfl
  · rfl
  · rw [h3]
def tidyK (l : List BoxV) (m : Nat) : List BoxV := ((List.range m).filter (keepL l)).map fun i => l.getD i zBox
theorem tidyK_yes {l : List BoxV} {m : Nat} (h : keepL l m = true) : tidyK l (m + 1) = tidyK l m ++ [l.getD m zBox] := by
  unfold tidyK
  rw [List.range_succ, List.filter_append, List.map_append]
  simp [h]
theorem tidyK_no {l : List BoxV} {m : Nat} (h : keepL l m = false) : tidyK l (m + 1) = tidyK l m := by
  unfold tidyK
  rw [List.range_succ, List.filter_append, List.map_append]
  simp [h]
theorem tidyK_len (l : List BoxV) (m : Nat) : (tidyK l m).length ≤ m := by
  unfold tidyK
  rw [List.length_map]
  refine Nat.le_trans (List.length_filter_le _ _) ?_
  simp
theorem allBx_snoc {w : World} {ks : List BxC} {L : List BoxV} {c : BxC} {b : BoxV} (h : AllBx w ks L) (hb : BoxAt w c.val b) : AllBx w (ks ++ [c]) (L ++ [b]) := by
  refine ⟨by rw [List.length_append, List.length_append, h.1]; rfl, fun i hi => ?_⟩
  rw [List.length_append, List.length_singleton] at hi
  by_cases hi' : i < L.length
  · rw [getB_lt hi', List.getD_eq_getElem?_getD, List.getElem?_append_left (by rw [h.1]; exact hi'), ← List.getD_eq_getElem?_getD]
    exact h.2 i hi'
  · have e : i = L.length := by omega
    subst e
    rw [getB_end, List.getD_eq_getElem?_getD, ← h.1, List.getElem?_append_right (Nat.le_refl _)]
    simpa using hb
end Go.Proofs.YtbaijjclofekcaaGreatDoor
namespace Go.Proofs.YtbaijjclofekcaaGreatDoor
open Go.RowKit
set_option maxHeartbeats 4000000 in
set_option maxRecDepth 100000 in
theorem refSmallBx_any (c : BxC) (b : BoxV) (w : World) (hv0 : BoxAt w c.val b) :
    Calls Tryz.prog 23 #[c.val] w fun r w' => r = .returned (.bool (smallBx b)) ∧ Below w.heap.size w w' := by
  have hv := hv0
  have D := Below.refl w.heap.size w
  go_enter Tryz.func23, Tryz.ntmps23
  refine wp_seq_k (fun K1 hK1 => ?_)
  refine wp_region_lit ?_
  refine wl_boxBc (o := ⟨_, _, _, _, _, _⟩) (by rfl) _ rfl rfl (fun v1 gb1 hggb1 HB kb => ?_)
  simp only [Act.put, lzA, lzB, lzC]
  replace D := D.trans (kb.mono D.size)
  replace hv := hv.on kb
  clear kb
  refine wl_yield (o := ⟨_, _, _, _, _, _⟩) (.bool false) (yl_assign (by rfl) _ rfl _ rfl) ?_
  simp only [Act.put, lzA, lzB, lzC]
  refine wpList_nil ?_
  refine hK1 _ _ ?_
  clear hK1 K1
  refine wp_seq_k (fun K2 hK2 => ?_)
  refine wp_seq_k (fun K3 hK3 => ?_)
  refine wp_region_lit ?_
  refine wl_yield (o := ⟨_, _, _, _, _, _⟩) (.int .i64 0) (yl_assign (by rfl) _ rfl _ rfl) ?_
  simp only [Act.put, lzA, lzB, lzC]
  refine wpList_nil ?_
  refine hK3 _ _ ?_
  clear hK3 K3
  refine wp_block ?_
  go_loopw [3] (fun i wr => ∃ k : Nat, i = .int .i64 k ∧ k ≤ 4 ∧ (∀ j, j < k → smallB (b.get j) = true) ∧ BcIn wr gb1 c ∧ Below w.heap.size w wr) (fun i _ => 4 - (intOf i).toNat)
  case atStart => exact ⟨0, rfl, by omega, fun j h => by omega, HB, D⟩
  case round =>
    replace hv := hv0
    clear D HB
    obtain ⟨k, rfl, hk, hF, HB, D⟩ := hrel
    replace hv := hv.on D
    by_cases hlt : k < 4
    · refine wp_seq_k (fun K4 hK4 => ?_)
      refine wp_seq_k (fun K5 hK5 => ?_)
      refine wp_region_lit ?_
      refine wl_yield (o := ⟨_, _, _, _, _, _⟩) (.int .i64 (k : Nat)) (yl_move (by rfl) _ rfl _ rfl) ?_
      simp only [Act.put, lzA, lzB, lzC]
      refine wl_yield (o := ⟨_, _, _, _, _, _⟩) (.bool true) (yl_lssI (by rfl) _ _ _ rfl (((k : Nat) : Int)) (4) true rfl rfl (decide_eq_true (by omega))) ?_
      simp only [Act.put, lzA, lzB, lzC]
      refine wpList_nil ?_
      refine hK5 _ _ ?_
      clear hK5 K5
      refine wp_cond_true rfl ?_
      refine wp_skip ?_
      refine hK4 _ _ ?_
      clear hK4 K4
      refine wp_seq_k (fun K6 hK6 => ?_)
      refine wp_block ?_
      refine wp_seq_k (fun K7 hK7 => ?_)
      refine wp_region_lit ?_
      refine wl_yield (o := ⟨_, _, _, _, _, _⟩) (.int .i64 (k : Nat)) (yl_move (by rfl) _ rfl _ rfl) ?_
      simp only [Act.put, lzA, lzB, lzC]
      refine wl_yield (o := ⟨_, _, _, _, _, _⟩) (.pointer (some ⟨gb1, k * 4, none⟩)) (yl_atBox (by rfl) _ _ rfl gb1 k rfl rfl (hlt)) ?_
      simp only [Act.put, lzA, lzB, lzC]
      refine wl_yield (o := ⟨_, _, _, _, _, _⟩) (SC.val (BxC.sc c k)) (yl_set (by rfl) _ rfl _ (k * 4) rfl _ _ _ _ (fun _ h => by subst h; exact BcIn.scAt k (hlt) HB)) ?_
      simp only [Act.put, lzA, lzB, lzC]
      refine wl_call (o := ⟨_, _, _, _, _, _⟩) (by rfl) 44 _ _ rfl #[SC.val (BxC.sc c k)] rfl (run_call Tryz.func44 (by kernel_rfl) (by kernel_rfl)) ?_
      refine (refSmall_any _ (b.get k) _ (hv.sc k hlt)).mono ?_
      rintro r v2 ⟨rfl, kb⟩
      replace D := D.trans (kb.mono D.size)
      replace hv := hv.on kb
      replace HB := HB.on kb
      clear kb
      cases hq : smallB (b.get k)
      · refine ⟨.bool false, rfl, ?_⟩
        simp only [Act.put, lzA, lzB, lzC]
        refine wl_yield (o := ⟨_, _, _, _, _, _⟩) (.bool true) (yl_not (by rfl) _ _ rfl false rfl) ?_
        simp only [Act.put, lzA, lzB, lzC]
        refine wpList_nil ?_
        refine hK7 _ _ ?_
        clear hK7 K7
        refine wp_cond_true rfl ?_
        refine wp_seq_k (fun K8 hK8 => ?_)
        refine wp_region_lit ?_
        refine wl_yield (o := ⟨_, _, _, _, _, _⟩) (.bool false) (yl_assign (by rfl) _ rfl _ rfl) ?_
        simp only [Act.put, lzA, lzB, lzC]
        refine wpList_nil ?_
        refine hK8 _ _ ?_
        clear hK8 K8
        refine wp_ret ?_
        go_ret
        exact ⟨by rw [show smallBx b = false from all4_no hlt hq]; rfl, D⟩
      · refine ⟨.bool true, rfl, ?_⟩
        simp only [Act.put, lzA, lzB, lzC]
        refine wl_yield (o := ⟨_, _, _, _, _, _⟩) (.bool false) (yl_not (by rfl) _ _ rfl true rfl) ?_
        simp only [Act.put, lzA, lzB, lzC]
        refine wpList_nil ?_
        refine hK7 _ _ ?_
        clear hK7 K7
        refine wp_cond_false rfl ?_
        refine wp_skip ?_
        refine hK6 _ _ ?_
        clear hK6 K6
        refine wp_region_lit ?_
        refine wl_yield (o := ⟨_, _, _, _, _, _⟩) (.int .i64 (k : Nat)) (yl_move (by rfl) _ rfl _ rfl) ?_
        simp only [Act.put, lzA, lzB, lzC]
        refine wl_yield (o := ⟨_, _, _, _, _, _⟩) (.int .i64 (k + 1 : Nat)) (yl_addI (by rfl) _ _ _ rfl (((k : Nat) : Int)) (1) (((k + 1 : Nat) : Int)) rfl rfl (by omega) (by omega) (by omega)) ?_
        simp only [Act.put, lzA, lzB, lzC]
        refine wl_yield (o := ⟨_, _, _, _, _, _⟩) (.int .i64 (k + 1 : Nat)) (yl_assign (by rfl) _ rfl _ rfl) ?_
        simp only [Act.put, lzA, lzB, lzC]
        refine wpList_nil ?_
        show _ ∧ _
        go_roundw
        case rel => exact ⟨k + 1, rfl, by omega, fun j hj => by
          rcases Nat.lt_succ_iff_lt_or_eq.1 hj with h | rfl
          · exact hF j h
          · exact hq, HB, D⟩
        case measure => simp [intOf]; omega
    · refine wp_seq_k (fun K4 hK4 => ?_)
      refine wp_seq_k (fun K5 hK5 => ?_)
      refine wp_region_lit ?_
      refine wl_yield (o := ⟨_, _, _, _, _, _⟩) (.int .i64 (k : Nat)) (yl_move (by rfl) _ rfl _ rfl) ?_
      simp only [Act.put, lzA, lzB, lzC]
      refine wl_yield (o := ⟨_, _, _, _, _, _⟩) (.bool false) (yl_lssI (by rfl) _ _ _ rfl (((k : Nat) : Int)) (4) false rfl rfl (decide_eq_false (by omega))) ?_
      simp only [Act.put, lzA, lzB, lzC]
      refine wpList_nil ?_
      refine hK5 _ _ ?_
      clear hK5 K5
      refine wp_cond_false rfl ?_
      refine wp_exit ?_
      refine hK2 _ _ ?_
      clear hK4 K4 hK2 K2
      refine wp_seq_k (fun K6 hK6 => ?_)
      refine wp_region_lit ?_
      refine wl_yield (o := ⟨_, _, _, _, _, _⟩) (.bool true) (yl_assign (by rfl) _ rfl _ rfl) ?_
      simp only [Act.put, lzA, lzB, lzC]
      refine wpList_nil ?_
      refine hK6 _ _ ?_
      clear hK6 K6
      refine wp_ret ?_
      go_ret
      exact ⟨by rw [show smallBx b = true from (all4_iff _).2 fun i hi => hF i (by omega)]; rfl, D⟩
theorem empty_yes {b : BoxV} {i : Nat} (hi : i < 4) (h : emptyB (b.get i) = true) : emptyBx b = true := by
  cases hq : emptyBx b
  · rw [(emptyBx_iff b).1 hq i hi] at h; cases h
  · rfl
set_option maxHeartbeats 4000000 in
set_option maxRecDepth 100000 in
theorem refEmptyBx_any (c : BxC) (b : BoxV) (w : World) (hv0 : BoxAt w c.val b) :
    Calls Tryz.prog 45 #[c.val] w fun r w' => r = .returned (.bool (emptyBx b)) ∧ Below w.heap.size w w' := by
  have hv := hv0
  have D := Below.refl w.heap.size w
  go_enter Tryz.func45, Tryz.ntmps45
  refine wp_seq_k (fun K1 hK1 => ?_)
  refine wp_region_lit ?_
  refine wl_boxBc (o := ⟨_, _, _, _, _, _⟩) (by rfl) _ rfl rfl (fun v1 gb1 hggb1 HB kb => ?_)
  simp only [Act.put, lzA, lzB, lzC]
  replace D := D.trans (kb.mono D.size)
  replace hv := hv.on kb
  clear kb
  refine wl_yield (o := ⟨_, _, _, _, _, _⟩) (.bool false) (yl_assign (by rfl) _ rfl _ rfl) ?_
  simp only [Act.put, lzA, lzB, lzC]
  refine wpList_nil ?_
  refine hK1 _ _ ?_
  clear hK1 K1
  refine wp_seq_k (fun K2 hK2 => ?_)
  refine wp_seq_k (fun K3 hK3 => ?_)
  refine wp_region_lit ?_
  refine wl_yield (o := ⟨_, _, _, _, _, _⟩) (.int .i64 0) (yl_assign (by rfl) _ rfl _ rfl) ?_
  simp only [Act.put, lzA, lzB, lzC]
  refine wpList_nil ?_
  refine hK3 _ _ ?_
  clear hK3 K3
  refine wp_block ?_
  go_loopw [3] (fun i wr => ∃ k : Nat, i = .int .i64 k ∧ k ≤ 4 ∧ (∀ j, j < k → emptyB (b.get j) = false) ∧ BcIn wr gb1 c ∧ Below w.heap.size w wr) (fun i _ => 4 - (intOf i).toNat)
  case atStart => exact ⟨0, rfl, by omega, fun j h => by omega, HB, D⟩
  case round =>
    replace hv := hv0
    clear D HB
    obtain ⟨k, rfl, hk, hF, HB, D⟩ := hrel
    replace hv := hv.on D
    by_cases hlt : k < 4
    · refine wp_seq_k (fun K4 hK4 => ?_)
      refine wp_seq_k (fun K5 hK5 => ?_)
      refine wp_region_lit ?_
      refine wl_yield (o := ⟨_, _, _, _, _, _⟩) (.int .i64 (k : Nat)) (yl_move (by rfl) _ rfl _ rfl) ?_
      simp only [Act.put, lzA, lzB, lzC]
      refine wl_yield (o := ⟨_, _, _, _, _, _⟩) (.bool true) (yl_lssI (by rfl) _ _ _ rfl (((k : Nat) : Int)) (4) true rfl rfl (decide_eq_true (by omega))) ?_
      simp only [Act.put, lzA, lzB, lzC]
      refine wpList_nil ?_
      refine hK5 _ _ ?_
      clear hK5 K5
      refine wp_cond_true rfl ?_
      refine wp_skip ?_
      refine hK4 _ _ ?_
      clear hK4 K4
      refine wp_seq_k (fun K6 hK6 => ?_)
      refine wp_block ?_
      refine wp_seq_k (fun K7 hK7 => ?_)
      refine wp_region_lit ?_
      refine wl_yield (o := ⟨_, _, _, _, _, _⟩) (.int .i64 (k : Nat)) (yl_move (by rfl) _ rfl _ rfl) ?_
      simp only [Act.put, lzA, lzB, lzC]
      refine wl_yield (o := ⟨_, _, _, _, _, _⟩) (.pointer (some ⟨gb1, k * 4, none⟩)) (yl_atBox (by rfl) _ _ rfl gb1 k rfl rfl (hlt)) ?_
      simp only [Act.put, lzA, lzB, lzC]
      refine wl_yield (o := ⟨_, _, _, _, _, _⟩) (SC.val (BxC.sc c k)) (yl_set (by rfl) _ rfl _ (k * 4) rfl _ _ _ _ (fun _ h => by subst h; exact BcIn.scAt k (hlt) HB)) ?_
      simp only [Act.put, lzA, lzB, lzC]
      refine wl_call (o := ⟨_, _, _, _, _, _⟩) (by rfl) 56 _ _ rfl #[SC.val (BxC.sc c k)] rfl (run_call Tryz.func56 (by kernel_rfl) (by kernel_rfl)) ?_
      refine (refEmpty3_any _ (b.get k) _ (hv.sc k hlt)).mono ?_
      rintro r v2 ⟨rfl, kb⟩
      replace D := D.trans (kb.mono D.size)
      replace hv := hv.on kb
      replace HB := HB.on kb
      clear kb
      cases hq : emptyB (b.get k)
      · refine ⟨.bool false, rfl, ?_⟩
        simp only [Act.put, lzA, lzB, lzC]
        refine wpList_nil ?_
        refine hK7 _ _ ?_
        clear hK7 K7
        refine wp_cond_false rfl ?_
        refine wp_skip ?_
        refine hK6 _ _ ?_
        clear hK6 K6
        refine wp_region_lit ?_
        refine wl_yield (o := ⟨_, _, _, _, _, _⟩) (.int .i64 (k : Nat)) (yl_move (by rfl) _ rfl _ rfl) ?_
        simp only [Act.put, lzA, lzB, lzC]
        refine wl_yield (o := ⟨_, _, _, _, _, _⟩) (.int .i64 (k + 1 : Nat)) (yl_addI (by rfl) _ _ _ rfl (((k : Nat) : Int)) (1) (((k + 1 : Nat) : Int)) rfl rfl (by omega) (by omega) (by omega)) ?_
        simp only [Act.put, lzA, lzB, lzC]
        refine wl_yield (o := ⟨_, _, _, _, _, _⟩) (.int .i64 (k + 1 : Nat)) (yl_assign (by rfl) _ rfl _ rfl) ?_
        simp only [Act.put, lzA, lzB, lzC]
        refine wpList_nil ?_
        show _ ∧ _
        go_roundw
        case rel => exact ⟨k + 1, rfl, by omega, fun j hj => by
          rcases Nat.lt_succ_iff_lt_or_eq.1 hj with h | rfl
          · exact hF j h
          · exact hq, HB, D⟩
        case measure => simp [intOf]; omega
      · refine ⟨.bool true, rfl, ?_⟩
        simp only [Act.put, lzA, lzB, lzC]
        refine wpList_nil ?_
        refine hK7 _ _ ?_
        clear hK7 K7
        refine wp_cond_true rfl ?_
        refine wp_seq_k (fun K8 hK8 => ?_)
        refine wp_region_lit ?_
        refine wl_yield (o := ⟨_, _, _, _, _, _⟩) (.bool true) (yl_assign (by rfl) _ rfl _ rfl) ?_
        simp only [Act.put, lzA, lzB, lzC]
        refine wpList_nil ?_
        refine hK8 _ _ ?_
        clear hK8 K8
        refine wp_ret ?_
        go_ret
        exact ⟨by rw [show emptyBx b = true from empty_yes hlt hq]; rfl, D⟩
    · refine wp_seq_k (fun K4 hK4 => ?_)
      refine wp_seq_k (fun K5 hK5 => ?_)
      refine wp_region_lit ?_
      refine wl_yield (o := ⟨_, _, _, _, _, _⟩) (.int .i64 (k : Nat)) (yl_move (by rfl) _ rfl _ rfl) ?_
      simp only [Act.put, lzA, lzB, lzC]
      refine wl_yield (o := ⟨_, _, _, _, _, _⟩) (.bool false) (yl_lssI (by rfl) _ _ _ rfl (((k : Nat) : Int)) (4) false rfl rfl (decide_eq_false (by omega))) ?_
      simp only [Act.put, lzA, lzB, lzC]
      refine wpList_nil ?_
      refine hK5 _ _ ?_
      clear hK5 K5
      refine wp_cond_false rfl ?_
      refine wp_exit ?_
      refine hK2 _ _ ?_
      clear hK4 K4 hK2 K2
      refine wp_seq_k (fun K6 hK6 => ?_)
      refine wp_region_lit ?_
      refine wl_yield (o := ⟨_, _, _, _, _, _⟩) (.bool false) (yl_assign (by rfl) _ rfl _ rfl) ?_
      simp only [Act.put, lzA, lzB, lzC]
      refine wpList_nil ?_
      refine hK6 _ _ ?_
      clear hK6 K6
      refine wp_ret ?_
      go_ret
      exact ⟨by rw [show emptyBx b = false from (emptyBx_iff b).2 fun i hi => hF i (by omega)]; rfl, D⟩
set_option maxHeartbeats 4000000 in
set_option maxRecDepth 100000 in
theorem refInBx_any (c d : BxC) (a b : BoxV) (w : World) (hv0 : BoxAt w c.val a) (hu0 : BoxAt w d.val b) (fa : MidB a) (fb : MidB b) :
    Calls Tryz.prog 46 #[c.val, d.val] w fun r w' => r = .returned (.bool (inBx a b)) ∧ Below w.heap.size w w' := by
  have hv := hv0
  have hu := hu0
  have D := Below.refl w.heap.size w
  go_enter Tryz.func46, Tryz.ntmps46
  refine wp_seq_k (fun K1 hK1 => ?_)
  refine wp_region_lit ?_
  refine wl_boxBc (o := ⟨_, _, _, _, _, _⟩) (by rfl) _ rfl rfl (fun v1 gb1 hggb1 HA kb => ?_)
  simp only [Act.put, lzA, lzB, lzC]
  replace D := D.trans (kb.mono D.size)
  replace hv := hv.on kb
  replace hu := hu.on kb
  clear kb
  refine wl_boxBc (o := ⟨_, _, _, _, _, _⟩) (by rfl) _ rfl rfl (fun v2 gb2 hggb2 HB kb => ?_)
  simp only [Act.put, lzA, lzB, lzC]
  replace D := D.trans (kb.mono D.size)
  replace hv := hv.on kb
  replace hu := hu.on kb
  replace HA := HA.on kb
  clear kb
  refine wl_yield (o := ⟨_, _, _, _, _, _⟩) (.bool false) (yl_assign (by rfl) _ rfl _ rfl) ?_
  simp only [Act.put, lzA, lzB, lzC]
  refine wpList_nil ?_
  refine hK1 _ _ ?_
  clear hK1 K1
  refine wp_seq_k (fun K2 hK2 => ?_)
  refine wp_seq_k (fun K3 hK3 => ?_)
  refine wp_region_lit ?_
  refine wl_yield (o := ⟨_, _, _, _, _, _⟩) (BxC.val c) (yl_bx (by rfl) _ rfl _ _ rfl _ (fun _ h => by subst h; exact BcIn.at HA)) ?_
  simp only [Act.put, lzA, lzB, lzC]
  refine wl_call (o := ⟨_, _, _, _, _, _⟩) (by rfl) 45 _ _ rfl #[BxC.val c] rfl (run_call Tryz.func45 (by kernel_rfl) (by kernel_rfl)) ?_
  refine (refEmptyBx_any c a _ hv).mono ?_
  rintro r v3 ⟨rfl, kb⟩
  replace D := D.trans (kb.mono D.size)
  replace hv := hv.on kb
  replace hu := hu.on kb
  replace HA := HA.on kb
  replace HB := HB.on kb
  clear kb
  cases hE : emptyBx a
  · refine ⟨.bool false, rfl, ?_⟩
    simp only [Act.put, lzA, lzB, lzC]
    refine wpList_nil ?_
    refine hK3 _ _ ?_
    clear hK3 K3
    refine wp_cond_false rfl ?_
    refine wp_skip ?_
    refine hK2 _ _ ?_
    clear hK2 K2
    refine wp_seq_k (fun K4 hK4 => ?_)
    refine wp_seq_k (fun K5 hK5 => ?_)
    refine wp_region_lit ?_
    refine wl_yield (o := ⟨_, _, _, _, _, _⟩) (.int .i64 0) (yl_assign (by rfl) _ rfl _ rfl) ?_
    simp only [Act.put, lzA, lzB, lzC]
    refine wpList_nil ?_
    refine hK5 _ _ ?_
    clear hK5 K5
    refine wp_block ?_
    go_loopw [5] (fun i wr => ∃ k : Nat, i = .int .i64 k ∧ k ≤ 4 ∧ (∀ j, j < k → inB (a.get j) (b.get j) = true) ∧ BcIn wr gb1 c ∧ BcIn wr gb2 d ∧ Below w.heap.size w wr) (fun i _ => 4 - (intOf i).toNat)
    case atStart => exact ⟨0, rfl, by omega, fun j h => by omega, HA, HB, D⟩
    case round =>
      replace hv := hv0
      replace hu := hu0
      clear D HA HB
      obtain ⟨k, rfl, hk, hF, HA, HB, D⟩ := hrel
      replace hv := hv.on D
      replace hu := hu.on D
      by_cases hlt : k < 4
      · refine wp_seq_k (fun K6 hK6 => ?_)
        refine wp_seq_k (fun K7 hK7 => ?_)
        refine wp_region_lit ?_
        refine wl_yield (o := ⟨_, _, _, _, _, _⟩) (.int .i64 (k : Nat)) (yl_move (by rfl) _ rfl _ rfl) ?_
        simp only [Act.put, lzA, lzB, lzC]
        refine wl_yield (o := ⟨_, _, _, _, _, _⟩) (.bool true) (yl_lssI (by rfl) _ _ _ rfl (((k : Nat) : Int)) (4) true rfl rfl (decide_eq_true (by omega))) ?_
        simp only [Act.put, lzA, lzB, lzC]
        refine wpList_nil ?_
        refine hK7 _ _ ?_
        clear hK7 K7
        refine wp_cond_true rfl ?_
        refine wp_skip ?_
        refine hK6 _ _ ?_
        clear hK6 K6
        refine wp_seq_k (fun K8 hK8 => ?_)
        refine wp_block ?_
        refine wp_seq_k (fun K9 hK9 => ?_)
        refine wp_region_held_drew (S := fun w' => BcIn w' gb1 c ∧ BcIn w' gb2 d) (by kernel_rfl) ⟨HA.on (Below.refl _ _).drew, HB.on (Below.refl _ _).drew⟩ (fun hHeld => ?_)
        have kb : Below wr.heap.size wr wr.drew := (Below.refl _ wr).drew
        replace D := D.trans (kb.mono D.size)
        replace hv := hv.on kb
        replace hu := hu.on kb
        replace HA := HA.on kb
        replace HB := HB.on kb
        clear kb
        generalize wr.drew = v4 at D hHeld hv hu HA HB ⊢
        refine wpAnyH_take (i := 0) (oi := ⟨_, _, _, _, _, _⟩) (v := .int .i64 (k : Nat)) rfl (by kernel_rfl) (by kernel_rfl) (by kernel_rfl) (fun _ _ _ h => h) (yl_move (by rfl) _ rfl _ rfl) (by assumption) ?_
        simp only [Act.put, lzA, lzB, lzC]
        refine wpAnyH_take (i := 1) (oi := ⟨_, _, _, _, _, _⟩) (v := .pointer (some ⟨gb1, k * 4, none⟩)) rfl (by kernel_rfl) (by kernel_rfl) (by kernel_rfl) (fun _ _ _ h => h) (yl_atBox (by rfl) _ _ rfl gb1 k rfl rfl (hlt)) (by assumption) ?_
        simp only [Act.put, lzA, lzB, lzC]
        refine wpAnyH_take (i := 2) (oi := ⟨_, _, _, _, _, _⟩) (v := SC.val (BxC.sc c k)) rfl (by kernel_rfl) (by kernel_rfl) (by kernel_rfl) (fun _ _ _ h => h) (yl_set (by rfl) _ rfl _ (k * 4) rfl _ _ _ _ (fun _ h => BcIn.scAt k (hlt) h.1)) (by assumption) ?_
        simp only [Act.put, lzA, lzB, lzC]
        refine wpAnyH_take (i := 3) (oi := ⟨_, _, _, _, _, _⟩) (v := .int .i64 (k : Nat)) rfl (by kernel_rfl) (by kernel_rfl) (by kernel_rfl) (fun _ _ _ h => h) (yl_move (by rfl) _ rfl _ rfl) (by assumption) ?_
        simp only [Act.put, lzA, lzB, lzC]
        refine wpAnyH_take (i := 4) (oi := ⟨_, _, _, _, _, _⟩) (v := .pointer (some ⟨gb2, k * 4, none⟩)) rfl (by kernel_rfl) (by kernel_rfl) (by kernel_rfl) (fun _ _ _ h => h) (yl_atBox (by rfl) _ _ rfl gb2 k rfl rfl (hlt)) (by assumption) ?_
        simp only [Act.put, lzA, lzB, lzC]
        refine wpAnyH_take (i := 5) (oi := ⟨_, _, _, _, _, _⟩) (v := SC.val (BxC.sc d k)) rfl (by kernel_rfl) (by kernel_rfl) (by kernel_rfl) (fun _ _ _ h => h) (yl_set (by rfl) _ rfl _ (k * 4) rfl _ _ _ _ (fun _ h => BcIn.scAt k (hlt) h.2)) (by assumption) ?_
        simp only [Act.put, lzA, lzB, lzC]
        refine held_call (o := ⟨_, _, _, _, _, _⟩) 6 (by kernel_rfl) rfl (by rfl) 65 _ _ rfl #[SC.val (BxC.sc c k), SC.val (BxC.sc d k)] rfl (run_call Tryz.func65 (by kernel_rfl) (by kernel_rfl)) ?_
        refine (refInB_any _ _ (a.get k) (b.get k) _ (hv.sc k hlt) (hu.sc k hlt) (fa.good.g k hlt) (fb.good.g k hlt) ⟨fa.ni k hlt, fa.ns k hlt⟩ ⟨fb.ni k hlt, fb.ns k hlt⟩).mono ?_
        rintro r v5 ⟨rfl, kb⟩
        replace D := D.trans (kb.mono D.size)
        replace hv := hv.on kb
        replace hu := hu.on kb
        replace HA := HA.on kb
        replace HB := HB.on kb
        clear kb
        clear hHeld
        cases hq : inB (a.get k) (b.get k)
        · refine ⟨.bool false, rfl, ⟨HA, HB⟩, fun hHeld => ?_⟩
          simp only [Act.put, lzA, lzB, lzC]
          refine wpAnyH_take (i := 7) (oi := ⟨_, _, _, _, _, _⟩) (v := .bool true) rfl (by kernel_rfl) (by kernel_rfl) (by kernel_rfl) (fun _ _ _ h => h) (yl_not (by rfl) _ _ rfl false rfl) (by assumption) ?_
          simp only [Act.put, lzA, lzB, lzC]
          refine wpAnyH_done (by kernel_rfl) ?_ _
          clear hHeld
          refine hK9 _ _ ?_
          clear hK9 K9
          refine wp_cond_true rfl ?_
          refine wp_seq_k (fun K10 hK10 => ?_)
          refine wp_region_lit ?_
          refine wl_yield (o := ⟨_, _, _, _, _, _⟩) (.bool false) (yl_assign (by rfl) _ rfl _ rfl) ?_
          simp only [Act.put, lzA, lzB, lzC]
          refine wpList_nil ?_
          refine hK10 _ _ ?_
          clear hK10 K10
          refine wp_ret ?_
          go_ret
          exact ⟨by unfold inBx; rw [hE, Bool.false_or, all4_no hlt hq]; rfl, D⟩
        · refine ⟨.bool true, rfl, ⟨HA, HB⟩, fun hHeld => ?_⟩
          simp only [Act.put, lzA, lzB, lzC]
          refine wpAnyH_take (i := 7) (oi := ⟨_, _, _, _, _, _⟩) (v := .bool false) rfl (by kernel_rfl) (by kernel_rfl) (by kernel_rfl) (fun _ _ _ h => h) (yl_not (by rfl) _ _ rfl true rfl) (by assumption) ?_
          simp only [Act.put, lzA, lzB, lzC]
          refine wpAnyH_done (by kernel_rfl) ?_ _
          clear hHeld
          refine hK9 _ _ ?_
          clear hK9 K9
          refine wp_cond_false rfl ?_
          refine wp_skip ?_
          refine hK8 _ _ ?_
          clear hK8 K8
          refine wp_region_lit ?_
          refine wl_yield (o := ⟨_, _, _, _, _, _⟩) (.int .i64 (k : Nat)) (yl_move (by rfl) _ rfl _ rfl) ?_
          simp only [Act.put, lzA, lzB, lzC]
          refine wl_yield (o := ⟨_, _, _, _, _, _⟩) (.int .i64 (k + 1 : Nat)) (yl_addI (by rfl) _ _ _ rfl (((k : Nat) : Int)) (1) (((k + 1 : Nat) : Int)) rfl rfl (by omega) (by omega) (by omega)) ?_
          simp only [Act.put, lzA, lzB, lzC]
          refine wl_yield (o := ⟨_, _, _, _, _, _⟩) (.int .i64 (k + 1 : Nat)) (yl_assign (by rfl) _ rfl _ rfl) ?_
          simp only [Act.put, lzA, lzB, lzC]
          refine wpList_nil ?_
          show _ ∧ _
          go_roundw
          case rel => exact ⟨k + 1, rfl, by omega, fun j hj => by
            rcases Nat.lt_succ_iff_lt_or_eq.1 hj with h | rfl
            · exact hF j h
            · exact hq, HA, HB, D⟩
          case measure => simp [intOf]; omega
      · refine wp_seq_k (fun K6 hK6 => ?_)
        refine wp_seq_k (fun K7 hK7 => ?_)
        refine wp_region_lit ?_
        refine wl_yield (o := ⟨_, _, _, _, _, _⟩) (.int .i64 (k : Nat)) (yl_move (by rfl) _ rfl _ rfl) ?_
        simp only [Act.put, lzA, lzB, lzC]
        refine wl_yield (o := ⟨_, _, _, _, _, _⟩) (.bool false) (yl_lssI (by rfl) _ _ _ rfl (((k : Nat) : Int)) (4) false rfl rfl (decide_eq_false (by omega))) ?_
        simp only [Act.put, lzA, lzB, lzC]
        refine wpList_nil ?_
        refine hK7 _ _ ?_
        clear hK7 K7
        refine wp_cond_false rfl ?_
        refine wp_exit ?_
        refine hK4 _ _ ?_
        clear hK6 K6 hK4 K4
        refine wp_seq_k (fun K8 hK8 => ?_)
        refine wp_region_lit ?_
        refine wl_yield (o := ⟨_, _, _, _, _, _⟩) (.bool true) (yl_assign (by rfl) _ rfl _ rfl) ?_
        simp only [Act.put, lzA, lzB, lzC]
        refine wpList_nil ?_
        refine hK8 _ _ ?_
        clear hK8 K8
        refine wp_ret ?_
        go_ret
        exact ⟨by unfold inBx; rw [hE, Bool.false_or, (all4_iff fun i => inB (a.get i) (b.get i)).2 fun i hi => hF i (by omega)]; rfl, D⟩
  · refine ⟨.bool true, rfl, ?_⟩
    simp only [Act.put, lzA, lzB, lzC]
    refine wpList_nil ?_
    refine hK3 _ _ ?_
    clear hK3 K3
    refine wp_cond_true rfl ?_
    refine wp_seq_k (fun K4 hK4 => ?_)
    refine wp_region_lit ?_
    refine wl_yield (o := ⟨_, _, _, _, _, _⟩) (.bool true) (yl_assign (by rfl) _ rfl _ rfl) ?_
    simp only [Act.put, lzA, lzB, lzC]
    refine wpList_nil ?_
    refine hK4 _ _ ?_
    clear hK4 K4
    refine wp_ret ?_
    go_ret
    exact ⟨by unfold inBx; rw [hE, Bool.true_or]; rfl, D⟩
set_option maxHeartbeats 4000000 in
set_option maxRecDepth 100000 in
theorem refTidy_any (v : Value) (l : List BoxV) (w : World) (hv : Bxs w v l) (fl : ∀ b ∈ l, MidB b) (hl : l.length ≤ 1000) :
    Calls Tryz.prog 24 #[v] w fun r w' => (∃ u ks, r = .returned u ∧ OwnB w' w.heap.size u ks ∧ AllBx w' ks (tidyL l)) ∧ Below w.heap.size w w' := by
  obtain ⟨cs, hr, ha⟩ := hv
  have hbig := hr.1
  have hcl := ha.1
  obtain ⟨q, cp, rfl⟩ := hr.form
  have D := Below.refl w.heap.size w
  go_enter Tryz.func24, Tryz.ntmps24
  refine wp_seq_k (fun K1 hK1 => ?_)
  refine wp_region_lit ?_
  refine wl_yield (o := ⟨_, _, _, _, _, _⟩) (.slice none 0 0) (yl_assign (by rfl) _ rfl _ rfl) ?_
  simp only [Act.put, lzA, lzB, lzC]
  refine wpList_nil ?_
  refine hK1 _ _ ?_
  clear hK1 K1
  refine wp_seq_k (fun K2 hK2 => ?_)
  refine wp_region_lit ?_
  refine wl_yield (o := ⟨_, _, _, _, _, _⟩) (.slice none 0 0) (yl_assign (by rfl) _ rfl _ rfl) ?_
  simp only [Act.put, lzA, lzB, lzC]
  refine wpList_nil ?_
  refine hK2 _ _ ?_
  clear hK2 K2
  refine wp_seq_k (fun K3 hK3 => ?_)
  refine wp_seq_k (fun K4 hK4 => ?_)
  refine wp_region_lit ?_
  refine wl_yield (o := ⟨_, _, _, _, _, _⟩) (.int .i64 0) (yl_assign (by rfl) _ rfl _ rfl) ?_
  simp only [Act.put, lzA, lzB, lzC]
  refine wpList_nil ?_
  refine hK4 _ _ ?_
  clear hK4 K4
  refine wp_block ?_
  go_loopw [3, 4] (fun u i wr => ∃ (m : Nat) (ks : List BxC), i = .int .i64 m ∧ m ≤ cs.length ∧ OwnB wr w.heap.size u ks ∧ AllBx w ks (tidyK l m) ∧ Below w.heap.size w wr) (fun _ i _ => cs.length - (intOf i).toNat)
  case atStart => exact ⟨0, [], rfl, by omega, ownB_nil _ _, ⟨rfl, fun i h => by simp [tidyK] at h⟩, D⟩
  case round =>
    clear D
    obtain ⟨m, ks, rfl, hm, hown, hA, D⟩ := hrel
    by_cases hlt : m < cs.length
    · have hml : m < l.length := by omega
      obtain ⟨g, off, rfl, HC⟩ := (hr.on D).at.2 m hlt
      have hbm := ha.2 m hml
      have fm := fl _ (getB_mem hml)
      have hTL := tidyK_len l m
      have hks : ks.length ≤ 1000 := by rw [hA.1]; omega
      refine wp_seq_k (fun K5 hK5 => ?_)
      refine wp_seq_k (fun K6 hK6 => ?_)
      refine wp_region_lit ?_
      refine wl_yield (o := ⟨_, _, _, _, _, _⟩) (.int .i64 (m : Nat)) (yl_move (by rfl) _ rfl _ rfl) ?_
      simp only [Act.put, lzA, lzB, lzC]
      refine wl_yield (o := ⟨_, _, _, _, _, _⟩) (.slice (some ⟨g, off, none⟩) cs.length cp) (yl_move (by rfl) _ rfl _ rfl) ?_
      simp only [Act.put, lzA, lzB, lzC]
      refine wl_yield (o := ⟨_, _, _, _, _, _⟩) (.int .i64 (cs.length : Nat)) (yl_lenB (by rfl) _ rfl _ _ _ rfl) ?_
      simp only [Act.put, lzA, lzB, lzC]
      refine wl_yield (o := ⟨_, _, _, _, _, _⟩) (.bool true) (yl_lssI (by rfl) _ _ _ rfl (((m : Nat) : Int)) (((cs.length : Nat) : Int)) true rfl rfl (decide_eq_true (by omega))) ?_
      simp only [Act.put, lzA, lzB, lzC]
      refine wpList_nil ?_
      refine hK6 _ _ ?_
      clear hK6 K6
      refine wp_cond_true rfl ?_
      refine wp_skip ?_
      refine hK5 _ _ ?_
      clear hK5 K5
      refine wp_seq_k (fun K7 hK7 => ?_)
      refine wp_block ?_
      refine wp_seq_k (fun K8 hK8 => ?_)
      refine wp_region_lit ?_
      refine wl_yield (o := ⟨_, _, _, _, _, _⟩) (.slice (some ⟨g, off, none⟩) cs.length cp) (yl_move (by rfl) _ rfl _ rfl) ?_
      simp only [Act.put, lzA, lzB, lzC]
      refine wl_yield (o := ⟨_, _, _, _, _, _⟩) (.int .i64 (m : Nat)) (yl_move (by rfl) _ rfl _ rfl) ?_
      simp only [Act.put, lzA, lzB, lzC]
      refine wl_yield (o := ⟨_, _, _, _, _, _⟩) (.pointer (some ⟨g, off + m * 16, none⟩)) (yl_bxAt (by rfl) _ _ rfl g (off) _ _ (m) rfl rfl (hlt)) ?_
      simp only [Act.put, lzA, lzB, lzC]
      refine wl_yield (o := ⟨_, _, _, _, _, _⟩) (BxC.val (cs.getD m bc0)) (yl_bx (by rfl) _ rfl _ _ rfl _ (fun _ h => by subst h; exact HC)) ?_
      simp only [Act.put, lzA, lzB, lzC]
      refine wl_call (o := ⟨_, _, _, _, _, _⟩) (by rfl) 45 _ _ rfl #[BxC.val (cs.getD m bc0)] rfl (run_call Tryz.func45 (by kernel_rfl) (by kernel_rfl)) ?_
      refine (refEmptyBx_any _ (l.getD m zBox) _ (hbm.on D)).mono ?_
      rintro r v1 ⟨rfl, kb⟩
      replace D := D.trans (kb.mono D.size)
      replace hown := hown.on kb
      replace HC := HC.on kb
      clear kb
      refine ⟨.bool (emptyBx (l.getD m zBox)), rfl, ?_⟩
      simp only [Act.put, lzA, lzB, lzC]
      refine wl_yield (o := ⟨_, _, _, _, _, _⟩) (.bool (!emptyBx (l.getD m zBox))) (yl_not (by rfl) _ _ rfl (emptyBx (l.getD m zBox)) rfl) ?_
      simp only [Act.put, lzA, lzB, lzC]
      refine wl_yield (o := ⟨_, _, _, _, _, _⟩) (.bool (!emptyBx (l.getD m zBox))) (yl_assign (by rfl) _ rfl _ rfl) ?_
      simp only [Act.put, lzA, lzB, lzC]
      refine wpList_nil ?_
      refine hK8 _ _ ?_
      clear hK8 K8
      refine wp_seq_k (fun K9 hK9 => ?_)
      refine wp_seq_k (fun K10 hK10 => ?_)
      refine wp_region_lit ?_
      refine wl_yield (o := ⟨_, _, _, _, _, _⟩) (.int .i64 0) (yl_assign (by rfl) _ rfl _ rfl) ?_
      simp only [Act.put, lzA, lzB, lzC]
      refine wpList_nil ?_
      refine hK10 _ _ ?_
      clear hK10 K10
      refine wp_block ?_
      go_loopw [5, 6] (fun z i wr => ∃ (k : Nat) (K : Bool), i = .int .i64 k ∧ z = .bool K ∧ k ≤ cs.length ∧ K = (!emptyBx (l.getD m zBox) && (List.range k).all fun j => !betterL l j m) ∧ OwnB wr w.heap.size u3 ks ∧ BcAt wr g (off + m * 16) (cs.getD m bc0) ∧ Below w.heap.size w wr) (fun _ i _ => cs.length - (intOf i).toNat)
      case atStart => exact ⟨0, _, rfl, rfl, by omega, by simp, hown, HC, D⟩
      case round =>
        clear D hown HC
        obtain ⟨k, KK, rfl, rfl, hkle, hKK, hown, HC, D⟩ := hrel
        by_cases hlt2 : k < cs.length
        · by_cases hki : k = m
          · cases KK
            · have hkl : k < l.length := by omega
              obtain ⟨g2, off2, e2, HC2⟩ := (hr.on D).at.2 k hlt2
              cases e2
              have hbk := ha.2 k hkl
              have fk := fl _ (getB_mem hkl)
              refine wp_seq_k (fun K11 hK11 => ?_)
              refine wp_seq_k (fun K12 hK12 => ?_)
              refine wp_region_lit ?_
              refine wl_yield (o := ⟨_, _, _, _, _, _⟩) (.int .i64 (k : Nat)) (yl_move (by rfl) _ rfl _ rfl) ?_
              simp only [Act.put, lzA, lzB, lzC]
              refine wl_yield (o := ⟨_, _, _, _, _, _⟩) (.slice (some ⟨g, off, none⟩) cs.length cp) (yl_move (by rfl) _ rfl _ rfl) ?_
              simp only [Act.put, lzA, lzB, lzC]
              refine wl_yield (o := ⟨_, _, _, _, _, _⟩) (.int .i64 (cs.length : Nat)) (yl_lenB (by rfl) _ rfl _ _ _ rfl) ?_
              simp only [Act.put, lzA, lzB, lzC]
              refine wl_yield (o := ⟨_, _, _, _, _, _⟩) (.bool true) (yl_lssI (by rfl) _ _ _ rfl (((k : Nat) : Int)) (((cs.length : Nat) : Int)) true rfl rfl (decide_eq_true (by omega))) ?_
              simp only [Act.put, lzA, lzB, lzC]
              refine wpList_nil ?_
              refine hK12 _ _ ?_
              clear hK12 K12
              refine wp_cond_true rfl ?_
              refine wp_skip ?_
              refine hK11 _ _ ?_
              clear hK11 K11
              refine wp_seq_k (fun K13 hK13 => ?_)
              refine wp_block ?_
              refine wp_seq_k (fun K14 hK14 => ?_)
              refine wp_region_held_drew (S := fun w' => BcAt w' g (off + m * 16) (cs.getD m bc0) ∧ BcAt w' g (off + k * 16) (cs.getD k bc0)) (by kernel_rfl) ⟨HC.on (Below.refl _ _).drew, HC2.on (Below.refl _ _).drew⟩ (fun hHeld => ?_)
              have kb : Below wr.heap.size wr wr.drew := (Below.refl _ wr).drew
              replace D := D.trans (kb.mono D.size)
              replace hown := hown.on kb
              replace HC := HC.on kb
              replace HC2 := HC2.on kb
              clear kb
              generalize wr.drew = v2 at D hHeld hown HC HC2 ⊢
              refine wpAnyH_take (i := 0) (oi := ⟨_, _, _, _, _, _⟩) (v := .int .i64 (k : Nat)) rfl (by kernel_rfl) (by kernel_rfl) (by kernel_rfl) (fun _ _ _ h => h) (yl_move (by rfl) _ rfl _ rfl) (by assumption) ?_
              simp only [Act.put, lzA, lzB, lzC]
              refine wpAnyH_take (i := 1) (oi := ⟨_, _, _, _, _, _⟩) (v := .int .i64 (m : Nat)) rfl (by kernel_rfl) (by kernel_rfl) (by kernel_rfl) (fun _ _ _ h => h) (yl_move (by rfl) _ rfl _ rfl) (by assumption) ?_
              simp only [Act.put, lzA, lzB, lzC]
              refine wpAnyH_take (i := 2) (oi := ⟨_, _, _, _, _, _⟩) (v := .bool false) rfl (by kernel_rfl) (by kernel_rfl) (by kernel_rfl) (fun _ _ _ h => h) (yl_neqlI (by rfl) _ _ _ rfl (((k : Nat) : Int)) (((m : Nat) : Int)) false rfl rfl (decide_eq_false (fun h => h (by omega)))) (by assumption) ?_
              simp only [Act.put, lzA, lzB, lzC]
              refine wpAnyH_take (i := 3) (oi := ⟨_, _, _, _, _, _⟩) (v := .bool false) rfl (by kernel_rfl) (by kernel_rfl) (by kernel_rfl) (fun _ _ _ h => h) (yl_move (by rfl) _ rfl _ rfl) (by assumption) ?_
              simp only [Act.put, lzA, lzB, lzC]
              refine wpAnyH_take (i := 4) (oi := ⟨_, _, _, _, _, _⟩) (v := undef) rfl (by kernel_rfl) (by kernel_rfl) (by kernel_rfl) (fun _ _ _ h => h) (yl_undef (by rfl)) (by assumption) ?_
              simp only [Act.put, lzA, lzB, lzC]
              refine wpAnyH_take (i := 5) (oi := ⟨_, _, _, _, _, _⟩) (v := .bool false) rfl (by kernel_rfl) (by kernel_rfl) (by kernel_rfl) (fun _ _ _ h => h) (yl_pickF (by rfl) _ _ _ rfl rfl _ rfl) (by assumption) ?_
              simp only [Act.put, lzA, lzB, lzC]
              refine wpAnyH_take (i := 6) (oi := ⟨_, _, _, _, _, _⟩) (v := .bool false) rfl (by kernel_rfl) (by kernel_rfl) (by kernel_rfl) (fun _ _ _ h => h) (yl_move (by rfl) _ rfl _ rfl) (by assumption) ?_
              simp only [Act.put, lzA, lzB, lzC]
              refine wpAnyH_take (i := 7) (oi := ⟨_, _, _, _, _, _⟩) (v := undef) rfl (by kernel_rfl) (by kernel_rfl) (by kernel_rfl) (fun _ _ _ h => h) (yl_undef (by rfl)) (by assumption) ?_
              simp only [Act.put, lzA, lzB, lzC]
              refine wpAnyH_take (i := 8) (oi := ⟨_, _, _, _, _, _⟩) (v := undef) rfl (by kernel_rfl) (by kernel_rfl) (by kernel_rfl) (fun _ _ _ h => h) (yl_undef (by rfl)) (by assumption) ?_
              simp only [Act.put, lzA, lzB, lzC]
              refine wpAnyH_take (i := 9) (oi := ⟨_, _, _, _, _, _⟩) (v := undef) rfl (by kernel_rfl) (by kernel_rfl) (by kernel_rfl) (fun _ _ _ h => h) (yl_undef (by rfl)) (by assumption) ?_
              simp only [Act.put, lzA, lzB, lzC]
              refine wpAnyH_take (i := 10) (oi := ⟨_, _, _, _, _, _⟩) (v := undef) rfl (by kernel_rfl) (by kernel_rfl) (by kernel_rfl) (fun _ _ _ h => h) (yl_undef (by rfl)) (by assumption) ?_
              simp only [Act.put, lzA, lzB, lzC]
              refine wpAnyH_take (i := 11) (oi := ⟨_, _, _, _, _, _⟩) (v := undef) rfl (by kernel_rfl) (by kernel_rfl) (by kernel_rfl) (fun _ _ _ h => h) (yl_undef (by rfl)) (by assumption) ?_
              simp only [Act.put, lzA, lzB, lzC]
              refine wpAnyH_take (i := 12) (oi := ⟨_, _, _, _, _, _⟩) (v := undef) rfl (by kernel_rfl) (by kernel_rfl) (by kernel_rfl) (fun _ _ _ h => h) (yl_undef (by rfl)) (by assumption) ?_
              simp only [Act.put, lzA, lzB, lzC]
              refine wpAnyH_take (i := 13) (oi := ⟨_, _, _, _, _, _⟩) (v := undef) rfl (by kernel_rfl) (by kernel_rfl) (by kernel_rfl) (fun _ _ _ h => h) (yl_undef (by rfl)) (by assumption) ?_
              simp only [Act.put, lzA, lzB, lzC]
              refine wpAnyH_take (i := 14) (oi := ⟨_, _, _, _, _, _⟩) (v := undef) rfl (by kernel_rfl) (by kernel_rfl) (by kernel_rfl) (fun _ _ _ h => h) (yl_undef (by rfl)) (by assumption) ?_
              simp only [Act.put, lzA, lzB, lzC]
              refine wpAnyH_take (i := 15) (oi := ⟨_, _, _, _, _, _⟩) (v := undef) rfl (by kernel_rfl) (by kernel_rfl) (by kernel_rfl) (fun _ _ _ h => h) (yl_undef (by rfl)) (by assumption) ?_
              simp only [Act.put, lzA, lzB, lzC]
              refine wpAnyH_take (i := 16) (oi := ⟨_, _, _, _, _, _⟩) (v := .bool false) rfl (by kernel_rfl) (by kernel_rfl) (by kernel_rfl) (fun _ _ _ h => h) (yl_pickF (by rfl) _ _ _ rfl rfl _ rfl) (by assumption) ?_
              simp only [Act.put, lzA, lzB, lzC]
              refine wpAnyH_take (i := 17) (oi := ⟨_, _, _, _, _, _⟩) (v := .bool false) rfl (by kernel_rfl) (by kernel_rfl) (by kernel_rfl) (fun _ _ _ h => h) (yl_move (by rfl) _ rfl _ rfl) (by assumption) ?_
              simp only [Act.put, lzA, lzB, lzC]
              refine wpAnyH_take (i := 18) (oi := ⟨_, _, _, _, _, _⟩) (v := undef) rfl (by kernel_rfl) (by kernel_rfl) (by kernel_rfl) (fun _ _ _ h => h) (yl_undef (by rfl)) (by assumption) ?_
              simp only [Act.put, lzA, lzB, lzC]
              refine wpAnyH_take (i := 19) (oi := ⟨_, _, _, _, _, _⟩) (v := undef) rfl (by kernel_rfl) (by kernel_rfl) (by kernel_rfl) (fun _ _ _ h => h) (yl_undef (by rfl)) (by assumption) ?_
              simp only [Act.put, lzA, lzB, lzC]
              refine wpAnyH_take (i := 20) (oi := ⟨_, _, _, _, _, _⟩) (v := undef) rfl (by kernel_rfl) (by kernel_rfl) (by kernel_rfl) (fun _ _ _ h => h) (yl_undef (by rfl)) (by assumption) ?_
              simp only [Act.put, lzA, lzB, lzC]
              refine wpAnyH_take (i := 21) (oi := ⟨_, _, _, _, _, _⟩) (v := undef) rfl (by kernel_rfl) (by kernel_rfl) (by kernel_rfl) (fun _ _ _ h => h) (yl_undef (by rfl)) (by assumption) ?_
              simp only [Act.put, lzA, lzB, lzC]
              refine wpAnyH_take (i := 22) (oi := ⟨_, _, _, _, _, _⟩) (v := undef) rfl (by kernel_rfl) (by kernel_rfl) (by kernel_rfl) (fun _ _ _ h => h) (yl_undef (by rfl)) (by assumption) ?_
              simp only [Act.put, lzA, lzB, lzC]
              refine wpAnyH_take (i := 23) (oi := ⟨_, _, _, _, _, _⟩) (v := undef) rfl (by kernel_rfl) (by kernel_rfl) (by kernel_rfl) (fun _ _ _ h => h) (yl_undef (by rfl)) (by assumption) ?_
              simp only [Act.put, lzA, lzB, lzC]
              refine wpAnyH_take (i := 24) (oi := ⟨_, _, _, _, _, _⟩) (v := undef) rfl (by kernel_rfl) (by kernel_rfl) (by kernel_rfl) (fun _ _ _ h => h) (yl_undef (by rfl)) (by assumption) ?_
              simp only [Act.put, lzA, lzB, lzC]
              refine wpAnyH_take (i := 25) (oi := ⟨_, _, _, _, _, _⟩) (v := undef) rfl (by kernel_rfl) (by kernel_rfl) (by kernel_rfl) (fun _ _ _ h => h) (yl_undef (by rfl)) (by assumption) ?_
              simp only [Act.put, lzA, lzB, lzC]
              refine wpAnyH_take (i := 26) (oi := ⟨_, _, _, _, _, _⟩) (v := undef) rfl (by kernel_rfl) (by kernel_rfl) (by kernel_rfl) (fun _ _ _ h => h) (yl_undef (by rfl)) (by assumption) ?_
              simp only [Act.put, lzA, lzB, lzC]
              refine wpAnyH_take (i := 27) (oi := ⟨_, _, _, _, _, _⟩) (v := undef) rfl (by kernel_rfl) (by kernel_rfl) (by kernel_rfl) (fun _ _ _ h => h) (yl_undef (by rfl)) (by assumption) ?_
              simp only [Act.put, lzA, lzB, lzC]
              refine wpAnyH_take (i := 28) (oi := ⟨_, _, _, _, _, _⟩) (v := undef) rfl (by kernel_rfl) (by kernel_rfl) (by kernel_rfl) (fun _ _ _ h => h) (yl_undef (by rfl)) (by assumption) ?_
              simp only [Act.put, lzA, lzB, lzC]
              refine wpAnyH_take (i := 29) (oi := ⟨_, _, _, _, _, _⟩) (v := undef) rfl (by kernel_rfl) (by kernel_rfl) (by kernel_rfl) (fun _ _ _ h => h) (yl_undef (by rfl)) (by assumption) ?_
              simp only [Act.put, lzA, lzB, lzC]
              refine wpAnyH_take (i := 30) (oi := ⟨_, _, _, _, _, _⟩) (v := undef) rfl (by kernel_rfl) (by kernel_rfl) (by kernel_rfl) (fun _ _ _ h => h) (yl_undef (by rfl)) (by assumption) ?_
              simp only [Act.put, lzA, lzB, lzC]
              refine wpAnyH_take (i := 31) (oi := ⟨_, _, _, _, _, _⟩) (v := undef) rfl (by kernel_rfl) (by kernel_rfl) (by kernel_rfl) (fun _ _ _ h => h) (yl_undef (by rfl)) (by assumption) ?_
              simp only [Act.put, lzA, lzB, lzC]
              refine wpAnyH_take (i := 32) (oi := ⟨_, _, _, _, _, _⟩) (v := undef) rfl (by kernel_rfl) (by kernel_rfl) (by kernel_rfl) (fun _ _ _ h => h) (yl_undef (by rfl)) (by assumption) ?_
              simp only [Act.put, lzA, lzB, lzC]
              refine wpAnyH_take (i := 33) (oi := ⟨_, _, _, _, _, _⟩) (v := .bool false) rfl (by kernel_rfl) (by kernel_rfl) (by kernel_rfl) (fun _ _ _ h => h) (yl_pickF (by rfl) _ _ _ rfl rfl _ rfl) (by assumption) ?_
              simp only [Act.put, lzA, lzB, lzC]
              refine wpAnyH_done (by kernel_rfl) ?_ _
              clear hHeld
              refine hK14 _ _ ?_
              clear hK14 K14
              refine wp_cond_false rfl ?_
              refine wp_skip ?_
              refine hK13 _ _ ?_
              clear hK13 K13
              refine wp_region_lit ?_
              refine wl_yield (o := ⟨_, _, _, _, _, _⟩) (.int .i64 (k : Nat)) (yl_move (by rfl) _ rfl _ rfl) ?_
              simp only [Act.put, lzA, lzB, lzC]
              refine wl_yield (o := ⟨_, _, _, _, _, _⟩) (.int .i64 (k + 1 : Nat)) (yl_addI (by rfl) _ _ _ rfl (((k : Nat) : Int)) (1) (((k + 1 : Nat) : Int)) rfl rfl (by omega) (by omega) (by omega)) ?_
              simp only [Act.put, lzA, lzB, lzC]
              refine wl_yield (o := ⟨_, _, _, _, _, _⟩) (.int .i64 (k + 1 : Nat)) (yl_assign (by rfl) _ rfl _ rfl) ?_
              simp only [Act.put, lzA, lzB, lzC]
              refine wpList_nil ?_
              show _ ∧ _
              go_roundw
              case rel => exact ⟨k + 1, false, rfl, rfl, by omega, keep_next hKK (by rw [better_same hki]; rfl), hown, HC, D⟩
              case measure => simp [intOf]; omega
            · have hkl : k < l.length := by omega
              obtain ⟨g2, off2, e2, HC2⟩ := (hr.on D).at.2 k hlt2
              cases e2
              have hbk := ha.2 k hkl
              have fk := fl _ (getB_mem hkl)
              refine wp_seq_k (fun K11 hK11 => ?_)
              refine wp_seq_k (fun K12 hK12 => ?_)
              refine wp_region_lit ?_
              refine wl_yield (o := ⟨_, _, _, _, _, _⟩) (.int .i64 (k : Nat)) (yl_move (by rfl) _ rfl _ rfl) ?_
              simp only [Act.put, lzA, lzB, lzC]
              refine wl_yield (o := ⟨_, _, _, _, _, _⟩) (.slice (some ⟨g, off, none⟩) cs.length cp) (yl_move (by rfl) _ rfl _ rfl) ?_
              simp only [Act.put, lzA, lzB, lzC]
              refine wl_yield (o := ⟨_, _, _, _, _, _⟩) (.int .i64 (cs.length : Nat)) (yl_lenB (by rfl) _ rfl _ _ _ rfl) ?_
              simp only [Act.put, lzA, lzB, lzC]
              refine wl_yield (o := ⟨_, _, _, _, _, _⟩) (.bool true) (yl_lssI (by rfl) _ _ _ rfl (((k : Nat) : Int)) (((cs.length : Nat) : Int)) true rfl rfl (decide_eq_true (by omega))) ?_
              simp only [Act.put, lzA, lzB, lzC]
              refine wpList_nil ?_
              refine hK12 _ _ ?_
              clear hK12 K12
              refine wp_cond_true rfl ?_
              refine wp_skip ?_
              refine hK11 _ _ ?_
              clear hK11 K11
              refine wp_seq_k (fun K13 hK13 => ?_)
              refine wp_block ?_
              refine wp_seq_k (fun K14 hK14 => ?_)
              refine wp_region_held_drew (S := fun w' => BcAt w' g (off + m * 16) (cs.getD m bc0) ∧ BcAt w' g (off + k * 16) (cs.getD k bc0)) (by kernel_rfl) ⟨HC.on (Below.refl _ _).drew, HC2.on (Below.refl _ _).drew⟩ (fun hHeld => ?_)
              have kb : Below wr.heap.size wr wr.drew := (Below.refl _ wr).drew
              replace D := D.trans (kb.mono D.size)
              replace hown := hown.on kb
              replace HC := HC.on kb
              replace HC2 := HC2.on kb
              clear kb
              generalize wr.drew = v2 at D hHeld hown HC HC2 ⊢
              refine wpAnyH_take (i := 0) (oi := ⟨_, _, _, _, _, _⟩) (v := .int .i64 (k : Nat)) rfl (by kernel_rfl) (by kernel_rfl) (by kernel_rfl) (fun _ _ _ h => h) (yl_move (by rfl) _ rfl _ rfl) (by assumption) ?_
              simp only [Act.put, lzA, lzB, lzC]
              refine wpAnyH_take (i := 1) (oi := ⟨_, _, _, _, _, _⟩) (v := .int .i64 (m : Nat)) rfl (by kernel_rfl) (by kernel_rfl) (by kernel_rfl) (fun _ _ _ h => h) (yl_move (by rfl) _ rfl _ rfl) (by assumption) ?_
              simp only [Act.put, lzA, lzB, lzC]
              refine wpAnyH_take (i := 2) (oi := ⟨_, _, _, _, _, _⟩) (v := .bool false) rfl (by kernel_rfl) (by kernel_rfl) (by kernel_rfl) (fun _ _ _ h => h) (yl_neqlI (by rfl) _ _ _ rfl (((k : Nat) : Int)) (((m : Nat) : Int)) false rfl rfl (decide_eq_false (fun h => h (by omega)))) (by assumption) ?_
              simp only [Act.put, lzA, lzB, lzC]
              refine wpAnyH_take (i := 3) (oi := ⟨_, _, _, _, _, _⟩) (v := .bool false) rfl (by kernel_rfl) (by kernel_rfl) (by kernel_rfl) (fun _ _ _ h => h) (yl_move (by rfl) _ rfl _ rfl) (by assumption) ?_
              simp only [Act.put, lzA, lzB, lzC]
              refine wpAnyH_take (i := 4) (oi := ⟨_, _, _, _, _, _⟩) (v := undef) rfl (by kernel_rfl) (by kernel_rfl) (by kernel_rfl) (fun _ _ _ h => h) (yl_undef (by rfl)) (by assumption) ?_
              simp only [Act.put, lzA, lzB, lzC]
              refine wpAnyH_take (i := 5) (oi := ⟨_, _, _, _, _, _⟩) (v := .bool false) rfl (by kernel_rfl) (by kernel_rfl) (by kernel_rfl) (fun _ _ _ h => h) (yl_pickF (by rfl) _ _ _ rfl rfl _ rfl) (by assumption) ?_
              simp only [Act.put, lzA, lzB, lzC]
              refine wpAnyH_take (i := 6) (oi := ⟨_, _, _, _, _, _⟩) (v := .bool false) rfl (by kernel_rfl) (by kernel_rfl) (by kernel_rfl) (fun _ _ _ h => h) (yl_move (by rfl) _ rfl _ rfl) (by assumption) ?_
              simp only [Act.put, lzA, lzB, lzC]
              refine wpAnyH_take (i := 7) (oi := ⟨_, _, _, _, _, _⟩) (v := undef) rfl (by kernel_rfl) (by kernel_rfl) (by kernel_rfl) (fun _ _ _ h => h) (yl_undef (by rfl)) (by assumption) ?_
              simp only [Act.put, lzA, lzB, lzC]
              refine wpAnyH_take (i := 8) (oi := ⟨_, _, _, _, _, _⟩) (v := undef) rfl (by kernel_rfl) (by kernel_rfl) (by kernel_rfl) (fun _ _ _ h => h) (yl_undef (by rfl)) (by assumption) ?_
              simp only [Act.put, lzA, lzB, lzC]
              refine wpAnyH_take (i := 9) (oi := ⟨_, _, _, _, _, _⟩) (v := undef) rfl (by kernel_rfl) (by kernel_rfl) (by kernel_rfl) (fun _ _ _ h => h) (yl_undef (by rfl)) (by assumption) ?_
              simp only [Act.put, lzA, lzB, lzC]
              refine wpAnyH_take (i := 10) (oi := ⟨_, _, _, _, _, _⟩) (v := undef) rfl (by kernel_rfl) (by kernel_rfl) (by kernel_rfl) (fun _ _ _ h => h) (yl_undef (by rfl)) (by assumption) ?_
              simp only [Act.put, lzA, lzB, lzC]
              refine wpAnyH_take (i := 11) (oi := ⟨_, _, _, _, _, _⟩) (v := undef) rfl (by kernel_rfl) (by kernel_rfl) (by kernel_rfl) (fun _ _ _ h => h) (yl_undef (by rfl)) (by assumption) ?_
              simp only [Act.put, lzA, lzB, lzC]
              refine wpAnyH_take (i := 12) (oi := ⟨_, _, _, _, _, _⟩) (v := undef) rfl (by kernel_rfl) (by kernel_rfl) (by kernel_rfl) (fun _ _ _ h => h) (yl_undef (by rfl)) (by assumption) ?_
              simp only [Act.put, lzA, lzB, lzC]
              refine wpAnyH_take (i := 13) (oi := ⟨_, _, _, _, _, _⟩) (v := undef) rfl (by kernel_rfl) (by kernel_rfl) (by kernel_rfl) (fun _ _ _ h => h) (yl_undef (by rfl)) (by assumption) ?_
              simp only [Act.put, lzA, lzB, lzC]
              refine wpAnyH_take (i := 14) (oi := ⟨_, _, _, _, _, _⟩) (v := undef) rfl (by kernel_rfl) (by kernel_rfl) (by kernel_rfl) (fun _ _ _ h => h) (yl_undef (by rfl)) (by assumption) ?_
              simp only [Act.put, lzA, lzB, lzC]
              refine wpAnyH_take (i := 15) (oi := ⟨_, _, _, _, _, _⟩) (v := undef) rfl (by kernel_rfl) (by kernel_rfl) (by kernel_rfl) (fun _ _ _ h => h) (yl_undef (by rfl)) (by assumption) ?_
              simp only [Act.put, lzA, lzB, lzC]
              refine wpAnyH_take (i := 16) (oi := ⟨_, _, _, _, _, _⟩) (v := .bool false) rfl (by kernel_rfl) (by kernel_rfl) (by kernel_rfl) (fun _ _ _ h => h) (yl_pickF (by rfl) _ _ _ rfl rfl _ rfl) (by assumption) ?_
              simp only [Act.put, lzA, lzB, lzC]
              refine wpAnyH_take (i := 17) (oi := ⟨_, _, _, _, _, _⟩) (v := .bool false) rfl (by kernel_rfl) (by kernel_rfl) (by kernel_rfl) (fun _ _ _ h => h) (yl_move (by rfl) _ rfl _ rfl) (by assumption) ?_
              simp only [Act.put, lzA, lzB, lzC]
              refine wpAnyH_take (i := 18) (oi := ⟨_, _, _, _, _, _⟩) (v := undef) rfl (by kernel_rfl) (by kernel_rfl) (by kernel_rfl) (fun _ _ _ h => h) (yl_undef (by rfl)) (by assumption) ?_
              simp only [Act.put, lzA, lzB, lzC]
              refine wpAnyH_take (i := 19) (oi := ⟨_, _, _, _, _, _⟩) (v := undef) rfl (by kernel_rfl) (by kernel_rfl) (by kernel_rfl) (fun _ _ _ h => h) (yl_undef (by rfl)) (by assumption) ?_
              simp only [Act.put, lzA, lzB, lzC]
              refine wpAnyH_take (i := 20) (oi := ⟨_, _, _, _, _, _⟩) (v := undef) rfl (by kernel_rfl) (by kernel_rfl) (by kernel_rfl) (fun _ _ _ h => h) (yl_undef (by rfl)) (by assumption) ?_
              simp only [Act.put, lzA, lzB, lzC]
              refine wpAnyH_take (i := 21) (oi := ⟨_, _, _, _, _, _⟩) (v := undef) rfl (by kernel_rfl) (by kernel_rfl) (by kernel_rfl) (fun _ _ _ h => h) (yl_undef (by rfl)) (by assumption) ?_
              simp only [Act.put, lzA, lzB, lzC]
              refine wpAnyH_take (i := 22) (oi := ⟨_, _, _, _, _, _⟩) (v := undef) rfl (by kernel_rfl) (by kernel_rfl) (by kernel_rfl) (fun _ _ _ h => h) (yl_undef (by rfl)) (by assumption) ?_
              simp only [Act.put, lzA, lzB, lzC]
              refine wpAnyH_take (i := 23) (oi := ⟨_, _, _, _, _, _⟩) (v := undef) rfl (by kernel_rfl) (by kernel_rfl) (by kernel_rfl) (fun _ _ _ h => h) (yl_undef (by rfl)) (by assumption) ?_
              simp only [Act.put, lzA, lzB, lzC]
              refine wpAnyH_take (i := 24) (oi := ⟨_, _, _, _, _, _⟩) (v := undef) rfl (by kernel_rfl) (by kernel_rfl) (by kernel_rfl) (fun _ _ _ h => h) (yl_undef (by rfl)) (by assumption) ?_
              simp only [Act.put, lzA, lzB, lzC]
              refine wpAnyH_take (i := 25) (oi := ⟨_, _, _, _, _, _⟩) (v := undef) rfl (by kernel_rfl) (by kernel_rfl) (by kernel_rfl) (fun _ _ _ h => h) (yl_undef (by rfl)) (by assumption) ?_
              simp only [Act.put, lzA, lzB, lzC]
              refine wpAnyH_take (i := 26) (oi := ⟨_, _, _, _, _, _⟩) (v := undef) rfl (by kernel_rfl) (by kernel_rfl) (by kernel_rfl) (fun _ _ _ h => h) (yl_undef (by rfl)) (by assumption) ?_
              simp only [Act.put, lzA, lzB, lzC]
              refine wpAnyH_take (i := 27) (oi := ⟨_, _, _, _, _, _⟩) (v := undef) rfl (by kernel_rfl) (by kernel_rfl) (by kernel_rfl) (fun _ _ _ h => h) (yl_undef (by rfl)) (by assumption) ?_
              simp only [Act.put, lzA, lzB, lzC]
              refine wpAnyH_take (i := 28) (oi := ⟨_, _, _, _, _, _⟩) (v := undef) rfl (by kernel_rfl) (by kernel_rfl) (by kernel_rfl) (fun _ _ _ h => h) (yl_undef (by rfl)) (by assumption) ?_
              simp only [Act.put, lzA, lzB, lzC]
              refine wpAnyH_take (i := 29) (oi := ⟨_, _, _, _, _, _⟩) (v := undef) rfl (by kernel_rfl) (by kernel_rfl) (by kernel_rfl) (fun _ _ _ h => h) (yl_undef (by rfl)) (by assumption) ?_
              simp only [Act.put, lzA, lzB, lzC]
              refine wpAnyH_take (i := 30) (oi := ⟨_, _, _, _, _, _⟩) (v := undef) rfl (by kernel_rfl) (by kernel_rfl) (by kernel_rfl) (fun _ _ _ h => h) (yl_undef (by rfl)) (by assumption) ?_
              simp only [Act.put, lzA, lzB, lzC]
              refine wpAnyH_take (i := 31) (oi := ⟨_, _, _, _, _, _⟩) (v := undef) rfl (by kernel_rfl) (by kernel_rfl) (by kernel_rfl) (fun _ _ _ h => h) (yl_undef (by rfl)) (by assumption) ?_
              simp only [Act.put, lzA, lzB, lzC]
              refine wpAnyH_take (i := 32) (oi := ⟨_, _, _, _, _, _⟩) (v := undef) rfl (by kernel_rfl) (by kernel_rfl) (by kernel_rfl) (fun _ _ _ h => h) (yl_undef (by rfl)) (by assumption) ?_
              simp only [Act.put, lzA, lzB, lzC]
              refine wpAnyH_take (i := 33) (oi := ⟨_, _, _, _, _, _⟩) (v := .bool false) rfl (by kernel_rfl) (by kernel_rfl) (by kernel_rfl) (fun _ _ _ h => h) (yl_pickF (by rfl) _ _ _ rfl rfl _ rfl) (by assumption) ?_
              simp only [Act.put, lzA, lzB, lzC]
              refine wpAnyH_done (by kernel_rfl) ?_ _
              clear hHeld
              refine hK14 _ _ ?_
              clear hK14 K14
              refine wp_cond_false rfl ?_
              refine wp_skip ?_
              refine hK13 _ _ ?_
              clear hK13 K13
              refine wp_region_lit ?_
              refine wl_yield (o := ⟨_, _, _, _, _, _⟩) (.int .i64 (k : Nat)) (yl_move (by rfl) _ rfl _ rfl) ?_
              simp only [Act.put, lzA, lzB, lzC]
              refine wl_yield (o := ⟨_, _, _, _, _, _⟩) (.int .i64 (k + 1 : Nat)) (yl_addI (by rfl) _ _ _ rfl (((k : Nat) : Int)) (1) (((k + 1 : Nat) : Int)) rfl rfl (by omega) (by omega) (by omega)) ?_
              simp only [Act.put, lzA, lzB, lzC]
              refine wl_yield (o := ⟨_, _, _, _, _, _⟩) (.int .i64 (k + 1 : Nat)) (yl_assign (by rfl) _ rfl _ rfl) ?_
              simp only [Act.put, lzA, lzB, lzC]
              refine wpList_nil ?_
              show _ ∧ _
              go_roundw
              case rel => exact ⟨k + 1, true, rfl, rfl, by omega, keep_next hKK (by rw [better_same hki]; rfl), hown, HC, D⟩
              case measure => simp [intOf]; omega
          · cases KK
            · have hkl : k < l.length := by omega
              obtain ⟨g2, off2, e2, HC2⟩ := (hr.on D).at.2 k hlt2
              cases e2
              have hbk := ha.2 k hkl
              have fk := fl _ (getB_mem hkl)
              refine wp_seq_k (fun K11 hK11 => ?_)
              refine wp_seq_k (fun K12 hK12 => ?_)
              refine wp_region_lit ?_
              refine wl_yield (o := ⟨_, _, _, _, _, _⟩) (.int .i64 (k : Nat)) (yl_move (by rfl) _ rfl _ rfl) ?_
              simp only [Act.put, lzA, lzB, lzC]
              refine wl_yield (o := ⟨_, _, _, _, _, _⟩) (.slice (some ⟨g, off, none⟩) cs.length cp) (yl_move (by rfl) _ rfl _ rfl) ?_
              simp only [Act.put, lzA, lzB, lzC]
              refine wl_yield (o := ⟨_, _, _, _, _, _⟩) (.int .i64 (cs.length : Nat)) (yl_lenB (by rfl) _ rfl _ _ _ rfl) ?_
              simp only [Act.put, lzA, lzB, lzC]
              refine wl_yield (o := ⟨_, _, _, _, _, _⟩) (.bool true) (yl_lssI (by rfl) _ _ _ rfl (((k : Nat) : Int)) (((cs.length : Nat) : Int)) true rfl rfl (decide_eq_true (by omega))) ?_
              simp only [Act.put, lzA, lzB, lzC]
              refine wpList_nil ?_
              refine hK12 _ _ ?_
              clear hK12 K12
              refine wp_cond_true rfl ?_
              refine wp_skip ?_
              refine hK11 _ _ ?_
              clear hK11 K11
              refine wp_seq_k (fun K13 hK13 => ?_)
              refine wp_block ?_
              refine wp_seq_k (fun K14 hK14 => ?_)
              refine wp_region_held_drew (S := fun w' => BcAt w' g (off + m * 16) (cs.getD m bc0) ∧ BcAt w' g (off + k * 16) (cs.getD k bc0)) (by kernel_rfl) ⟨HC.on (Below.refl _ _).drew, HC2.on (Below.refl _ _).drew⟩ (fun hHeld => ?_)
              have kb : Below wr.heap.size wr wr.drew := (Below.refl _ wr).drew
              replace D := D.trans (kb.mono D.size)
              replace hown := hown.on kb
              replace HC := HC.on kb
              replace HC2 := HC2.on kb
              clear kb
              generalize wr.drew = v2 at D hHeld hown HC HC2 ⊢
              refine wpAnyH_take (i := 0) (oi := ⟨_, _, _, _, _, _⟩) (v := .int .i64 (k : Nat)) rfl (by kernel_rfl) (by kernel_rfl) (by kernel_rfl) (fun _ _ _ h => h) (yl_move (by rfl) _ rfl _ rfl) (by assumption) ?_
              simp only [Act.put, lzA, lzB, lzC]
              refine wpAnyH_take (i := 1) (oi := ⟨_, _, _, _, _, _⟩) (v := .int .i64 (m : Nat)) rfl (by kernel_rfl) (by kernel_rfl) (by kernel_rfl) (fun _ _ _ h => h) (yl_move (by rfl) _ rfl _ rfl) (by assumption) ?_
              simp only [Act.put, lzA, lzB, lzC]
              refine wpAnyH_take (i := 2) (oi := ⟨_, _, _, _, _, _⟩) (v := .bool true) rfl (by kernel_rfl) (by kernel_rfl) (by kernel_rfl) (fun _ _ _ h => h) (yl_neqlI (by rfl) _ _ _ rfl (((k : Nat) : Int)) (((m : Nat) : Int)) true rfl rfl (decide_eq_true (by omega))) (by assumption) ?_
              simp only [Act.put, lzA, lzB, lzC]
              refine wpAnyH_take (i := 3) (oi := ⟨_, _, _, _, _, _⟩) (v := .bool true) rfl (by kernel_rfl) (by kernel_rfl) (by kernel_rfl) (fun _ _ _ h => h) (yl_move (by rfl) _ rfl _ rfl) (by assumption) ?_
              simp only [Act.put, lzA, lzB, lzC]
              refine wpAnyH_take (i := 4) (oi := ⟨_, _, _, _, _, _⟩) (v := .bool false) rfl (by kernel_rfl) (by kernel_rfl) (by kernel_rfl) (fun _ _ _ h => h) (yl_move (by rfl) _ rfl _ rfl) (by assumption) ?_
              simp only [Act.put, lzA, lzB, lzC]
              refine wpAnyH_take (i := 5) (oi := ⟨_, _, _, _, _, _⟩) (v := .bool false) rfl (by kernel_rfl) (by kernel_rfl) (by kernel_rfl) (fun _ _ _ h => h) (yl_pickT (by rfl) _ _ _ rfl rfl _ rfl) (by assumption) ?_
              simp only [Act.put, lzA, lzB, lzC]
              refine wpAnyH_take (i := 6) (oi := ⟨_, _, _, _, _, _⟩) (v := .bool false) rfl (by kernel_rfl) (by kernel_rfl) (by kernel_rfl) (fun _ _ _ h => h) (yl_move (by rfl) _ rfl _ rfl) (by assumption) ?_
              simp only [Act.put, lzA, lzB, lzC]
              refine wpAnyH_take (i := 7) (oi := ⟨_, _, _, _, _, _⟩) (v := undef) rfl (by kernel_rfl) (by kernel_rfl) (by kernel_rfl) (fun _ _ _ h => h) (yl_undef (by rfl)) (by assumption) ?_
              simp only [Act.put, lzA, lzB, lzC]
              refine wpAnyH_take (i := 8) (oi := ⟨_, _, _, _, _, _⟩) (v := undef) rfl (by kernel_rfl) (by kernel_rfl) (by kernel_rfl) (fun _ _ _ h => h) (yl_undef (by rfl)) (by assumption) ?_
              simp only [Act.put, lzA, lzB, lzC]
              refine wpAnyH_take (i := 9) (oi := ⟨_, _, _, _, _, _⟩) (v := undef) rfl (by kernel_rfl) (by kernel_rfl) (by kernel_rfl) (fun _ _ _ h => h) (yl_undef (by rfl)) (by assumption) ?_
              simp only [Act.put, lzA, lzB, lzC]
              refine wpAnyH_take (i := 10) (oi := ⟨_, _, _, _, _, _⟩) (v := undef) rfl (by kernel_rfl) (by kernel_rfl) (by kernel_rfl) (fun _ _ _ h => h) (yl_undef (by rfl)) (by assumption) ?_
              simp only [Act.put, lzA, lzB, lzC]
              refine wpAnyH_take (i := 11) (oi := ⟨_, _, _, _, _, _⟩) (v := undef) rfl (by kernel_rfl) (by kernel_rfl) (by kernel_rfl) (fun _ _ _ h => h) (yl_undef (by rfl)) (by assumption) ?_
              simp only [Act.put, lzA, lzB, lzC]
              refine wpAnyH_take (i := 12) (oi := ⟨_, _, _, _, _, _⟩) (v := undef) rfl (by kernel_rfl) (by kernel_rfl) (by kernel_rfl) (fun _ _ _ h => h) (yl_undef (by rfl)) (by assumption) ?_
              simp only [Act.put, lzA, lzB, lzC]
              refine wpAnyH_take (i := 13) (oi := ⟨_, _, _, _, _, _⟩) (v := undef) rfl (by kernel_rfl) (by kernel_rfl) (by kernel_rfl) (fun _ _ _ h => h) (yl_undef (by rfl)) (by assumption) ?_
              simp only [Act.put, lzA, lzB, lzC]
              refine wpAnyH_take (i := 14) (oi := ⟨_, _, _, _, _, _⟩) (v := undef) rfl (by kernel_rfl) (by kernel_rfl) (by kernel_rfl) (fun _ _ _ h => h) (yl_undef (by rfl)) (by assumption) ?_
              simp only [Act.put, lzA, lzB, lzC]
              refine wpAnyH_take (i := 15) (oi := ⟨_, _, _, _, _, _⟩) (v := undef) rfl (by kernel_rfl) (by kernel_rfl) (by kernel_rfl) (fun _ _ _ h => h) (yl_undef (by rfl)) (by assumption) ?_
              simp only [Act.put, lzA, lzB, lzC]
              refine wpAnyH_take (i := 16) (oi := ⟨_, _, _, _, _, _⟩) (v := .bool false) rfl (by kernel_rfl) (by kernel_rfl) (by kernel_rfl) (fun _ _ _ h => h) (yl_pickF (by rfl) _ _ _ rfl rfl _ rfl) (by assumption) ?_
              simp only [Act.put, lzA, lzB, lzC]
              refine wpAnyH_take (i := 17) (oi := ⟨_, _, _, _, _, _⟩) (v := .bool false) rfl (by kernel_rfl) (by kernel_rfl) (by kernel_rfl) (fun _ _ _ h => h) (yl_move (by rfl) _ rfl _ rfl) (by assumption) ?_
              simp only [Act.put, lzA, lzB, lzC]
              refine wpAnyH_take (i := 18) (oi := ⟨_, _, _, _, _, _⟩) (v := undef) rfl (by kernel_rfl) (by kernel_rfl) (by kernel_rfl) (fun _ _ _ h => h) (yl_undef (by rfl)) (by assumption) ?_
              simp only [Act.put, lzA, lzB, lzC]
              refine wpAnyH_take (i := 19) (oi := ⟨_, _, _, _, _, _⟩) (v := undef) rfl (by kernel_rfl) (by kernel_rfl) (by kernel_rfl) (fun _ _ _ h => h) (yl_undef (by rfl)) (by assumption) ?_
              simp only [Act.put, lzA, lzB, lzC]
              refine wpAnyH_take (i := 20) (oi := ⟨_, _, _, _, _, _⟩) (v := undef) rfl (by kernel_rfl) (by kernel_rfl) (by kernel_rfl) (fun _ _ _ h => h) (yl_undef (by rfl)) (by assumption) ?_
              simp only [Act.put, lzA, lzB, lzC]
              refine wpAnyH_take (i := 21) (oi := ⟨_, _, _, _, _, _⟩) (v := undef) rfl (by kernel_rfl) (by kernel_rfl) (by kernel_rfl) (fun _ _ _ h => h) (yl_undef (by rfl)) (by assumption) ?_
              simp only [Act.put, lzA, lzB, lzC]
              refine wpAnyH_take (i := 22) (oi := ⟨_, _, _, _, _, _⟩) (v := undef) rfl (by kernel_rfl) (by kernel_rfl) (by kernel_rfl) (fun _ _ _ h => h) (yl_undef (by rfl)) (by assumption) ?_
              simp only [Act.put, lzA, lzB, lzC]
              refine wpAnyH_take (i := 23) (oi := ⟨_, _, _, _, _, _⟩) (v := undef) rfl (by kernel_rfl) (by kernel_rfl) (by kernel_rfl) (fun _ _ _ h => h) (yl_undef (by rfl)) (by assumption) ?_
              simp only [Act.put, lzA, lzB, lzC]
              refine wpAnyH_take (i := 24) (oi := ⟨_, _, _, _, _, _⟩) (v := undef) rfl (by kernel_rfl) (by kernel_rfl) (by kernel_rfl) (fun _ _ _ h => h) (yl_undef (by rfl)) (by assumption) ?_
              simp only [Act.put, lzA, lzB, lzC]
              refine wpAnyH_take (i := 25) (oi := ⟨_, _, _, _, _, _⟩) (v := undef) rfl (by kernel_rfl) (by kernel_rfl) (by kernel_rfl) (fun _ _ _ h => h) (yl_undef (by rfl)) (by assumption) ?_
              simp only [Act.put, lzA, lzB, lzC]
              refine wpAnyH_take (i := 26) (oi := ⟨_, _, _, _, _, _⟩) (v := undef) rfl (by kernel_rfl) (by kernel_rfl) (by kernel_rfl) (fun _ _ _ h => h) (yl_undef (by rfl)) (by assumption) ?_
              simp only [Act.put, lzA, lzB, lzC]
              refine wpAnyH_take (i := 27) (oi := ⟨_, _, _, _, _, _⟩) (v := undef) rfl (by kernel_rfl) (by kernel_rfl) (by kernel_rfl) (fun _ _ _ h => h) (yl_undef (by rfl)) (by assumption) ?_
              simp only [Act.put, lzA, lzB, lzC]
              refine wpAnyH_take (i := 28) (oi := ⟨_, _, _, _, _, _⟩) (v := undef) rfl (by kernel_rfl) (by kernel_rfl) (by kernel_rfl) (fun _ _ _ h => h) (yl_undef (by rfl)) (by assumption) ?_
              simp only [Act.put, lzA, lzB, lzC]
              refine wpAnyH_take (i := 29) (oi := ⟨_, _, _, _, _, _⟩) (v := undef) rfl (by kernel_rfl) (by kernel_rfl) (by kernel_rfl) (fun _ _ _ h => h) (yl_undef (by rfl)) (by assumption) ?_
              simp only [Act.put, lzA, lzB, lzC]
              refine wpAnyH_take (i := 30) (oi := ⟨_, _, _, _, _, _⟩) (v := undef) rfl (by kernel_rfl) (by kernel_rfl) (by kernel_rfl) (fun _ _ _ h => h) (yl_undef (by rfl)) (by assumption) ?_
              simp only [Act.put, lzA, lzB, lzC]
              refine wpAnyH_take (i := 31) (oi := ⟨_, _, _, _, _, _⟩) (v := undef) rfl (by kernel_rfl) (by kernel_rfl) (by kernel_rfl) (fun _ _ _ h => h) (yl_undef (by rfl)) (by assumption) ?_
              simp only [Act.put, lzA, lzB, lzC]
              refine wpAnyH_take (i := 32) (oi := ⟨_, _, _, _, _, _⟩) (v := undef) rfl (by kernel_rfl) (by kernel_rfl) (by kernel_rfl) (fun _ _ _ h => h) (yl_undef (by rfl)) (by assumption) ?_
              simp only [Act.put, lzA, lzB, lzC]
              refine wpAnyH_take (i := 33) (oi := ⟨_, _, _, _, _, _⟩) (v := .bool false) rfl (by kernel_rfl) (by kernel_rfl) (by kernel_rfl) (fun _ _ _ h => h) (yl_pickF (by rfl) _ _ _ rfl rfl _ rfl) (by assumption) ?_
              simp only [Act.put, lzA, lzB, lzC]
              refine wpAnyH_done (by kernel_rfl) ?_ _
              clear hHeld
              refine hK14 _ _ ?_
              clear hK14 K14
              refine wp_cond_false rfl ?_
              refine wp_skip ?_
              refine hK13 _ _ ?_
              clear hK13 K13
              refine wp_region_lit ?_
              refine wl_yield (o := ⟨_, _, _, _, _, _⟩) (.int .i64 (k : Nat)) (yl_move (by rfl) _ rfl _ rfl) ?_
              simp only [Act.put, lzA, lzB, lzC]
              refine wl_yield (o := ⟨_, _, _, _, _, _⟩) (.int .i64 (k + 1 : Nat)) (yl_addI (by rfl) _ _ _ rfl (((k : Nat) : Int)) (1) (((k + 1 : Nat) : Int)) rfl rfl (by omega) (by omega) (by omega)) ?_
              simp only [Act.put, lzA, lzB, lzC]
              refine wl_yield (o := ⟨_, _, _, _, _, _⟩) (.int .i64 (k + 1 : Nat)) (yl_assign (by rfl) _ rfl _ rfl) ?_
              simp only [Act.put, lzA, lzB, lzC]
              refine wpList_nil ?_
              show _ ∧ _
              go_roundw
              case rel => exact ⟨k + 1, false, rfl, rfl, by omega, keep_next hKK rfl, hown, HC, D⟩
              case measure => simp [intOf]; omega
            · by_cases hlow : k < m
              · have hkl : k < l.length := by omega
                obtain ⟨g2, off2, e2, HC2⟩ := (hr.on D).at.2 k hlt2
                cases e2
                have hbk := ha.2 k hkl
                have fk := fl _ (getB_mem hkl)
                refine wp_seq_k (fun K11 hK11 => ?_)
                refine wp_seq_k (fun K12 hK12 => ?_)
                refine wp_region_lit ?_
                refine wl_yield (o := ⟨_, _, _, _, _, _⟩) (.int .i64 (k : Nat)) (yl_move (by rfl) _ rfl _ rfl) ?_
                simp only [Act.put, lzA, lzB, lzC]
                refine wl_yield (o := ⟨_, _, _, _, _, _⟩) (.slice (some ⟨g, off, none⟩) cs.length cp) (yl_move (by rfl) _ rfl _ rfl) ?_
                simp only [Act.put, lzA, lzB, lzC]
                refine wl_yield (o := ⟨_, _, _, _, _, _⟩) (.int .i64 (cs.length : Nat)) (yl_lenB (by rfl) _ rfl _ _ _ rfl) ?_
                simp only [Act.put, lzA, lzB, lzC]
                refine wl_yield (o := ⟨_, _, _, _, _, _⟩) (.bool true) (yl_lssI (by rfl) _ _ _ rfl (((k : Nat) : Int)) (((cs.length : Nat) : Int)) true rfl rfl (decide_eq_true (by omega))) ?_
                simp only [Act.put, lzA, lzB, lzC]
                refine wpList_nil ?_
                refine hK12 _ _ ?_
                clear hK12 K12
                refine wp_cond_true rfl ?_
                refine wp_skip ?_
                refine hK11 _ _ ?_
                clear hK11 K11
                refine wp_seq_k (fun K13 hK13 => ?_)
                refine wp_block ?_
                refine wp_seq_k (fun K14 hK14 => ?_)
                refine wp_region_held_drew (S := fun w' => BcAt w' g (off + m * 16) (cs.getD m bc0) ∧ BcAt w' g (off + k * 16) (cs.getD k bc0)) (by kernel_rfl) ⟨HC.on (Below.refl _ _).drew, HC2.on (Below.refl _ _).drew⟩ (fun hHeld => ?_)
                have kb : Below wr.heap.size wr wr.drew := (Below.refl _ wr).drew
                replace D := D.trans (kb.mono D.size)
                replace hown := hown.on kb
                replace HC := HC.on kb
                replace HC2 := HC2.on kb
                clear kb
                generalize wr.drew = v2 at D hHeld hown HC HC2 ⊢
                refine wpAnyH_take (i := 0) (oi := ⟨_, _, _, _, _, _⟩) (v := .int .i64 (k : Nat)) rfl (by kernel_rfl) (by kernel_rfl) (by kernel_rfl) (fun _ _ _ h => h) (yl_move (by rfl) _ rfl _ rfl) (by assumption) ?_
                simp only [Act.put, lzA, lzB, lzC]
                refine wpAnyH_take (i := 1) (oi := ⟨_, _, _, _, _, _⟩) (v := .int .i64 (m : Nat)) rfl (by kernel_rfl) (by kernel_rfl) (by kernel_rfl) (fun _ _ _ h => h) (yl_move (by rfl) _ rfl _ rfl) (by assumption) ?_
                simp only [Act.put, lzA, lzB, lzC]
                refine wpAnyH_take (i := 2) (oi := ⟨_, _, _, _, _, _⟩) (v := .bool true) rfl (by kernel_rfl) (by kernel_rfl) (by kernel_rfl) (fun _ _ _ h => h) (yl_neqlI (by rfl) _ _ _ rfl (((k : Nat) : Int)) (((m : Nat) : Int)) true rfl rfl (decide_eq_true (by omega))) (by assumption) ?_
                simp only [Act.put, lzA, lzB, lzC]
                refine wpAnyH_take (i := 3) (oi := ⟨_, _, _, _, _, _⟩) (v := .bool true) rfl (by kernel_rfl) (by kernel_rfl) (by kernel_rfl) (fun _ _ _ h => h) (yl_move (by rfl) _ rfl _ rfl) (by assumption) ?_
                simp only [Act.put, lzA, lzB, lzC]
                refine wpAnyH_take (i := 4) (oi := ⟨_, _, _, _, _, _⟩) (v := .bool true) rfl (by kernel_rfl) (by kernel_rfl) (by kernel_rfl) (fun _ _ _ h => h) (yl_move (by rfl) _ rfl _ rfl) (by assumption) ?_
                simp only [Act.put, lzA, lzB, lzC]
                refine wpAnyH_take (i := 5) (oi := ⟨_, _, _, _, _, _⟩) (v := .bool true) rfl (by kernel_rfl) (by kernel_rfl) (by kernel_rfl) (fun _ _ _ h => h) (yl_pickT (by rfl) _ _ _ rfl rfl _ rfl) (by assumption) ?_
                simp only [Act.put, lzA, lzB, lzC]
                refine wpAnyH_take (i := 6) (oi := ⟨_, _, _, _, _, _⟩) (v := .bool true) rfl (by kernel_rfl) (by kernel_rfl) (by kernel_rfl) (fun _ _ _ h => h) (yl_move (by rfl) _ rfl _ rfl) (by assumption) ?_
                simp only [Act.put, lzA, lzB, lzC]
                refine wpAnyH_take (i := 7) (oi := ⟨_, _, _, _, _, _⟩) (v := .slice (some ⟨g, off, none⟩) cs.length cp) rfl (by kernel_rfl) (by kernel_rfl) (by kernel_rfl) (fun _ _ _ h => h) (yl_move (by rfl) _ rfl _ rfl) (by assumption) ?_
                simp only [Act.put, lzA, lzB, lzC]
                refine wpAnyH_take (i := 8) (oi := ⟨_, _, _, _, _, _⟩) (v := .int .i64 (m : Nat)) rfl (by kernel_rfl) (by kernel_rfl) (by kernel_rfl) (fun _ _ _ h => h) (yl_move (by rfl) _ rfl _ rfl) (by assumption) ?_
                simp only [Act.put, lzA, lzB, lzC]
                refine wpAnyH_take (i := 9) (oi := ⟨_, _, _, _, _, _⟩) (v := .pointer (some ⟨g, off + m * 16, none⟩)) rfl (by kernel_rfl) (by kernel_rfl) (by kernel_rfl) (fun _ _ _ h => h) (yl_bxAt (by rfl) _ _ rfl g (off) _ _ (m) rfl rfl (hlt)) (by assumption) ?_
                simp only [Act.put, lzA, lzB, lzC]
                refine wpAnyH_take (i := 10) (oi := ⟨_, _, _, _, _, _⟩) (v := BxC.val (cs.getD m bc0)) rfl (by kernel_rfl) (by kernel_rfl) (by kernel_rfl) (fun _ _ _ h => h) (yl_bx (by rfl) _ rfl _ _ rfl _ (fun _ h => h.1)) (by assumption) ?_
                simp only [Act.put, lzA, lzB, lzC]
                refine wpAnyH_take (i := 11) (oi := ⟨_, _, _, _, _, _⟩) (v := .slice (some ⟨g, off, none⟩) cs.length cp) rfl (by kernel_rfl) (by kernel_rfl) (by kernel_rfl) (fun _ _ _ h => h) (yl_move (by rfl) _ rfl _ rfl) (by assumption) ?_
                simp only [Act.put, lzA, lzB, lzC]
                refine wpAnyH_take (i := 12) (oi := ⟨_, _, _, _, _, _⟩) (v := .int .i64 (k : Nat)) rfl (by kernel_rfl) (by kernel_rfl) (by kernel_rfl) (fun _ _ _ h => h) (yl_move (by rfl) _ rfl _ rfl) (by assumption) ?_
                simp only [Act.put, lzA, lzB, lzC]
                refine wpAnyH_take (i := 13) (oi := ⟨_, _, _, _, _, _⟩) (v := .pointer (some ⟨g, off + k * 16, none⟩)) rfl (by kernel_rfl) (by kernel_rfl) (by kernel_rfl) (fun _ _ _ h => h) (yl_bxAt (by rfl) _ _ rfl g (off) _ _ (k) rfl rfl (hlt2)) (by assumption) ?_
                simp only [Act.put, lzA, lzB, lzC]
                refine wpAnyH_take (i := 14) (oi := ⟨_, _, _, _, _, _⟩) (v := BxC.val (cs.getD k bc0)) rfl (by kernel_rfl) (by kernel_rfl) (by kernel_rfl) (fun _ _ _ h => h) (yl_bx (by rfl) _ rfl _ _ rfl _ (fun _ h => h.2)) (by assumption) ?_
                simp only [Act.put, lzA, lzB, lzC]
                refine held_call (o := ⟨_, _, _, _, _, _⟩) 15 (by kernel_rfl) rfl (by rfl) 46 _ _ rfl #[BxC.val (cs.getD m bc0), BxC.val (cs.getD k bc0)] rfl (run_call Tryz.func46 (by kernel_rfl) (by kernel_rfl)) ?_
                refine (refInBx_any _ _ (l.getD m zBox) (l.getD k zBox) _ (hbm.on D) (hbk.on D) fm fk).mono ?_
                rintro r v3 ⟨rfl, kb⟩
                replace D := D.trans (kb.mono D.size)
                replace hown := hown.on kb
                replace HC := HC.on kb
                replace HC2 := HC2.on kb
                clear kb
                clear hHeld
                cases h1 : inBx (l.getD m zBox) (l.getD k zBox)
                · refine ⟨.bool false, rfl, ⟨HC, HC2⟩, fun hHeld => ?_⟩
                  simp only [Act.put, lzA, lzB, lzC]
                  refine wpAnyH_take (i := 16) (oi := ⟨_, _, _, _, _, _⟩) (v := .bool false) rfl (by kernel_rfl) (by kernel_rfl) (by kernel_rfl) (fun _ _ _ h => h) (yl_pickT (by rfl) _ _ _ rfl rfl _ rfl) (by assumption) ?_
                  simp only [Act.put, lzA, lzB, lzC]
                  refine wpAnyH_take (i := 17) (oi := ⟨_, _, _, _, _, _⟩) (v := .bool false) rfl (by kernel_rfl) (by kernel_rfl) (by kernel_rfl) (fun _ _ _ h => h) (yl_move (by rfl) _ rfl _ rfl) (by assumption) ?_
                  simp only [Act.put, lzA, lzB, lzC]
                  refine wpAnyH_take (i := 18) (oi := ⟨_, _, _, _, _, _⟩) (v := undef) rfl (by kernel_rfl) (by kernel_rfl) (by kernel_rfl) (fun _ _ _ h => h) (yl_undef (by rfl)) (by assumption) ?_
                  simp only [Act.put, lzA, lzB, lzC]
                  refine wpAnyH_take (i := 19) (oi := ⟨_, _, _, _, _, _⟩) (v := undef) rfl (by kernel_rfl) (by kernel_rfl) (by kernel_rfl) (fun _ _ _ h => h) (yl_undef (by rfl)) (by assumption) ?_
                  simp only [Act.put, lzA, lzB, lzC]
                  refine wpAnyH_take (i := 20) (oi := ⟨_, _, _, _, _, _⟩) (v := undef) rfl (by kernel_rfl) (by kernel_rfl) (by kernel_rfl) (fun _ _ _ h => h) (yl_undef (by rfl)) (by assumption) ?_
                  simp only [Act.put, lzA, lzB, lzC]
                  refine wpAnyH_take (i := 21) (oi := ⟨_, _, _, _, _, _⟩) (v := undef) rfl (by kernel_rfl) (by kernel_rfl) (by kernel_rfl) (fun _ _ _ h => h) (yl_undef (by rfl)) (by assumption) ?_
                  simp only [Act.put, lzA, lzB, lzC]
                  refine wpAnyH_take (i := 22) (oi := ⟨_, _, _, _, _, _⟩) (v := undef) rfl (by kernel_rfl) (by kernel_rfl) (by kernel_rfl) (fun _ _ _ h => h) (yl_undef (by rfl)) (by assumption) ?_
                  simp only [Act.put, lzA, lzB, lzC]
                  refine wpAnyH_take (i := 23) (oi := ⟨_, _, _, _, _, _⟩) (v := undef) rfl (by kernel_rfl) (by kernel_rfl) (by kernel_rfl) (fun _ _ _ h => h) (yl_undef (by rfl)) (by assumption) ?_
                  simp only [Act.put, lzA, lzB, lzC]
                  refine wpAnyH_take (i := 24) (oi := ⟨_, _, _, _, _, _⟩) (v := undef) rfl (by kernel_rfl) (by kernel_rfl) (by kernel_rfl) (fun _ _ _ h => h) (yl_undef (by rfl)) (by assumption) ?_
                  simp only [Act.put, lzA, lzB, lzC]
                  refine wpAnyH_take (i := 25) (oi := ⟨_, _, _, _, _, _⟩) (v := undef) rfl (by kernel_rfl) (by kernel_rfl) (by kernel_rfl) (fun _ _ _ h => h) (yl_undef (by rfl)) (by assumption) ?_
                  simp only [Act.put, lzA, lzB, lzC]
                  refine wpAnyH_take (i := 26) (oi := ⟨_, _, _, _, _, _⟩) (v := undef) rfl (by kernel_rfl) (by kernel_rfl) (by kernel_rfl) (fun _ _ _ h => h) (yl_undef (by rfl)) (by assumption) ?_
                  simp only [Act.put, lzA, lzB, lzC]
                  refine wpAnyH_take (i := 27) (oi := ⟨_, _, _, _, _, _⟩) (v := undef) rfl (by kernel_rfl) (by kernel_rfl) (by kernel_rfl) (fun _ _ _ h => h) (yl_undef (by rfl)) (by assumption) ?_
                  simp only [Act.put, lzA, lzB, lzC]
                  refine wpAnyH_take (i := 28) (oi := ⟨_, _, _, _, _, _⟩) (v := undef) rfl (by kernel_rfl) (by kernel_rfl) (by kernel_rfl) (fun _ _ _ h => h) (yl_undef (by rfl)) (by assumption) ?_
                  simp only [Act.put, lzA, lzB, lzC]
                  refine wpAnyH_take (i := 29) (oi := ⟨_, _, _, _, _, _⟩) (v := undef) rfl (by kernel_rfl) (by kernel_rfl) (by kernel_rfl) (fun _ _ _ h => h) (yl_undef (by rfl)) (by assumption) ?_
                  simp only [Act.put, lzA, lzB, lzC]
                  refine wpAnyH_take (i := 30) (oi := ⟨_, _, _, _, _, _⟩) (v := undef) rfl (by kernel_rfl) (by kernel_rfl) (by kernel_rfl) (fun _ _ _ h => h) (yl_undef (by rfl)) (by assumption) ?_
                  simp only [Act.put, lzA, lzB, lzC]
                  refine wpAnyH_take (i := 31) (oi := ⟨_, _, _, _, _, _⟩) (v := undef) rfl (by kernel_rfl) (by kernel_rfl) (by kernel_rfl) (fun _ _ _ h => h) (yl_undef (by rfl)) (by assumption) ?_
                  simp only [Act.put, lzA, lzB, lzC]
                  refine wpAnyH_take (i := 32) (oi := ⟨_, _, _, _, _, _⟩) (v := undef) rfl (by kernel_rfl) (by kernel_rfl) (by kernel_rfl) (fun _ _ _ h => h) (yl_undef (by rfl)) (by assumption) ?_
                  simp only [Act.put, lzA, lzB, lzC]
                  refine wpAnyH_take (i := 33) (oi := ⟨_, _, _, _, _, _⟩) (v := .bool false) rfl (by kernel_rfl) (by kernel_rfl) (by kernel_rfl) (fun _ _ _ h => h) (yl_pickF (by rfl) _ _ _ rfl rfl _ rfl) (by assumption) ?_
                  simp only [Act.put, lzA, lzB, lzC]
                  refine wpAnyH_done (by kernel_rfl) ?_ _
                  clear hHeld
                  refine hK14 _ _ ?_
                  clear hK14 K14
                  refine wp_cond_false rfl ?_
                  refine wp_skip ?_
                  refine hK13 _ _ ?_
                  clear hK13 K13
                  refine wp_region_lit ?_
                  refine wl_yield (o := ⟨_, _, _, _, _, _⟩) (.int .i64 (k : Nat)) (yl_move (by rfl) _ rfl _ rfl) ?_
                  simp only [Act.put, lzA, lzB, lzC]
                  refine wl_yield (o := ⟨_, _, _, _, _, _⟩) (.int .i64 (k + 1 : Nat)) (yl_addI (by rfl) _ _ _ rfl (((k : Nat) : Int)) (1) (((k + 1 : Nat) : Int)) rfl rfl (by omega) (by omega) (by omega)) ?_
                  simp only [Act.put, lzA, lzB, lzC]
                  refine wl_yield (o := ⟨_, _, _, _, _, _⟩) (.int .i64 (k + 1 : Nat)) (yl_assign (by rfl) _ rfl _ rfl) ?_
                  simp only [Act.put, lzA, lzB, lzC]
                  refine wpList_nil ?_
                  show _ ∧ _
                  go_roundw
                  case rel => exact ⟨k + 1, true, rfl, rfl, by omega, keep_next hKK (by rw [better_is (p := false) (q := true) (r := true) hki h1 (decide_eq_true hlow) (Or.inl rfl)]; rfl), hown, HC, D⟩
                  case measure => simp [intOf]; omega
                · refine ⟨.bool true, rfl, ⟨HC, HC2⟩, fun hHeld => ?_⟩
                  simp only [Act.put, lzA, lzB, lzC]
                  refine wpAnyH_take (i := 16) (oi := ⟨_, _, _, _, _, _⟩) (v := .bool true) rfl (by kernel_rfl) (by kernel_rfl) (by kernel_rfl) (fun _ _ _ h => h) (yl_pickT (by rfl) _ _ _ rfl rfl _ rfl) (by assumption) ?_
                  simp only [Act.put, lzA, lzB, lzC]
                  refine wpAnyH_take (i := 17) (oi := ⟨_, _, _, _, _, _⟩) (v := .bool true) rfl (by kernel_rfl) (by kernel_rfl) (by kernel_rfl) (fun _ _ _ h => h) (yl_move (by rfl) _ rfl _ rfl) (by assumption) ?_
                  simp only [Act.put, lzA, lzB, lzC]
                  refine wpAnyH_take (i := 18) (oi := ⟨_, _, _, _, _, _⟩) (v := .int .i64 (k : Nat)) rfl (by kernel_rfl) (by kernel_rfl) (by kernel_rfl) (fun _ _ _ h => h) (yl_move (by rfl) _ rfl _ rfl) (by assumption) ?_
                  simp only [Act.put, lzA, lzB, lzC]
                  refine wpAnyH_take (i := 19) (oi := ⟨_, _, _, _, _, _⟩) (v := .int .i64 (m : Nat)) rfl (by kernel_rfl) (by kernel_rfl) (by kernel_rfl) (fun _ _ _ h => h) (yl_move (by rfl) _ rfl _ rfl) (by assumption) ?_
                  simp only [Act.put, lzA, lzB, lzC]
                  refine wpAnyH_take (i := 20) (oi := ⟨_, _, _, _, _, _⟩) (v := .bool true) rfl (by kernel_rfl) (by kernel_rfl) (by kernel_rfl) (fun _ _ _ h => h) (yl_lssI (by rfl) _ _ _ rfl (((k : Nat) : Int)) (((m : Nat) : Int)) true rfl rfl (decide_eq_true (by omega))) (by assumption) ?_
                  simp only [Act.put, lzA, lzB, lzC]
                  refine wpAnyH_take (i := 21) (oi := ⟨_, _, _, _, _, _⟩) (v := .bool true) rfl (by kernel_rfl) (by kernel_rfl) (by kernel_rfl) (fun _ _ _ h => h) (yl_move (by rfl) _ rfl _ rfl) (by assumption) ?_
                  simp only [Act.put, lzA, lzB, lzC]
                  refine wpAnyH_take (i := 22) (oi := ⟨_, _, _, _, _, _⟩) (v := undef) rfl (by kernel_rfl) (by kernel_rfl) (by kernel_rfl) (fun _ _ _ h => h) (yl_undef (by rfl)) (by assumption) ?_
                  simp only [Act.put, lzA, lzB, lzC]
                  refine wpAnyH_take (i := 23) (oi := ⟨_, _, _, _, _, _⟩) (v := undef) rfl (by kernel_rfl) (by kernel_rfl) (by kernel_rfl) (fun _ _ _ h => h) (yl_undef (by rfl)) (by assumption) ?_
                  simp only [Act.put, lzA, lzB, lzC]
                  refine wpAnyH_take (i := 24) (oi := ⟨_, _, _, _, _, _⟩) (v := undef) rfl (by kernel_rfl) (by kernel_rfl) (by kernel_rfl) (fun _ _ _ h => h) (yl_undef (by rfl)) (by assumption) ?_
                  simp only [Act.put, lzA, lzB, lzC]
                  refine wpAnyH_take (i := 25) (oi := ⟨_, _, _, _, _, _⟩) (v := undef) rfl (by kernel_rfl) (by kernel_rfl) (by kernel_rfl) (fun _ _ _ h => h) (yl_undef (by rfl)) (by assumption) ?_
                  simp only [Act.put, lzA, lzB, lzC]
                  refine wpAnyH_take (i := 26) (oi := ⟨_, _, _, _, _, _⟩) (v := undef) rfl (by kernel_rfl) (by kernel_rfl) (by kernel_rfl) (fun _ _ _ h => h) (yl_undef (by rfl)) (by assumption) ?_
                  simp only [Act.put, lzA, lzB, lzC]
                  refine wpAnyH_take (i := 27) (oi := ⟨_, _, _, _, _, _⟩) (v := undef) rfl (by kernel_rfl) (by kernel_rfl) (by kernel_rfl) (fun _ _ _ h => h) (yl_undef (by rfl)) (by assumption) ?_
                  simp only [Act.put, lzA, lzB, lzC]
                  refine wpAnyH_take (i := 28) (oi := ⟨_, _, _, _, _, _⟩) (v := undef) rfl (by kernel_rfl) (by kernel_rfl) (by kernel_rfl) (fun _ _ _ h => h) (yl_undef (by rfl)) (by assumption) ?_
                  simp only [Act.put, lzA, lzB, lzC]
                  refine wpAnyH_take (i := 29) (oi := ⟨_, _, _, _, _, _⟩) (v := undef) rfl (by kernel_rfl) (by kernel_rfl) (by kernel_rfl) (fun _ _ _ h => h) (yl_undef (by rfl)) (by assumption) ?_
                  simp only [Act.put, lzA, lzB, lzC]
                  refine wpAnyH_take (i := 30) (oi := ⟨_, _, _, _, _, _⟩) (v := undef) rfl (by kernel_rfl) (by kernel_rfl) (by kernel_rfl) (fun _ _ _ h => h) (yl_undef (by rfl)) (by assumption) ?_
                  simp only [Act.put, lzA, lzB, lzC]
                  refine wpAnyH_take (i := 31) (oi := ⟨_, _, _, _, _, _⟩) (v := undef) rfl (by kernel_rfl) (by kernel_rfl) (by kernel_rfl) (fun _ _ _ h => h) (yl_undef (by rfl)) (by assumption) ?_
                  simp only [Act.put, lzA, lzB, lzC]
                  refine wpAnyH_take (i := 32) (oi := ⟨_, _, _, _, _, _⟩) (v := .bool true) rfl (by kernel_rfl) (by kernel_rfl) (by kernel_rfl) (fun _ _ _ h => h) (yl_pickT (by rfl) _ _ _ rfl rfl _ rfl) (by assumption) ?_
                  simp only [Act.put, lzA, lzB, lzC]
                  refine wpAnyH_take (i := 33) (oi := ⟨_, _, _, _, _, _⟩) (v := .bool true) rfl (by kernel_rfl) (by kernel_rfl) (by kernel_rfl) (fun _ _ _ h => h) (yl_pickT (by rfl) _ _ _ rfl rfl _ rfl) (by assumption) ?_
                  simp only [Act.put, lzA, lzB, lzC]
                  refine wpAnyH_done (by kernel_rfl) ?_ _
                  clear hHeld
                  refine hK14 _ _ ?_
                  clear hK14 K14
                  refine wp_cond_true rfl ?_
                  refine wp_region_lit ?_
                  refine wl_yield (o := ⟨_, _, _, _, _, _⟩) (.bool false) (yl_assign (by rfl) _ rfl _ rfl) ?_
                  simp only [Act.put, lzA, lzB, lzC]
                  refine wpList_nil ?_
                  refine hK13 _ _ ?_
                  clear hK13 K13
                  refine wp_region_lit ?_
                  refine wl_yield (o := ⟨_, _, _, _, _, _⟩) (.int .i64 (k : Nat)) (yl_move (by rfl) _ rfl _ rfl) ?_
                  simp only [Act.put, lzA, lzB, lzC]
                  refine wl_yield (o := ⟨_, _, _, _, _, _⟩) (.int .i64 (k + 1 : Nat)) (yl_addI (by rfl) _ _ _ rfl (((k : Nat) : Int)) (1) (((k + 1 : Nat) : Int)) rfl rfl (by omega) (by omega) (by omega)) ?_
                  simp only [Act.put, lzA, lzB, lzC]
                  refine wl_yield (o := ⟨_, _, _, _, _, _⟩) (.int .i64 (k + 1 : Nat)) (yl_assign (by rfl) _ rfl _ rfl) ?_
                  simp only [Act.put, lzA, lzB, lzC]
                  refine wpList_nil ?_
                  show _ ∧ _
                  go_roundw
                  case rel => exact ⟨k + 1, false, rfl, rfl, by omega, keep_next hKK (by rw [better_is (p := true) (q := true) (r := true) hki h1 (decide_eq_true hlow) (Or.inl rfl)]; rfl), hown, HC, D⟩
                  case measure => simp [intOf]; omega
              · have hkl : k < l.length := by omega
                obtain ⟨g2, off2, e2, HC2⟩ := (hr.on D).at.2 k hlt2
                cases e2
                have hbk := ha.2 k hkl
                have fk := fl _ (getB_mem hkl)
                refine wp_seq_k (fun K11 hK11 => ?_)
                refine wp_seq_k (fun K12 hK12 => ?_)
                refine wp_region_lit ?_
                refine wl_yield (o := ⟨_, _, _, _, _, _⟩) (.int .i64 (k : Nat)) (yl_move (by rfl) _ rfl _ rfl) ?_
                simp only [Act.put, lzA, lzB, lzC]
                refine wl_yield (o := ⟨_, _, _, _, _, _⟩) (.slice (some ⟨g, off, none⟩) cs.length cp) (yl_move (by rfl) _ rfl _ rfl) ?_
                simp only [Act.put, lzA, lzB, lzC]
                refine wl_yield (o := ⟨_, _, _, _, _, _⟩) (.int .i64 (cs.length : Nat)) (yl_lenB (by rfl) _ rfl _ _ _ rfl) ?_
                simp only [Act.put, lzA, lzB, lzC]
                refine wl_yield (o := ⟨_, _, _, _, _, _⟩) (.bool true) (yl_lssI (by rfl) _ _ _ rfl (((k : Nat) : Int)) (((cs.length : Nat) : Int)) true rfl rfl (decide_eq_true (by omega))) ?_
                simp only [Act.put, lzA, lzB, lzC]
                refine wpList_nil ?_
                refine hK12 _ _ ?_
                clear hK12 K12
                refine wp_cond_true rfl ?_
                refine wp_skip ?_
                refine hK11 _ _ ?_
                clear hK11 K11
                refine wp_seq_k (fun K13 hK13 => ?_)
                refine wp_block ?_
                refine wp_seq_k (fun K14 hK14 => ?_)
                refine wp_region_held_drew (S := fun w' => BcAt w' g (off + m * 16) (cs.getD m bc0) ∧ BcAt w' g (off + k * 16) (cs.getD k bc0)) (by kernel_rfl) ⟨HC.on (Below.refl _ _).drew, HC2.on (Below.refl _ _).drew⟩ (fun hHeld => ?_)
                have kb : Below wr.heap.size wr wr.drew := (Below.refl _ wr).drew
                replace D := D.trans (kb.mono D.size)
                replace hown := hown.on kb
                replace HC := HC.on kb
                replace HC2 := HC2.on kb
                clear kb
                generalize wr.drew = v2 at D hHeld hown HC HC2 ⊢
                refine wpAnyH_take (i := 0) (oi := ⟨_, _, _, _, _, _⟩) (v := .int .i64 (k : Nat)) rfl (by kernel_rfl) (by kernel_rfl) (by kernel_rfl) (fun _ _ _ h => h) (yl_move (by rfl) _ rfl _ rfl) (by assumption) ?_
                simp only [Act.put, lzA, lzB, lzC]
                refine wpAnyH_take (i := 1) (oi := ⟨_, _, _, _, _, _⟩) (v := .int .i64 (m : Nat)) rfl (by kernel_rfl) (by kernel_rfl) (by kernel_rfl) (fun _ _ _ h => h) (yl_move (by rfl) _ rfl _ rfl) (by assumption) ?_
                simp only [Act.put, lzA, lzB, lzC]
                refine wpAnyH_take (i := 2) (oi := ⟨_, _, _, _, _, _⟩) (v := .bool true) rfl (by kernel_rfl) (by kernel_rfl) (by kernel_rfl) (fun _ _ _ h => h) (yl_neqlI (by rfl) _ _ _ rfl (((k : Nat) : Int)) (((m : Nat) : Int)) true rfl rfl (decide_eq_true (by omega))) (by assumption) ?_
                simp only [Act.put, lzA, lzB, lzC]
                refine wpAnyH_take (i := 3) (oi := ⟨_, _, _, _, _, _⟩) (v := .bool true) rfl (by kernel_rfl) (by kernel_rfl) (by kernel_rfl) (fun _ _ _ h => h) (yl_move (by rfl) _ rfl _ rfl) (by assumption) ?_
                simp only [Act.put, lzA, lzB, lzC]
                refine wpAnyH_take (i := 4) (oi := ⟨_, _, _, _, _, _⟩) (v := .bool true) rfl (by kernel_rfl) (by kernel_rfl) (by kernel_rfl) (fun _ _ _ h => h) (yl_move (by rfl) _ rfl _ rfl) (by assumption) ?_
                simp only [Act.put, lzA, lzB, lzC]
                refine wpAnyH_take (i := 5) (oi := ⟨_, _, _, _, _, _⟩) (v := .bool true) rfl (by kernel_rfl) (by kernel_rfl) (by kernel_rfl) (fun _ _ _ h => h) (yl_pickT (by rfl) _ _ _ rfl rfl _ rfl) (by assumption) ?_
                simp only [Act.put, lzA, lzB, lzC]
                refine wpAnyH_take (i := 6) (oi := ⟨_, _, _, _, _, _⟩) (v := .bool true) rfl (by kernel_rfl) (by kernel_rfl) (by kernel_rfl) (fun _ _ _ h => h) (yl_move (by rfl) _ rfl _ rfl) (by assumption) ?_
                simp only [Act.put, lzA, lzB, lzC]
                refine wpAnyH_take (i := 7) (oi := ⟨_, _, _, _, _, _⟩) (v := .slice (some ⟨g, off, none⟩) cs.length cp) rfl (by kernel_rfl) (by kernel_rfl) (by kernel_rfl) (fun _ _ _ h => h) (yl_move (by rfl) _ rfl _ rfl) (by assumption) ?_
                simp only [Act.put, lzA, lzB, lzC]
                refine wpAnyH_take (i := 8) (oi := ⟨_, _, _, _, _, _⟩) (v := .int .i64 (m : Nat)) rfl (by kernel_rfl) (by kernel_rfl) (by kernel_rfl) (fun _ _ _ h => h) (yl_move (by rfl) _ rfl _ rfl) (by assumption) ?_
                simp only [Act.put, lzA, lzB, lzC]
                refine wpAnyH_take (i := 9) (oi := ⟨_, _, _, _, _, _⟩) (v := .pointer (some ⟨g, off + m * 16, none⟩)) rfl (by kernel_rfl) (by kernel_rfl) (by kernel_rfl) (fun _ _ _ h => h) (yl_bxAt (by rfl) _ _ rfl g (off) _ _ (m) rfl rfl (hlt)) (by assumption) ?_
                simp only [Act.put, lzA, lzB, lzC]
                refine wpAnyH_take (i := 10) (oi := ⟨_, _, _, _, _, _⟩) (v := BxC.val (cs.getD m bc0)) rfl (by kernel_rfl) (by kernel_rfl) (by kernel_rfl) (fun _ _ _ h => h) (yl_bx (by rfl) _ rfl _ _ rfl _ (fun _ h => h.1)) (by assumption) ?_
                simp only [Act.put, lzA, lzB, lzC]
                refine wpAnyH_take (i := 11) (oi := ⟨_, _, _, _, _, _⟩) (v := .slice (some ⟨g, off, none⟩) cs.length cp) rfl (by kernel_rfl) (by kernel_rfl) (by kernel_rfl) (fun _ _ _ h => h) (yl_move (by rfl) _ rfl _ rfl) (by assumption) ?_
                simp only [Act.put, lzA, lzB, lzC]
                refine wpAnyH_take (i := 12) (oi := ⟨_, _, _, _, _, _⟩) (v := .int .i64 (k : Nat)) rfl (by kernel_rfl) (by kernel_rfl) (by kernel_rfl) (fun _ _ _ h => h) (yl_move (by rfl) _ rfl _ rfl) (by assumption) ?_
                simp only [Act.put, lzA, lzB, lzC]
                refine wpAnyH_take (i := 13) (oi := ⟨_, _, _, _, _, _⟩) (v := .pointer (some ⟨g, off + k * 16, none⟩)) rfl (by kernel_rfl) (by kernel_rfl) (by kernel_rfl) (fun _ _ _ h => h) (yl_bxAt (by rfl) _ _ rfl g (off) _ _ (k) rfl rfl (hlt2)) (by assumption) ?_
                simp only [Act.put, lzA, lzB, lzC]
                refine wpAnyH_take (i := 14) (oi := ⟨_, _, _, _, _, _⟩) (v := BxC.val (cs.getD k bc0)) rfl (by kernel_rfl) (by kernel_rfl) (by kernel_rfl) (fun _ _ _ h => h) (yl_bx (by rfl) _ rfl _ _ rfl _ (fun _ h => h.2)) (by assumption) ?_
                simp only [Act.put, lzA, lzB, lzC]
                refine held_call (o := ⟨_, _, _, _, _, _⟩) 15 (by kernel_rfl) rfl (by rfl) 46 _ _ rfl #[BxC.val (cs.getD m bc0), BxC.val (cs.getD k bc0)] rfl (run_call Tryz.func46 (by kernel_rfl) (by kernel_rfl)) ?_
                refine (refInBx_any _ _ (l.getD m zBox) (l.getD k zBox) _ (hbm.on D) (hbk.on D) fm fk).mono ?_
                rintro r v3 ⟨rfl, kb⟩
                replace D := D.trans (kb.mono D.size)
                replace hown := hown.on kb
                replace HC := HC.on kb
                replace HC2 := HC2.on kb
                clear kb
                clear hHeld
                cases h1 : inBx (l.getD m zBox) (l.getD k zBox)
                · refine ⟨.bool false, rfl, ⟨HC, HC2⟩, fun hHeld => ?_⟩
                  simp only [Act.put, lzA, lzB, lzC]
                  refine wpAnyH_take (i := 16) (oi := ⟨_, _, _, _, _, _⟩) (v := .bool false) rfl (by kernel_rfl) (by kernel_rfl) (by kernel_rfl) (fun _ _ _ h => h) (yl_pickT (by rfl) _ _ _ rfl rfl _ rfl) (by assumption) ?_
                  simp only [Act.put, lzA, lzB, lzC]
                  refine wpAnyH_take (i := 17) (oi := ⟨_, _, _, _, _, _⟩) (v := .bool false) rfl (by kernel_rfl) (by kernel_rfl) (by kernel_rfl) (fun _ _ _ h => h) (yl_move (by rfl) _ rfl _ rfl) (by assumption) ?_
                  simp only [Act.put, lzA, lzB, lzC]
                  refine wpAnyH_take (i := 18) (oi := ⟨_, _, _, _, _, _⟩) (v := undef) rfl (by kernel_rfl) (by kernel_rfl) (by kernel_rfl) (fun _ _ _ h => h) (yl_undef (by rfl)) (by assumption) ?_
                  simp only [Act.put, lzA, lzB, lzC]
                  refine wpAnyH_take (i := 19) (oi := ⟨_, _, _, _, _, _⟩) (v := undef) rfl (by kernel_rfl) (by kernel_rfl) (by kernel_rfl) (fun _ _ _ h => h) (yl_undef (by rfl)) (by assumption) ?_
                  simp only [Act.put, lzA, lzB, lzC]
                  refine wpAnyH_take (i := 20) (oi := ⟨_, _, _, _, _, _⟩) (v := undef) rfl (by kernel_rfl) (by kernel_rfl) (by kernel_rfl) (fun _ _ _ h => h) (yl_undef (by rfl)) (by assumption) ?_
                  simp only [Act.put, lzA, lzB, lzC]
                  refine wpAnyH_take (i := 21) (oi := ⟨_, _, _, _, _, _⟩) (v := undef) rfl (by kernel_rfl) (by kernel_rfl) (by kernel_rfl) (fun _ _ _ h => h) (yl_undef (by rfl)) (by assumption) ?_
                  simp only [Act.put, lzA, lzB, lzC]
                  refine wpAnyH_take (i := 22) (oi := ⟨_, _, _, _, _, _⟩) (v := undef) rfl (by kernel_rfl) (by kernel_rfl) (by kernel_rfl) (fun _ _ _ h => h) (yl_undef (by rfl)) (by assumption) ?_
                  simp only [Act.put, lzA, lzB, lzC]
                  refine wpAnyH_take (i := 23) (oi := ⟨_, _, _, _, _, _⟩) (v := undef) rfl (by kernel_rfl) (by kernel_rfl) (by kernel_rfl) (fun _ _ _ h => h) (yl_undef (by rfl)) (by assumption) ?_
                  simp only [Act.put, lzA, lzB, lzC]
                  refine wpAnyH_take (i := 24) (oi := ⟨_, _, _, _, _, _⟩) (v := undef) rfl (by kernel_rfl) (by kernel_rfl) (by kernel_rfl) (fun _ _ _ h => h) (yl_undef (by rfl)) (by assumption) ?_
                  simp only [Act.put, lzA, lzB, lzC]
                  refine wpAnyH_take (i := 25) (oi := ⟨_, _, _, _, _, _⟩) (v := undef) rfl (by kernel_rfl) (by kernel_rfl) (by kernel_rfl) (fun _ _ _ h => h) (yl_undef (by rfl)) (by assumption) ?_
                  simp only [Act.put, lzA, lzB, lzC]
                  refine wpAnyH_take (i := 26) (oi := ⟨_, _, _, _, _, _⟩) (v := undef) rfl (by kernel_rfl) (by kernel_rfl) (by kernel_rfl) (fun _ _ _ h => h) (yl_undef (by rfl)) (by assumption) ?_
                  simp only [Act.put, lzA, lzB, lzC]
                  refine wpAnyH_take (i := 27) (oi := ⟨_, _, _, _, _, _⟩) (v := undef) rfl (by kernel_rfl) (by kernel_rfl) (by kernel_rfl) (fun _ _ _ h => h) (yl_undef (by rfl)) (by assumption) ?_
                  simp only [Act.put, lzA, lzB, lzC]
                  refine wpAnyH_take (i := 28) (oi := ⟨_, _, _, _, _, _⟩) (v := undef) rfl (by kernel_rfl) (by kernel_rfl) (by kernel_rfl) (fun _ _ _ h => h) (yl_undef (by rfl)) (by assumption) ?_
                  simp only [Act.put, lzA, lzB, lzC]
                  refine wpAnyH_take (i := 29) (oi := ⟨_, _, _, _, _, _⟩) (v := undef) rfl (by kernel_rfl) (by kernel_rfl) (by kernel_rfl) (fun _ _ _ h => h) (yl_undef (by rfl)) (by assumption) ?_
                  simp only [Act.put, lzA, lzB, lzC]
                  refine wpAnyH_take (i := 30) (oi := ⟨_, _, _, _, _, _⟩) (v := undef) rfl (by kernel_rfl) (by kernel_rfl) (by kernel_rfl) (fun _ _ _ h => h) (yl_undef (by rfl)) (by assumption) ?_
                  simp only [Act.put, lzA, lzB, lzC]
                  refine wpAnyH_take (i := 31) (oi := ⟨_, _, _, _, _, _⟩) (v := undef) rfl (by kernel_rfl) (by kernel_rfl) (by kernel_rfl) (fun _ _ _ h => h) (yl_undef (by rfl)) (by assumption) ?_
                  simp only [Act.put, lzA, lzB, lzC]
                  refine wpAnyH_take (i := 32) (oi := ⟨_, _, _, _, _, _⟩) (v := undef) rfl (by kernel_rfl) (by kernel_rfl) (by kernel_rfl) (fun _ _ _ h => h) (yl_undef (by rfl)) (by assumption) ?_
                  simp only [Act.put, lzA, lzB, lzC]
                  refine wpAnyH_take (i := 33) (oi := ⟨_, _, _, _, _, _⟩) (v := .bool false) rfl (by kernel_rfl) (by kernel_rfl) (by kernel_rfl) (fun _ _ _ h => h) (yl_pickF (by rfl) _ _ _ rfl rfl _ rfl) (by assumption) ?_
                  simp only [Act.put, lzA, lzB, lzC]
                  refine wpAnyH_done (by kernel_rfl) ?_ _
                  clear hHeld
                  refine hK14 _ _ ?_
                  clear hK14 K14
                  refine wp_cond_false rfl ?_
                  refine wp_skip ?_
                  refine hK13 _ _ ?_
                  clear hK13 K13
                  refine wp_region_lit ?_
                  refine wl_yield (o := ⟨_, _, _, _, _, _⟩) (.int .i64 (k : Nat)) (yl_move (by rfl) _ rfl _ rfl) ?_
                  simp only [Act.put, lzA, lzB, lzC]
                  refine wl_yield (o := ⟨_, _, _, _, _, _⟩) (.int .i64 (k + 1 : Nat)) (yl_addI (by rfl) _ _ _ rfl (((k : Nat) : Int)) (1) (((k + 1 : Nat) : Int)) rfl rfl (by omega) (by omega) (by omega)) ?_
                  simp only [Act.put, lzA, lzB, lzC]
                  refine wl_yield (o := ⟨_, _, _, _, _, _⟩) (.int .i64 (k + 1 : Nat)) (yl_assign (by rfl) _ rfl _ rfl) ?_
                  simp only [Act.put, lzA, lzB, lzC]
                  refine wpList_nil ?_
                  show _ ∧ _
                  go_roundw
                  case rel => exact ⟨k + 1, true, rfl, rfl, by omega, keep_next hKK (by rw [better_is (p := false) (q := false) (r := true) hki h1 (decide_eq_false hlow) (Or.inr (Or.inl rfl))]; rfl), hown, HC, D⟩
                  case measure => simp [intOf]; omega
                · refine ⟨.bool true, rfl, ⟨HC, HC2⟩, fun hHeld => ?_⟩
                  simp only [Act.put, lzA, lzB, lzC]
                  refine wpAnyH_take (i := 16) (oi := ⟨_, _, _, _, _, _⟩) (v := .bool true) rfl (by kernel_rfl) (by kernel_rfl) (by kernel_rfl) (fun _ _ _ h => h) (yl_pickT (by rfl) _ _ _ rfl rfl _ rfl) (by assumption) ?_
                  simp only [Act.put, lzA, lzB, lzC]
                  refine wpAnyH_take (i := 17) (oi := ⟨_, _, _, _, _, _⟩) (v := .bool true) rfl (by kernel_rfl) (by kernel_rfl) (by kernel_rfl) (fun _ _ _ h => h) (yl_move (by rfl) _ rfl _ rfl) (by assumption) ?_
                  simp only [Act.put, lzA, lzB, lzC]
                  refine wpAnyH_take (i := 18) (oi := ⟨_, _, _, _, _, _⟩) (v := .int .i64 (k : Nat)) rfl (by kernel_rfl) (by kernel_rfl) (by kernel_rfl) (fun _ _ _ h => h) (yl_move (by rfl) _ rfl _ rfl) (by assumption) ?_
                  simp only [Act.put, lzA, lzB, lzC]
                  refine wpAnyH_take (i := 19) (oi := ⟨_, _, _, _, _, _⟩) (v := .int .i64 (m : Nat)) rfl (by kernel_rfl) (by kernel_rfl) (by kernel_rfl) (fun _ _ _ h => h) (yl_move (by rfl) _ rfl _ rfl) (by assumption) ?_
                  simp only [Act.put, lzA, lzB, lzC]
                  refine wpAnyH_take (i := 20) (oi := ⟨_, _, _, _, _, _⟩) (v := .bool false) rfl (by kernel_rfl) (by kernel_rfl) (by kernel_rfl) (fun _ _ _ h => h) (yl_lssI (by rfl) _ _ _ rfl (((k : Nat) : Int)) (((m : Nat) : Int)) false rfl rfl (decide_eq_false (by omega))) (by assumption) ?_
                  simp only [Act.put, lzA, lzB, lzC]
                  refine wpAnyH_take (i := 21) (oi := ⟨_, _, _, _, _, _⟩) (v := .bool false) rfl (by kernel_rfl) (by kernel_rfl) (by kernel_rfl) (fun _ _ _ h => h) (yl_move (by rfl) _ rfl _ rfl) (by assumption) ?_
                  simp only [Act.put, lzA, lzB, lzC]
                  refine wpAnyH_take (i := 22) (oi := ⟨_, _, _, _, _, _⟩) (v := .slice (some ⟨g, off, none⟩) cs.length cp) rfl (by kernel_rfl) (by kernel_rfl) (by kernel_rfl) (fun _ _ _ h => h) (yl_move (by rfl) _ rfl _ rfl) (by assumption) ?_
                  simp only [Act.put, lzA, lzB, lzC]
                  refine wpAnyH_take (i := 23) (oi := ⟨_, _, _, _, _, _⟩) (v := .int .i64 (k : Nat)) rfl (by kernel_rfl) (by kernel_rfl) (by kernel_rfl) (fun _ _ _ h => h) (yl_move (by rfl) _ rfl _ rfl) (by assumption) ?_
                  simp only [Act.put, lzA, lzB, lzC]
                  refine wpAnyH_take (i := 24) (oi := ⟨_, _, _, _, _, _⟩) (v := .pointer (some ⟨g, off + k * 16, none⟩)) rfl (by kernel_rfl) (by kernel_rfl) (by kernel_rfl) (fun _ _ _ h => h) (yl_bxAt (by rfl) _ _ rfl g (off) _ _ (k) rfl rfl (hlt2)) (by assumption) ?_
                  simp only [Act.put, lzA, lzB, lzC]
                  refine wpAnyH_take (i := 25) (oi := ⟨_, _, _, _, _, _⟩) (v := BxC.val (cs.getD k bc0)) rfl (by kernel_rfl) (by kernel_rfl) (by kernel_rfl) (fun _ _ _ h => h) (yl_bx (by rfl) _ rfl _ _ rfl _ (fun _ h => h.2)) (by assumption) ?_
                  simp only [Act.put, lzA, lzB, lzC]
                  refine wpAnyH_take (i := 26) (oi := ⟨_, _, _, _, _, _⟩) (v := .slice (some ⟨g, off, none⟩) cs.length cp) rfl (by kernel_rfl) (by kernel_rfl) (by kernel_rfl) (fun _ _ _ h => h) (yl_move (by rfl) _ rfl _ rfl) (by assumption) ?_
                  simp only [Act.put, lzA, lzB, lzC]
                  refine wpAnyH_take (i := 27) (oi := ⟨_, _, _, _, _, _⟩) (v := .int .i64 (m : Nat)) rfl (by kernel_rfl) (by kernel_rfl) (by kernel_rfl) (fun _ _ _ h => h) (yl_move (by rfl) _ rfl _ rfl) (by assumption) ?_
                  simp only [Act.put, lzA, lzB, lzC]
                  refine wpAnyH_take (i := 28) (oi := ⟨_, _, _, _, _, _⟩) (v := .pointer (some ⟨g, off + m * 16, none⟩)) rfl (by kernel_rfl) (by kernel_rfl) (by kernel_rfl) (fun _ _ _ h => h) (yl_bxAt (by rfl) _ _ rfl g (off) _ _ (m) rfl rfl (hlt)) (by assumption) ?_
                  simp only [Act.put, lzA, lzB, lzC]
                  refine wpAnyH_take (i := 29) (oi := ⟨_, _, _, _, _, _⟩) (v := BxC.val (cs.getD m bc0)) rfl (by kernel_rfl) (by kernel_rfl) (by kernel_rfl) (fun _ _ _ h => h) (yl_bx (by rfl) _ rfl _ _ rfl _ (fun _ h => h.1)) (by assumption) ?_
                  simp only [Act.put, lzA, lzB, lzC]
                  refine held_call (o := ⟨_, _, _, _, _, _⟩) 30 (by kernel_rfl) rfl (by rfl) 46 _ _ rfl #[BxC.val (cs.getD k bc0), BxC.val (cs.getD m bc0)] rfl (run_call Tryz.func46 (by kernel_rfl) (by kernel_rfl)) ?_
                  refine (refInBx_any _ _ (l.getD k zBox) (l.getD m zBox) _ (hbk.on D) (hbm.on D) fk fm).mono ?_
                  rintro r v4 ⟨rfl, kb⟩
                  replace D := D.trans (kb.mono D.size)
                  replace hown := hown.on kb
                  replace HC := HC.on kb
                  replace HC2 := HC2.on kb
                  clear kb
                  clear hHeld
                  cases h2 : inBx (l.getD k zBox) (l.getD m zBox)
                  · refine ⟨.bool false, rfl, ⟨HC, HC2⟩, fun hHeld => ?_⟩
                    simp only [Act.put, lzA, lzB, lzC]
                    refine wpAnyH_take (i := 31) (oi := ⟨_, _, _, _, _, _⟩) (v := .bool true) rfl (by kernel_rfl) (by kernel_rfl) (by kernel_rfl) (fun _ _ _ h => h) (yl_not (by rfl) _ _ rfl false rfl) (by assumption) ?_
                    simp only [Act.put, lzA, lzB, lzC]
                    refine wpAnyH_take (i := 32) (oi := ⟨_, _, _, _, _, _⟩) (v := .bool true) rfl (by kernel_rfl) (by kernel_rfl) (by kernel_rfl) (fun _ _ _ h => h) (yl_pickF (by rfl) _ _ _ rfl rfl _ rfl) (by assumption) ?_
                    simp only [Act.put, lzA, lzB, lzC]
                    refine wpAnyH_take (i := 33) (oi := ⟨_, _, _, _, _, _⟩) (v := .bool true) rfl (by kernel_rfl) (by kernel_rfl) (by kernel_rfl) (fun _ _ _ h => h) (yl_pickT (by rfl) _ _ _ rfl rfl _ rfl) (by assumption) ?_
                    simp only [Act.put, lzA, lzB, lzC]
                    refine wpAnyH_done (by kernel_rfl) ?_ _
                    clear hHeld
                    refine hK14 _ _ ?_
                    clear hK14 K14
                    refine wp_cond_true rfl ?_
                    refine wp_region_lit ?_
                    refine wl_yield (o := ⟨_, _, _, _, _, _⟩) (.bool false) (yl_assign (by rfl) _ rfl _ rfl) ?_
                    simp only [Act.put, lzA, lzB, lzC]
                    refine wpList_nil ?_
                    refine hK13 _ _ ?_
                    clear hK13 K13
                    refine wp_region_lit ?_
                    refine wl_yield (o := ⟨_, _, _, _, _, _⟩) (.int .i64 (k : Nat)) (yl_move (by rfl) _ rfl _ rfl) ?_
                    simp only [Act.put, lzA, lzB, lzC]
                    refine wl_yield (o := ⟨_, _, _, _, _, _⟩) (.int .i64 (k + 1 : Nat)) (yl_addI (by rfl) _ _ _ rfl (((k : Nat) : Int)) (1) (((k + 1 : Nat) : Int)) rfl rfl (by omega) (by omega) (by omega)) ?_
                    simp only [Act.put, lzA, lzB, lzC]
                    refine wl_yield (o := ⟨_, _, _, _, _, _⟩) (.int .i64 (k + 1 : Nat)) (yl_assign (by rfl) _ rfl _ rfl) ?_
                    simp only [Act.put, lzA, lzB, lzC]
                    refine wpList_nil ?_
                    show _ ∧ _
                    go_roundw
                    case rel => exact ⟨k + 1, false, rfl, rfl, by omega, keep_next hKK (by rw [better_is (p := true) (q := false) (r := false) hki h1 (decide_eq_false hlow) (Or.inr (Or.inr h2))]; rfl), hown, HC, D⟩
                    case measure => simp [intOf]; omega
                  · refine ⟨.bool true, rfl, ⟨HC, HC2⟩, fun hHeld => ?_⟩
                    simp only [Act.put, lzA, lzB, lzC]
                    refine wpAnyH_take (i := 31) (oi := ⟨_, _, _, _, _, _⟩) (v := .bool false) rfl (by kernel_rfl) (by kernel_rfl) (by kernel_rfl) (fun _ _ _ h => h) (yl_not (by rfl) _ _ rfl true rfl) (by assumption) ?_
                    simp only [Act.put, lzA, lzB, lzC]
                    refine wpAnyH_take (i := 32) (oi := ⟨_, _, _, _, _, _⟩) (v := .bool false) rfl (by kernel_rfl) (by kernel_rfl) (by kernel_rfl) (fun _ _ _ h => h) (yl_pickF (by rfl) _ _ _ rfl rfl _ rfl) (by assumption) ?_
                    simp only [Act.put, lzA, lzB, lzC]
                    refine wpAnyH_take (i := 33) (oi := ⟨_, _, _, _, _, _⟩) (v := .bool false) rfl (by kernel_rfl) (by kernel_rfl) (by kernel_rfl) (fun _ _ _ h => h) (yl_pickT (by rfl) _ _ _ rfl rfl _ rfl) (by assumption) ?_
                    simp only [Act.put, lzA, lzB, lzC]
                    refine wpAnyH_done (by kernel_rfl) ?_ _
                    clear hHeld
                    refine hK14 _ _ ?_
                    clear hK14 K14
                    refine wp_cond_false rfl ?_
                    refine wp_skip ?_
                    refine hK13 _ _ ?_
                    clear hK13 K13
                    refine wp_region_lit ?_
                    refine wl_yield (o := ⟨_, _, _, _, _, _⟩) (.int .i64 (k : Nat)) (yl_move (by rfl) _ rfl _ rfl) ?_
                    simp only [Act.put, lzA, lzB, lzC]
                    refine wl_yield (o := ⟨_, _, _, _, _, _⟩) (.int .i64 (k + 1 : Nat)) (yl_addI (by rfl) _ _ _ rfl (((k : Nat) : Int)) (1) (((k + 1 : Nat) : Int)) rfl rfl (by omega) (by omega) (by omega)) ?_
                    simp only [Act.put, lzA, lzB, lzC]
                    refine wl_yield (o := ⟨_, _, _, _, _, _⟩) (.int .i64 (k + 1 : Nat)) (yl_assign (by rfl) _ rfl _ rfl) ?_
                    simp only [Act.put, lzA, lzB, lzC]
                    refine wpList_nil ?_
                    show _ ∧ _
                    go_roundw
                    case rel => exact ⟨k + 1, true, rfl, rfl, by omega, keep_next hKK (by rw [better_is (p := true) (q := false) (r := true) hki h1 (decide_eq_false hlow) (Or.inr (Or.inr h2))]; rfl), hown, HC, D⟩
                    case measure => simp [intOf]; omega
        · have hkk : k = cs.length := by omega
          cases KK
          · refine wp_seq_k (fun K11 hK11 => ?_)
            refine wp_seq_k (fun K12 hK12 => ?_)
            refine wp_region_lit ?_
            refine wl_yield (o := ⟨_, _, _, _, _, _⟩) (.int .i64 (k : Nat)) (yl_move (by rfl) _ rfl _ rfl) ?_
            simp only [Act.put, lzA, lzB, lzC]
            refine wl_yield (o := ⟨_, _, _, _, _, _⟩) (.slice (some ⟨g, off, none⟩) cs.length cp) (yl_move (by rfl) _ rfl _ rfl) ?_
            simp only [Act.put, lzA, lzB, lzC]
            refine wl_yield (o := ⟨_, _, _, _, _, _⟩) (.int .i64 (cs.length : Nat)) (yl_lenB (by rfl) _ rfl _ _ _ rfl) ?_
            simp only [Act.put, lzA, lzB, lzC]
            refine wl_yield (o := ⟨_, _, _, _, _, _⟩) (.bool false) (yl_lssI (by rfl) _ _ _ rfl (((k : Nat) : Int)) (((cs.length : Nat) : Int)) false rfl rfl (decide_eq_false (by omega))) ?_
            simp only [Act.put, lzA, lzB, lzC]
            refine wpList_nil ?_
            refine hK12 _ _ ?_
            clear hK12 K12
            refine wp_cond_false rfl ?_
            refine wp_exit ?_
            refine hK9 _ _ ?_
            clear hK11 K11 hK9 K9
            refine wp_seq_k (fun K13 hK13 => ?_)
            refine wp_region_lit ?_
            refine wl_yield (o := ⟨_, _, _, _, _, _⟩) (.bool false) (yl_move (by rfl) _ rfl _ rfl) ?_
            simp only [Act.put, lzA, lzB, lzC]
            refine wpList_nil ?_
            refine hK13 _ _ ?_
            clear hK13 K13
            refine wp_cond_false rfl ?_
            refine wp_skip ?_
            refine hK7 _ _ ?_
            clear hK7 K7
            refine wp_region_lit ?_
            refine wl_yield (o := ⟨_, _, _, _, _, _⟩) (.int .i64 (m : Nat)) (yl_move (by rfl) _ rfl _ rfl) ?_
            simp only [Act.put, lzA, lzB, lzC]
            refine wl_yield (o := ⟨_, _, _, _, _, _⟩) (.int .i64 (m + 1 : Nat)) (yl_addI (by rfl) _ _ _ rfl (((m : Nat) : Int)) (1) (((m + 1 : Nat) : Int)) rfl rfl (by omega) (by omega) (by omega)) ?_
            simp only [Act.put, lzA, lzB, lzC]
            refine wl_yield (o := ⟨_, _, _, _, _, _⟩) (.int .i64 (m + 1 : Nat)) (yl_assign (by rfl) _ rfl _ rfl) ?_
            simp only [Act.put, lzA, lzB, lzC]
            refine wpList_nil ?_
            show _ ∧ _
            go_roundw
            case rel => exact ⟨m + 1, _, rfl, by omega, hown, by rw [tidyK_no (by unfold keepL; rw [← hcl, ← hkk]; exact hKK.symm)]; exact hA, D⟩
            case measure => simp [intOf]; omega
          · refine wp_seq_k (fun K11 hK11 => ?_)
            refine wp_seq_k (fun K12 hK12 => ?_)
            refine wp_region_lit ?_
            refine wl_yield (o := ⟨_, _, _, _, _, _⟩) (.int .i64 (k : Nat)) (yl_move (by rfl) _ rfl _ rfl) ?_
            simp only [Act.put, lzA, lzB, lzC]
            refine wl_yield (o := ⟨_, _, _, _, _, _⟩) (.slice (some ⟨g, off, none⟩) cs.length cp) (yl_move (by rfl) _ rfl _ rfl) ?_
            simp only [Act.put, lzA, lzB, lzC]
            refine wl_yield (o := ⟨_, _, _, _, _, _⟩) (.int .i64 (cs.length : Nat)) (yl_lenB (by rfl) _ rfl _ _ _ rfl) ?_
            simp only [Act.put, lzA, lzB, lzC]
            refine wl_yield (o := ⟨_, _, _, _, _, _⟩) (.bool false) (yl_lssI (by rfl) _ _ _ rfl (((k : Nat) : Int)) (((cs.length : Nat) : Int)) false rfl rfl (decide_eq_false (by omega))) ?_
            simp only [Act.put, lzA, lzB, lzC]
            refine wpList_nil ?_
            refine hK12 _ _ ?_
            clear hK12 K12
            refine wp_cond_false rfl ?_
            refine wp_exit ?_
            refine hK9 _ _ ?_
            clear hK11 K11 hK9 K9
            refine wp_seq_k (fun K13 hK13 => ?_)
            refine wp_region_lit ?_
            refine wl_yield (o := ⟨_, _, _, _, _, _⟩) (.bool true) (yl_move (by rfl) _ rfl _ rfl) ?_
            simp only [Act.put, lzA, lzB, lzC]
            refine wpList_nil ?_
            refine hK13 _ _ ?_
            clear hK13 K13
            refine wp_cond_true rfl ?_
            refine wp_region_lit ?_
            refine wl_yield (o := ⟨_, _, _, _, _, _⟩) (u3) (yl_move (by rfl) _ rfl _ rfl) ?_
            simp only [Act.put, lzA, lzB, lzC]
            refine wl_yield (o := ⟨_, _, _, _, _, _⟩) (.slice (some ⟨g, off, none⟩) cs.length cp) (yl_move (by rfl) _ rfl _ rfl) ?_
            simp only [Act.put, lzA, lzB, lzC]
            refine wl_yield (o := ⟨_, _, _, _, _, _⟩) (.int .i64 (m : Nat)) (yl_move (by rfl) _ rfl _ rfl) ?_
            simp only [Act.put, lzA, lzB, lzC]
            refine wl_yield (o := ⟨_, _, _, _, _, _⟩) (.pointer (some ⟨g, off + m * 16, none⟩)) (yl_bxAt (by rfl) _ _ rfl g (off) _ _ (m) rfl rfl (hlt)) ?_
            simp only [Act.put, lzA, lzB, lzC]
            refine wl_yield (o := ⟨_, _, _, _, _, _⟩) (BxC.val (cs.getD m bc0)) (yl_bx (by rfl) _ rfl _ _ rfl _ (fun _ h => by subst h; exact HC)) ?_
            simp only [Act.put, lzA, lzB, lzC]
            refine wl_rowB1 (o := ⟨_, _, _, _, _, _⟩) (by rfl) _ rfl rfl (fun v2 gb2 hggb2 IO65 kb => ?_)
            simp only [Act.put, lzA, lzB, lzC]
            replace D := D.trans (kb.mono D.size)
            replace hown := hown.on kb
            replace HC := HC.on kb
            clear kb
            refine wl_appB (o := ⟨_, _, _, _, _, _⟩) (by rfl) _ _ rfl w.heap.size u3 ks rfl hown gb2 (cs.getD m bc0) rfl IO65 hks D.size (fun u9 v3 hown3 kb hs3 => ?_)
            simp only [Act.put, lzA, lzB, lzC]
            replace D := D.trans kb
            replace hown := hown3
            clear hown3 kb hs3
            refine wl_yield (o := ⟨_, _, _, _, _, _⟩) (u9) (yl_assign (by rfl) _ rfl _ rfl) ?_
            simp only [Act.put, lzA, lzB, lzC]
            refine wpList_nil ?_
            refine hK7 _ _ ?_
            clear hK7 K7
            refine wp_region_lit ?_
            refine wl_yield (o := ⟨_, _, _, _, _, _⟩) (.int .i64 (m : Nat)) (yl_move (by rfl) _ rfl _ rfl) ?_
            simp only [Act.put, lzA, lzB, lzC]
            refine wl_yield (o := ⟨_, _, _, _, _, _⟩) (.int .i64 (m + 1 : Nat)) (yl_addI (by rfl) _ _ _ rfl (((m : Nat) : Int)) (1) (((m + 1 : Nat) : Int)) rfl rfl (by omega) (by omega) (by omega)) ?_
            simp only [Act.put, lzA, lzB, lzC]
            refine wl_yield (o := ⟨_, _, _, _, _, _⟩) (.int .i64 (m + 1 : Nat)) (yl_assign (by rfl) _ rfl _ rfl) ?_
            simp only [Act.put, lzA, lzB, lzC]
            refine wpList_nil ?_
            show _ ∧ _
            go_roundw
            case rel => exact ⟨m + 1, _, rfl, by omega, hown, by rw [tidyK_yes (by unfold keepL; rw [← hcl, ← hkk]; exact hKK.symm)]; exact allBx_snoc hA hbm, D⟩
            case measure => simp [intOf]; omega
    · refine wp_seq_k (fun K5 hK5 => ?_)
      refine wp_seq_k (fun K6 hK6 => ?_)
      refine wp_region_lit ?_
      refine wl_yield (o := ⟨_, _, _, _, _, _⟩) (.int .i64 (m : Nat)) (yl_move (by rfl) _ rfl _ rfl) ?_
      simp only [Act.put, lzA, lzB, lzC]
      refine wl_yield (o := ⟨_, _, _, _, _, _⟩) (.slice q cs.length cp) (yl_move (by rfl) _ rfl _ rfl) ?_
      simp only [Act.put, lzA, lzB, lzC]
      refine wl_yield (o := ⟨_, _, _, _, _, _⟩) (.int .i64 (cs.length : Nat)) (yl_lenB (by rfl) _ rfl _ _ _ rfl) ?_
      simp only [Act.put, lzA, lzB, lzC]
      refine wl_yield (o := ⟨_, _, _, _, _, _⟩) (.bool false) (yl_lssI (by rfl) _ _ _ rfl (((m : Nat) : Int)) (((cs.length : Nat) : Int)) false rfl rfl (decide_eq_false (by omega))) ?_
      simp only [Act.put, lzA, lzB, lzC]
      refine wpList_nil ?_
      refine hK6 _ _ ?_
      clear hK6 K6
      refine wp_cond_false rfl ?_
      refine wp_exit ?_
      refine hK3 _ _ ?_
      clear hK5 K5 hK3 K3
      refine wp_seq_k (fun K7 hK7 => ?_)
      refine wp_region_lit ?_
      refine wl_yield (o := ⟨_, _, _, _, _, _⟩) (u3) (yl_move (by rfl) _ rfl _ rfl) ?_
      simp only [Act.put, lzA, lzB, lzC]
      refine wl_yield (o := ⟨_, _, _, _, _, _⟩) (u3) (yl_assign (by rfl) _ rfl _ rfl) ?_
      simp only [Act.put, lzA, lzB, lzC]
      refine wpList_nil ?_
      refine hK7 _ _ ?_
      clear hK7 K7
      refine wp_ret ?_
      go_ret
      have em : m = l.length := by omega
      rw [em] at hA
      exact ⟨⟨_, ks, rfl, hown, hA.on D⟩, D⟩
end Go.Proofs.YtbaijjclofekcaaGreatDoor
namespace Go.Proofs.YtbaijjclofekcaaGreatDoor
open Go.ChangeShapes Go.WideShapes Go.ChangeAt Go.WideMaps Go.WideElems Go.RowKit Go.Joins
theorem cellsVal : Tryz.prog.cellsOf 24 = 3 := by kernel_rfl
section
variable {H : Type} {enc : TypeId × Value → H} {W : World} {base : Nat} {sp : Nat → Bool} {held : Bool}
end
section
variable {H : Type} {enc : TypeId × Value → H} {W : World}
end
end Go.Proofs.YtbaijjclofekcaaGreatDoor
namespace Go.Proofs.YtbaijjclofekcaaGreatDoor
open Go.Deep Go.ChangeShapes Go.WideShapes Go.ChangeAt Go.WideMaps Go.WideElems Go.RowKit Go.Joins
theorem cut3 {α : Type} (k : Nat) {l : List α} (h : l.length = k + 3) : ∃ a b c r, l = a :: b :: c :: r ∧ r.length = k := by
  cases l with
  | nil => simp at h
  | cons a l => cases l with
    | nil => simp at h
    | cons b l => cases l with
      | nil => simp at h
      | cons c l => exact ⟨a, b, c, l, rfl, by simpa using h⟩
theorem okWide_array {P : Program} {w : World} {r : Reach} {base : Nat} {t : TypeId} {v : Value} {n : Nat} {e : TypeId} (ht : P.underlying t = some (.array n e)) (h : Value.okWide P w r base t v) : ∃ cs, v = .agg cs ∧ cs.size = P.cellsOf t := by
  simp only [Value.okWide, ht] at h
  obtain ⟨cs, h1, h2, _⟩ := h
  exact ⟨cs, h1, h2⟩
theorem cellsEv : Tryz.prog.cellsOf 26 = 12 := by kernel_rfl
section
variable {H : Type} {enc : TypeId × Value → H} {W : World}
set_option maxRecDepth 100000 in
theorem open_cells {m : Nat} {c0 c1 c2 : Value} {y : DataW H × List MemPlace} (h : DataW.trod enc Tryz.prog W 0 (fun _ => true) true m 24 [c0, c1, c2] = some y) :
    ∃ (k n : Int) (s : ByteArray), c0 = .int .i64 k ∧ c1 = .int .i64 n ∧ c2 = .string s ∧ (Lit.int .i64 n).wf = true ∧ s.size ≤ maxLen := by
  obtain ⟨y0, y1, y2, m', rfl, _, h0, h1, h2⟩ := trod_struct3 Tryz.underlying24 h
  simp only [cellsI, cellsS] at h0 h1 h2
  obtain ⟨k, e0, rfl, wk⟩ := DataW.trod_int Tryz.underlying3 h0
  obtain ⟨n, e1, rfl, wn⟩ := DataW.trod_int Tryz.underlying3 h1
  obtain ⟨s, e2, rfl, ws⟩ := DataW.trod_string Tryz.underlying9 h2
  simp at e0 e1 e2
  subst e0 e1 e2
  exact ⟨k, n, s, rfl, rfl, rfl, wn, ws⟩
set_option maxRecDepth 100000 in
theorem open_evA {r : Reach} {b0 : Nat} {v : Value} {d : DataW H} {p : List MemPlace} (hv : Value.okWide Tryz.prog W r b0 26 v) (h : DataW.Trod enc Tryz.prog W 0 (fun _ => true) true 26 v d p) :
    ∃ e : EvV, v = evVal e ∧ evFit e ∧ inE e := by
  obtain ⟨cs, rfl, hsz⟩ := okWide_array Tryz.underlying26 hv
  rw [cellsEv] at hsz
  obtain ⟨l⟩ := cs
  obtain ⟨a0, a1, a2, l1, rfl, q1⟩ := cut3 9 (show l.length = 9 + 3 from hsz)
  obtain ⟨b0, b1, b2, l2, rfl, q2⟩ := cut3 6 q1
  obtain ⟨c0, c1, c2, l3, rfl, q3⟩ := cut3 3 q2
  obtain ⟨d0, d1, d2, l4, rfl, q4⟩ := cut3 0 q3
  obtain rfl : l4 = [] := List.length_eq_zero_iff.1 q4
  obtain ⟨fuel, hf⟩ := h
  obtain ⟨xs, m, _, hx, _, hlen, he⟩ := DataW.trod_array Tryz.underlying26 hf
  simp only [cellsVal, Value.cells] at he
  have g0 := he 0 (by omega)
  have g1 := he 1 (by omega)
  have g2 := he 2 (by omega)
  have g3 := he 3 (by omega)
  match xs, hlen with
  | [y0, y1, y2, y3], _ =>
    simp at g0 g1 g2 g3
    obtain ⟨k0, n0, s0, rfl, rfl, rfl, w1, w2⟩ := open_cells g0
    obtain ⟨k1, n1, s1, rfl, rfl, rfl, w4, w5⟩ := open_cells g1
    obtain ⟨k2, n2, s2, rfl, rfl, rfl, w7, w8⟩ := open_cells g2
    obtain ⟨k3, n3, s3, rfl, rfl, rfl, w10, w11⟩ := open_cells g3
    refine ⟨⟨(k0, n0, s0), (k1, n1, s1), (k2, n2, s2), (k3, n3, s3)⟩, rfl, ⟨w2, w5, w8, w11⟩, fun i hi => ?_⟩
    match i, hi with
    | 0, _ => exact bounds_i64 w1
    | 1, _ => exact bounds_i64 w4
    | 2, _ => exact bounds_i64 w7
    | 3, _ => exact bounds_i64 w10
end
end Go.Proofs.YtbaijjclofekcaaGreatDoor
namespace Go.Proofs.YtbaijjclofekcaaGreatDoor
open Go.Deep Go.ChangeShapes Go.WideShapes Go.ChangeAt Go.WideMaps Go.WideElems Go.RowKit Go.Joins
theorem cut4 {α : Type} (k : Nat) {l : List α} (h : l.length = k + 4) : ∃ a b c d r, l = a :: b :: c :: d :: r ∧ r.length = k := by
  obtain ⟨a, b, c, r, rfl, hr⟩ := cut3 (k + 1) (l := l) (by omega)
  cases r with
  | nil => simp at hr
  | cons d r => exact ⟨a, b, c, d, r, rfl, by simpa using hr⟩
theorem cellsBx : Tryz.prog.cellsOf 50 = 16 := by kernel_rfl
section
variable {H : Type} {enc : TypeId × Value → H} {W : World}
end
end Go.Proofs.YtbaijjclofekcaaGreatDoor
namespace Go.Proofs.YtbaijjclofekcaaGreatDoor
open Go.RowKit
section
variable {ops : Array Oper} {S : World → Prop} {o : Oper} {a : Act}
end
theorem few_len9 {S : SetV} (h : fewB S = true) : S.ints.length ≤ 40 ∧ S.strs.length ≤ 40 := by
  unfold fewB at h
  simp only [Bool.and_eq_true, decide_eq_true_eq] at h
  exact ⟨by omega, by omega⟩
end Go.Proofs.YtbaijjclofekcaaGreatDoor
namespace Go.Proofs.YtbaijjclofekcaaGreatDoor
open Go.Deep Go.ChangeShapes Go.WideShapes Go.ChangeAt Go.WideMaps Go.WideElems Go.RowKit Go.Joins
section
variable {H : Type} {enc : TypeId × Value → H} {W : World}
end
end Go.Proofs.YtbaijjclofekcaaGreatDoor
namespace Go.Proofs.YtbaijjclofekcaaGreatDoor
open Go.RowKit
section
variable {ops : Array Oper} {Q : Exit → Act → World → Prop} {o : Oper} {a : Act}
end
theorem ScRow.below {w w' : World} {v : Value} {cs : List SC} (h : ScRow w v cs) (hb : Below w.heap.size w w') : ScRow w' v cs := h.on hb
theorem fewC_all {l : List SetV} (h : l.all fewB = true) (h2 : l.length ≤ 15) : FewC l := fewC_of (fun S hS => by have := few_len9 (List.all_eq_true.1 h S hS); omega) h2
theorem isE (sl : List UInt8) : (bs sl).toList.isEmpty = decide (sl = []) := by rw [bs_toList]; cases sl <;> rfl
end Go.Proofs.YtbaijjclofekcaaGreatDoor
namespace Go.Proofs.YtbaijjclofekcaaGreatDoor
open Go.RowKit
end Go.Proofs.YtbaijjclofekcaaGreatDoor
namespace Go.Proofs.YtbaijjclofekcaaGreatDoor
open Go.RowKit
section
variable {ops : Array Oper} {Q : Exit → Act → World → Prop} {o : Oper} {a : Act} {i : Nat} {K : Act → World → Prop}
theorem ot_row1Q {w : World} (hi : ops[i]? = some o) (hw : Region.wanted o (yielded ops a.tmps) = true) (x : Operand) (ho : o.op = .buildSlice 31 1 #[(0, x)]) (d : SC) (hx : a.eval x = d.val)
    (h : ∀ W g, w.heap.size ≤ g → StIn W g d → Below w.heap.size w W → K (a.put o.dst (.slice (some ⟨g, 0, none⟩) 1 1)) W) : wpOp Tryz.prog ops Q i K a w :=
  ot_run hi hw _ _ (rn_row1Q a x ho d hx) (h _ _ (Nat.le_refl _) (heap_new _ _) ((Below.refl _ w).alloc (Nat.le_refl _) _))
end
theorem OwnT.below {w w' : World} {B : Nat} {v : Value} {l : List SC} (h : OwnT w B v l) (hB : B ≤ w.heap.size) (k : w.grownBy w' v.ownBlock) : Below B w w' := (Below.refl _ _).grown k hB (fun i hi => (World.ownsRow.lt h i hi).1)
end Go.Proofs.YtbaijjclofekcaaGreatDoor
namespace Go.Proofs.YtbaijjclofekcaaGreatDoor
open Go.RowKit
end Go.Proofs.YtbaijjclofekcaaGreatDoor
namespace Go.Proofs.YtbaijjclofekcaaGreatDoor
open Go.Deep Go.ChangeShapes Go.WideShapes Go.ChangeAt Go.WideMaps Go.WideElems Go.RowKit Go.Joins
section
variable {H : Type} {enc : TypeId × Value → H} {W : World}
set_option maxRecDepth 100000 in
theorem open_boxc {fuel : Nat} {cs : List Value} {z : DataW H × List MemPlace} (hl : cs.length = 16) (hf : DataW.trod enc Tryz.prog W 0 (fun _ => true) true fuel 50 cs = some z) : ∃ (c : BxC) (b : BoxV), cs = c.list ∧ BoxAt W c.val b := by
  obtain ⟨a0, a1, a2, a3, l1, rfl, q1⟩ := cut4 12 (show cs.length = 12 + 4 from hl)
  obtain ⟨b0, b1, b2, b3, l2, rfl, q2⟩ := cut4 8 q1
  obtain ⟨c0, c1, c2, c3, l3, rfl, q3⟩ := cut4 4 q2
  obtain ⟨d0, d1, d2, d3, l4, rfl, q4⟩ := cut4 0 q3
  obtain rfl : l4 = [] := List.length_eq_zero_iff.1 q4
  obtain ⟨xs, m, _, hx, _, hlen, he⟩ := DataW.trod_array Tryz.underlying50 hf
  simp only [cellsSet] at he
  have g0 := he 0 (by omega)
  have g1 := he 1 (by omega)
  have g2 := he 2 (by omega)
  have g3 := he 3 (by omega)
  match xs, hlen with
  | [y0, y1, y2, y3], _ =>
    simp at g0 g1 g2 g3
    obtain ⟨S0, h0⟩ := open_setc g0
    obtain ⟨S1, h1⟩ := open_setc g1
    obtain ⟨S2, h2⟩ := open_setc g2
    obtain ⟨S3, h3⟩ := open_setc g3
    obtain ⟨s0, e0⟩ := h0.sc
    obtain ⟨s1, e1⟩ := h1.sc
    obtain ⟨s2, e2⟩ := h2.sc
    obtain ⟨s3, e3⟩ := h3.sc
    rw [e0] at h0
    rw [e1] at h1
    rw [e2] at h2
    rw [e3] at h3
    unfold SC.val at e0 e1 e2 e3
    simp at e0 e1 e2 e3
    obtain ⟨rfl, rfl, rfl, rfl⟩ := e0
    obtain ⟨rfl, rfl, rfl, rfl⟩ := e1
    obtain ⟨rfl, rfl, rfl, rfl⟩ := e2
    obtain ⟨rfl, rfl, rfl, rfl⟩ := e3
    exact ⟨⟨s0, s1, s2, s3⟩, ⟨S0, S1, S2, S3⟩, rfl, boxAt_of h0 h1 h2 h3⟩
set_option maxRecDepth 100000 in
theorem open_boxesA {r : Reach} {b0 : Nat} {v : Value} {d : DataW H} {p : List MemPlace} (hv : Value.okWide Tryz.prog W r b0 22 v) (h : DataW.Trod enc Tryz.prog W 0 (fun _ => true) true 22 v d p) :
    ∃ l : List BoxV, Bxs W v l ∧ nilOkQ v := by
  obtain ⟨a0, len0, cap0, rfl⟩ := Go.WideShapes.okWide_slice Tryz.underlying22 hv
  obtain ⟨fuel, hf⟩ := h
  rcases DataW.trod_slice Tryz.underlying22 hf with ⟨h0, _⟩ | ⟨a, len, cap, elems, rest, n', rfl, h0, _, hb, hlc, hm, hel, he, _, _⟩
  · simp [Value.cells] at h0
    obtain ⟨rfl, rfl, rfl⟩ := h0
    exact ⟨[], bxs_nil W, fun _ _ _ => rfl⟩
  · simp [Value.cells] at h0
    obtain ⟨rfl, rfl, rfl⟩ := h0
    have hone : ∀ i, i < len0 → ∃ cs' z, W.cells? 0 (a.add (i * 16)) 16 = some cs' ∧ DataW.trod enc Tryz.prog W 0 (fun _ => true) true n' 50 cs' = some z := fun i hi => by
      have h1 := he i hi
      rw [cellsBx, List.getElem?_eq_getElem (by omega), Option.bind_eq_some_iff] at h1
      obtain ⟨cs', h2, h3⟩ := h1
      exact ⟨cs', _, h2, h3⟩
    have hspot : 0 < len0 → a.spot = none := fun hpos => by
      obtain ⟨cs0, _, z1, _⟩ := hone 0 hpos
      obtain ⟨_, zl, zc⟩ := World.cells?_some z1
      have z0 := zc 0 (by omega)
      rw [List.getElem?_eq_getElem (by omega)] at z0
      simpa [Addr.add] using World.cell?_spot z0
    have hall : ∀ i, i < len0 → ∃ q : BxC × BoxV, W.rangeAt a.block (a.off + i * 16) q.1.list ∧ BoxAt W q.1.val q.2 := fun i hi => by
      obtain ⟨cs', z, h1, h2⟩ := hone i hi
      obtain ⟨_, zl, zc⟩ := World.cells?_some h1
      obtain ⟨c, b, hd, hx⟩ := open_boxc zl h2
      obtain ⟨bk, off, spot⟩ := a
      have hs : spot = none := hspot (by omega)
      subst hs hd
      have fj : ∀ j, ((Addr.mk bk off none).add (i * 16)).add j = ⟨bk, off + i * 16 + j, none⟩ := fun j => by rw [Go.Deep.add_add, Go.WideShapes.add_plain]; congr 1; omega
      refine ⟨(c, b), fun j u hu => ?_, hx⟩
      have hj : j < 16 := by
        have := (List.getElem?_eq_some_iff.1 hu).1
        rwa [BxC.list_len] at this
      have q := zc j hj
      rw [fj] at q
      exact q.trans hu
    have : Inhabited (BxC × BoxV) := ⟨(bc0, zBox)⟩
    obtain ⟨f, hf'⟩ := choose_lt hall
    refine ⟨(List.range len0).map fun i => (f i).2, ⟨(List.range len0).map fun i => (f i).1, ⟨by simp; unfold maxLen at hm; omega, some a, cap0, by simp, fun i hi => ?_⟩, by simp, fun i hi => ?_⟩, fun n c e => by cases e⟩
    · simp at hi
      obtain ⟨q1, q2⟩ := hf' i hi
      have hsp := hspot (by omega)
      have hg : ((List.range len0).map fun i => (f i).1).getD i bc0 = (f i).1 := by
        rw [List.getD_eq_getElem?_getD, List.getElem?_map, List.getElem?_range hi]
        rfl
      rw [hg]
      refine ⟨a.block, a.off, by rw [← hsp], ?_, q1⟩
      have := q1 0 _ (List.getElem?_eq_getElem (by rw [BxC.list_len]; omega))
      exact lt_cell (a := ⟨a.block, _, none⟩) this
    · simp at hi
      obtain ⟨q1, q2⟩ := hf' i hi
      have hg : ((List.range len0).map fun i => (f i).1).getD i bc0 = (f i).1 := by
        rw [List.getD_eq_getElem?_getD, List.getElem?_map, List.getElem?_range hi]
        rfl
      have hg2 : ((List.range len0).map fun i => (f i).2).getD i zBox = (f i).2 := by
        rw [List.getD_eq_getElem?_getD, List.getElem?_map, List.getElem?_range hi]
        rfl
      rw [hg, hg2]
      exact q2
end
theorem Bxs.boxesAt {w : World} {v : Value} {l : List BoxV} (h : Bxs w v l) : BoxesAt w v l := by
  obtain ⟨cs, ⟨h1, a, cap, rfl, hel⟩, hl, ha⟩ := h
  rw [hl] at h1 hel ⊢
  refine ⟨h1, a, cap, rfl, fun i hi => ?_⟩
  obtain ⟨g, off, rfl, hg, hr⟩ := hel i hi
  have hb := ha i hi
  obtain ⟨⟨h0, h1, h2, h3⟩, ⟨a0, a1, a2, a3⟩, ⟨b0, b1, b2, b3⟩, ⟨c0, c1, c2, c3⟩, d0, d1, d2, d3⟩ := sc_forms (s0 := (cs.getD i bc0).s0) (s1 := (cs.getD i bc0).s1) (s2 := (cs.getD i bc0).s2) (s3 := (cs.getD i bc0).s3) hb
  have e : l.getD i noBox = l.getD i zBox := rfl
  rw [e, ← a0, ← a2, ← b0, ← b2, ← c0, ← c2, ← d0, ← d2]
  exact ⟨g, off, _, _, _, _, _, _, _, _, rfl, hg, ⟨hr 0 _ rfl, hr 1 _ rfl, hr 2 _ rfl, hr 3 _ rfl, hr 4 _ rfl, hr 5 _ rfl, hr 6 _ rfl, hr 7 _ rfl, hr 8 _ rfl, hr 9 _ rfl, hr 10 _ rfl, hr 11 _ rfl, hr 12 _ rfl, hr 13 _ rfl, hr 14 _ rfl, hr 15 _ rfl⟩, h0, h1, h2, h3⟩
end Go.Proofs.YtbaijjclofekcaaGreatDoor
