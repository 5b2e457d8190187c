/-
  The program's read, at expressions and at events; Parse, ReadEvent.
-/
import Derived.Test.YtciflobdpenpaaaGreatDoorQ5
import Derived.Test.YtciflobdpenpaaaGreatDoorQ1
import Derived.Test.YtciflobdpenpaaaGreatDoorTie
import Derived.Test.YtciflobdpenpaaaGreatDoorCards
import Derived.ProofKit
import Derived.LaidMore
import Derived.OpenShut
import Derived.Stop.Joined
import Derived.Stop.LaidErr
import Derived.Lib.LaidTab
import Derived.Lib.SmallJoins
import Derived.Carry
import Derived.Test.YtciflobdpenpaaaGreatDoorQ2
import Derived.Deep.Strs
set_option linter.unusedSimpArgs false
set_option linter.unusedVariables false
namespace Go.Proofs.YtciflobdpenpaaaGreatDoor
open Go.RowKit

/-- What Parse answers. -/
def Parsed (m : Nat) (W : World) (l : List UInt8) (d : EC) (err : Int) : Prop :=
  match parseP l with
  | some x => err = 0 ∧ Lives m W fun w'' => ExAt (l.length + 9) w'' d.val x
  | none => err = 2 ∧ d = ec0
theorem Parsed.lt {m g : Nat} {W W' : World} {l : List UInt8} {d : EC} {err : Int} (h : Parsed m W l d err) (k : W.grownBy W' (some g)) (hg : g < m) : Parsed m W' l d err := by
  unfold Parsed at *
  split at h
  · exact ⟨h.1, h.2.lt k hg⟩
  · exact h
theorem Parsed.back {m m' : Nat} {W : World} {l : List UInt8} {d : EC} {err : Int} (h : Parsed m W l d err) (hm : m' ≤ m) : Parsed m' W l d err := by
  unfold Parsed at *
  split at h
  · exact ⟨h.1, h.2.back hm⟩
  · exact h
section
variable {ops : Array Oper} {Q : Exit → Act → World → Prop} {S : World → Prop} {o : Oper} {a : Act}
theorem wt_defer {rest : List Oper} {w : World} (hw : Region.wanted o (yielded ops a.tmps) = true) (x : Operand) (ts : Array TypeId) (ho : o.op = .defer { callee := .value x, args := #[], argTypes := ts }) (f : Nat) (caps : Array Value) (hx : a.eval x = .func (.func f) #[] caps)
    (h : wpList Tryz.prog ops Q rest ({ a with defers := { target := .fn (.func f) caps, args := #[] } :: a.defers }.put o.dst undef) w) : wpList Tryz.prog ops Q (o :: rest) a w := by
  unfold wpList
  rw [if_pos hw]
  left
  have hr : (execOp a.eval o).run Tryz.prog w = .ok (.defer { target := .fn (.func f) caps, args := #[] }) w := by
    simp [execOp, ho, resolve, hx, Deferred.ofValue]
  unfold Oper.wp
  rw [hr, Oper.upon_defer]
  exact h
set_option maxRecDepth 100000 in
/-- A new reader. -/
theorem wt_newRd {o2 : Oper} {rest : List Oper} {w : World} (hw : Region.wanted o (yielded ops a.tmps) = true) (x : Operand) (ho : o.op = .build 120 #[(0, x)]) (l : List UInt8) (hx : a.eval x = .string (bs l)) (y : Operand) (ho2 : o2.op = .box 120 y) (hw2 : ∀ v, Region.wanted o2 (yielded ops (a.put o.dst v).tmps) = true) (hy : ∀ v, (a.put o.dst v).eval y = v)
    (h : ∀ W g v, w.heap.size ≤ g → RdL W g l → Below w.heap.size w W → wpList Tryz.prog ops Q rest ((a.put o.dst v).put o2.dst (.pointer (some ⟨g, 0, none⟩))) W) : wpList Tryz.prog ops Q (o :: o2 :: rest) a w := by
  refine wl_run hw (.agg #[.string (bs l), .int .u32 0, .int .i32 0, .int .u32 0, .string ⟨#[]⟩, .string ⟨#[]⟩, .string ⟨#[]⟩, .string ⟨#[]⟩]) w ?_ ?_
  · simp only [execOp, ho, List.map_toArray, List.map_cons, List.map_nil, hx]
    go_simp
  · refine wl_run (hw2 _) (.pointer (some ⟨w.heap.size, 0, none⟩)) (w.alloc (freshRd (bs l))) ?_ (h _ _ _ (Nat.le_refl _) (Or.inl (heap_new _ _)) ((Below.refl _ w).alloc (Nat.le_refl _) _))
    simp only [execOp, ho2, hy, freshRd]
    go_simp
end
theorem results_cells2 {fn : Func} {p q : Tmp} {ty : TypeId} (h : fn.results = #[.cell p ty, .cell q 33]) (tmps : Array Value) (w : World) (g k : Nat) (cs : Array Value) (z : Int)
    (hp : tmps.getD p undef = .pointer (some ⟨g, 0, none⟩)) (hq : tmps.getD q undef = .pointer (some ⟨k, 0, none⟩)) (hk : w.heap[k]? = some (.cells #[.int .i64 z] 33 (0, 0)))
    (hv : (loadVar ty ⟨g, 0, none⟩).run Tryz.prog w = .ok (.agg cs) w) :
    (results fn tmps).run Tryz.prog w = .ok (.tuple #[.agg cs, .int .i64 z]) w := by
  have hp' : tmps[p]?.getD undef = .pointer (some ⟨g, 0, none⟩) := by simpa using hp
  have hq' : tmps[q]?.getD undef = .pointer (some ⟨k, 0, none⟩) := by simpa using hq
  have c0 := cell_heap hk 0
  have hl : (loadVar 33 ⟨k, 0, none⟩).run Tryz.prog w = .ok (.int .i64 z) w := by
    simp at c0
    go_simp
  simp [results, h, hp', hq', asAddr, hv, hl]
theorem parseP_no {l : List UInt8} (h : exL (l.length + 9) l = none) : parseP l = none := by unfold parseP; rw [h]
theorem parseP_yes {l r : List UInt8} {x : ExV} (h : exL (l.length + 9) l = some (x, r)) (h1 : (printR x).2 = 0) (h2 : (printR x).1 = l) : parseP l = some x := by
  unfold parseP
  rw [h]
  unfold printR at h1 h2
  split at h1
  · rename_i hr
    rw [if_pos hr] at h2
    split at h1
    · rename_i hl
      rw [if_pos hl] at h2
      exact if_pos ⟨hr, hl, h2⟩
    · cases h1
  · cases h1
theorem parseP_bad {l r : List UInt8} {x : ExV} (h : exL (l.length + 9) l = some (x, r)) (h1 : ¬ (printR x).2 = 0 ∨ ¬ (printR x).1 = l) : parseP l = none := by
  unfold parseP
  rw [h]
  dsimp only
  rw [if_neg]
  rintro ⟨hr, hl, ht⟩
  unfold printR at h1
  rw [if_pos hr, if_pos hl] at h1
  rcases h1 with h1 | h1
  · exact h1 rfl
  · exact h1 ht
/-- The event of a text: the program's way. -/
def parseE (l : List UInt8) : Option EvV :=
  match evL l with
  | none => none
  | some (e, _) => if rightE e = true ∧ evTxt e = l then some e else none
theorem parseE_no {l : List UInt8} (h : evL l = none) : parseE l = none := by unfold parseE; rw [h]
theorem parseE_yes {l r : List UInt8} {x : EvV} (h : evL l = some (x, r)) (h1 : (evR x).2 = 0) (h2 : (evR x).1 = l) : parseE l = some x := by
  unfold parseE
  rw [h]
  unfold evR at h1 h2
  split at h1
  · rename_i hr
    rw [if_pos hr] at h2
    exact if_pos ⟨hr, h2⟩
  · cases h1
theorem parseE_bad {l r : List UInt8} {x : EvV} (h : evL l = some (x, r)) (h1 : ¬ (evR x).2 = 0 ∨ ¬ (evR x).1 = l) : parseE l = none := by
  unfold parseE
  rw [h]
  dsimp only
  rw [if_neg]
  rintro ⟨hr, ht⟩
  unfold evR at h1
  rw [if_pos hr] at h1
  rcases h1 with h1 | h1
  · exact h1 rfl
  · exact h1 ht
/-- What an event is that was read: short strings, Go's numbers. -/
def okE (e : EvV) : Prop := evFit e ∧ inE e
theorem setAt_ok {e : EvV} {z : Int} {v : Va} (h : okE e) (hs : v.2.2.size ≤ 8) (hi : -9223372036854775808 ≤ v.2.1 ∧ v.2.1 ≤ 9223372036854775807) : okE (e.setAt z v) := by
  obtain ⟨⟨f0, f1, f2, f3⟩, hE⟩ := h
  have h8 : v.2.2.size ≤ maxLen := by unfold maxLen; omega
  have e0 := hE 0 (by omega)
  have e1 := hE 1 (by omega)
  have e2 := hE 2 (by omega)
  have e3 := hE 3 (by omega)
  unfold EvV.setAt
  split
  · exact ⟨⟨h8, f1, f2, f3⟩, fun i hi' => by match i, hi' with | 0, _ => exact hi | 1, _ => exact e1 | 2, _ => exact e2 | 3, _ => exact e3⟩
  · split
    · exact ⟨⟨f0, h8, f2, f3⟩, fun i hi' => by match i, hi' with | 0, _ => exact e0 | 1, _ => exact hi | 2, _ => exact e2 | 3, _ => exact e3⟩
    · split
      · exact ⟨⟨f0, f1, h8, f3⟩, fun i hi' => by match i, hi' with | 0, _ => exact e0 | 1, _ => exact e1 | 2, _ => exact hi | 3, _ => exact e3⟩
      · exact ⟨⟨f0, f1, f2, h8⟩, fun i hi' => by match i, hi' with | 0, _ => exact e0 | 1, _ => exact e1 | 2, _ => exact e2 | 3, _ => exact hi⟩
theorem valL_num {l r : List UInt8} {v : Va} (h : valL l = some (v, r)) : -9223372036854775808 ≤ v.2.1 ∧ v.2.1 ≤ 9223372036854775807 := by
  obtain ⟨h1, _, h3⟩ := valL_ok h
  by_cases k : v.1 = 1
  · exact h1 k
  · have : v.2.1 = 0 := by
      unfold rightB at h3
      split at h3
      · rw [Bool.and_eq_true, beq_iff_eq] at h3; exact h3.1
      · split at h3
        · rw [Bool.and_eq_true, beq_iff_eq] at h3; exact h3.1
        · cases h3
    omega
theorem evL_ok {l r : List UInt8} {x : EvV} (h : evL l = some (x, r)) : okE x := by
  unfold evL at h
  split at h
  · cases h
  · refine items_inv 125 evItemL okE (fun a l a' r h0 h => ?_) _ _ _ _ _ _ ⟨evZ_fit, fun i hi => by match i, hi with | 0, _ => decide | 1, _ => decide | 2, _ => decide | 3, _ => decide⟩ h
    unfold evItemL at h
    split at h
    · cases h
    · split at h
      · cases h
      · split at h
        · cases h
        · rename_i v q hv
          injection h with h; injection h with h _
          rw [← h]
          exact setAt_ok h0 (valL_ok hv).2.1 (valL_num hv)

set_option maxHeartbeats 1000000 in
set_option maxRecDepth 100000 in
theorem readX_any (l : List UInt8) (w : World) (HE : Env w) (hl : l.length ≤ 1024) :
    Calls Tryz.prog 42 #[.string (bs l), .func (.func 43) #[] #[], .func (.func 13) #[] #[]] w fun e w' => (∃ d err, e = .returned (.tuple #[EC.val d, .int .i64 err]) ∧ Parsed w.heap.size w' l d err) ∧ Below w.heap.size w w' := by
  have w6 : 6 ≤ w.heap.size := HE.big
  have D : w.grownBy w none := grown_refl _ _
  go_enter_defers Tryz.func42, Tryz.ntmps42
  refine wp_seq_k (fun K1 hK1 => ?_)
  refine wp_region_lit ?_
  refine wt_allocEx (o := ⟨_, _, _, _, _, _⟩) (by rfl) rfl (fun v1 g1 hg G1 kb => ?_)
  simp only [Act.put, List.setIfInBounds_toArray, List.set_cons_zero, List.set_cons_succ]
  have ge_g1 : w.heap.size ≤ g1 := Nat.le_trans D.size hg
  have six_g1 : 6 ≤ g1 := Nat.le_trans w6 ge_g1
  clear hg
  replace D := grown_below D kb
  replace HE := HE.on kb
  clear kb
  replace G1 : v1.heap[g1]? = some (.cells #[.int .i64 0, .int .i64 0, .bool false, .slice none 0 0, .bool false, .slice none 0 0, .slice none 0 0] 28 (0, 0)) := G1
  refine wt_allocE (o := ⟨_, _, _, _, _, _⟩) (by rfl) rfl (fun v2 g2 hg G2 kb => ?_)
  simp only [Act.put, List.setIfInBounds_toArray, List.set_cons_zero, List.set_cons_succ]
  have n_g1_g2 : g1 ≠ g2 := by have := lt_heap G1; omega
  have ge_g2 : w.heap.size ≤ g2 := Nat.le_trans D.size hg
  have six_g2 : 6 ≤ g2 := Nat.le_trans w6 ge_g2
  clear hg
  replace D := grown_below D kb
  replace HE := HE.on kb
  replace G1 := heap_on G1 kb
  clear kb
  replace G2 : v2.heap[g2]? = some (.cells #[.int .i64 0] 33 (0, 0)) := G2
  refine wpList_nil ?_
  refine hK1 _ _ ?_
  clear hK1 K1
  refine wp_seq_k (fun K2 hK2 => ?_)
  refine wp_region_lit ?_
  refine wl_yield (o := ⟨_, _, _, _, _, _⟩) (.func (.func 69) #[] #[.pointer (some ⟨g1, 0, none⟩), .pointer (some ⟨g2, 0, none⟩)]) (yt_fn2 (by rfl) _ _ _ rfl _ _ rfl rfl) ?_
  simp only [Act.put, List.setIfInBounds_toArray, List.set_cons_zero, List.set_cons_succ]
  refine wt_defer (o := ⟨_, _, _, _, _, _⟩) (by rfl) _ _ rfl 69 #[.pointer (some ⟨g1, 0, none⟩), .pointer (some ⟨g2, 0, none⟩)] rfl ?_
  simp only [Act.put, List.setIfInBounds_toArray, List.set_cons_zero, List.set_cons_succ]
  refine wpList_nil ?_
  refine hK2 _ _ ?_
  clear hK2 K2
  refine wp_seq_k (fun K3 hK3 => ?_)
  refine wp_region_lit ?_
  refine wl_yield (o := ⟨_, _, _, _, _, _⟩) (.func (.func 43) #[] #[]) (yl_move (by rfl) _ rfl _ rfl) ?_
  simp only [Act.put, List.setIfInBounds_toArray, List.set_cons_zero, List.set_cons_succ]
  refine wl_yield (o := ⟨_, _, _, _, _, _⟩) (.string (bs l)) (yl_move (by rfl) _ rfl _ rfl) ?_
  simp only [Act.put, List.setIfInBounds_toArray, List.set_cons_zero, List.set_cons_succ]
  refine wt_newRd (o := ⟨_, _, _, _, _, _⟩) (o2 := ⟨_, _, _, _, _, _⟩) (by rfl) _ rfl l rfl _ rfl (fun _ => rfl) (fun _ => rfl) (fun v3 g3 vr hg HR kb => ?_)
  simp only [Act.put, List.setIfInBounds_toArray, List.set_cons_zero, List.set_cons_succ]
  have n_g1_g3 : g1 ≠ g3 := by have := lt_heap G1; omega
  have n_g2_g3 : g2 ≠ g3 := by have := lt_heap G2; omega
  have ge_g3 : w.heap.size ≤ g3 := Nat.le_trans D.size hg
  have six_g3 : 6 ≤ g3 := Nat.le_trans w6 ge_g3
  clear hg
  replace D := grown_below D kb
  replace HE := HE.on kb
  replace G1 := heap_on G1 kb
  replace G2 := heap_on G2 kb
  clear kb
  refine wt_callv (o := ⟨_, _, _, _, _, _⟩) (by rfl) 43 _ _ _ rfl #[] rfl #[.pointer (some ⟨g3, 0, none⟩)] rfl (run_call Tryz.func43 (by kernel_rfl) (by kernel_rfl)) ?_
  refine (expr_all g3 100000 (Nat.le_refl _) (l.length + 9) l _ ⟨HE, six_g3, HR⟩ (by omega) (by omega)).mono ?_
  rintro r v4 (⟨x, r2, d, hx, rfl, LV, hr2, kg⟩ | ⟨hx, rfl, kg⟩)
  · have lt_g1 : g1 < v3.heap.size := lt_heap G1
    have lt_g2 : g2 < v3.heap.size := lt_heap G2
    have bs0 : w.heap.size ≤ v3.heap.size := D.size
    replace LV : Lives v3.heap.size v4 (fun w'' => ExAt (l.length + 9) w'' d.val x) := LV
    replace D := gr_new D ge_g3 kg
    replace HE := Env.gr HE kg six_g3
    replace G1 := heap_gr G1 kg n_g1_g3
    replace G2 := heap_gr G2 kg n_g2_g3
    clear kg
    refine Or.inl ⟨EC.val d, rfl, ?_⟩
    simp only [Act.put, List.setIfInBounds_toArray, List.set_cons_zero, List.set_cons_succ]
    refine wt_putEx (o := ⟨_, _, _, _, _, _⟩) rfl _ _ rfl _ rfl (d) rfl G1 rfl (fun v5 X kg => ?_)
    simp only [Act.put, List.setIfInBounds_toArray, List.set_cons_zero, List.set_cons_succ]
    replace D := gr_new D ge_g1 kg
    replace HE := Env.gr HE kg six_g1
    replace G2 := heap_gr G2 kg (Ne.symm n_g1_g2)
    replace LV := LV.lt kg lt_g1
    clear kg
    replace G1 : v5.heap[g1]? = some (.cells #[.int .i64 (d.k), .int .i64 (d.t), .bool (d.s.a), .slice d.s.p d.s.n d.s.c, .bool (d.s.d), .slice d.s.q d.s.m d.s.e, .slice d.p d.n d.c] 28 (0, 0)) := X
    clear X
    refine wpList_nil ?_
    refine hK3 _ _ ?_
    clear hK3 K3
    refine wp_seq_k (fun K4 hK4 => ?_)
    refine wp_seq_k (fun K5 hK5 => ?_)
    refine wp_region_lit ?_
    refine wl_yield (o := ⟨_, _, _, _, _, _⟩) (.func (.func 13) #[] #[]) (yl_move (by rfl) _ rfl _ rfl) ?_
    simp only [Act.put, List.setIfInBounds_toArray, List.set_cons_zero, List.set_cons_succ]
    refine wl_yield (o := ⟨_, _, _, _, _, _⟩) (EC.val d) (yl_ex (by rfl) _ rfl _ 0 rfl (c := ⟨d.k, d.t, ⟨d.s.a, d.s.p, d.s.n, d.s.c, d.s.d, d.s.q, d.s.m, d.s.e⟩, d.p, d.n, d.c⟩) (fun _ h => by subst h; exact ⟨cell_heap G1 0, cell_heap G1 1, cell_heap G1 2, cell_heap G1 3, cell_heap G1 4, cell_heap G1 5, cell_heap G1 6⟩)) ?_
    simp only [Act.put, List.setIfInBounds_toArray, List.set_cons_zero, List.set_cons_succ]
    refine wt_callv (o := ⟨_, _, _, _, _, _⟩) (by rfl) 13 _ _ _ rfl #[] rfl #[EC.val d] rfl (run_call Tryz.func13 (by kernel_rfl) (by kernel_rfl)) ?_
    refine (print_any (l.length + 9) d x _ HE (LV _ (Kept.refl _ _)) (by omega)).mono ?_
    rintro r v6 ⟨rfl, kb⟩
    replace D := grown_below D kb
    replace HE := HE.on kb
    replace G1 := heap_on G1 kb
    replace G2 := heap_on G2 kb
    replace LV := LV.on kb
    clear kb
    refine Or.inl ⟨.tuple #[.string (bs ((printR x).1)), .int .i64 ((printR x).2)], rfl, ?_⟩
    simp only [Act.put, List.setIfInBounds_toArray, List.set_cons_zero, List.set_cons_succ]
    refine wl_yield (o := ⟨_, _, _, _, _, _⟩) (.tuple #[.string (bs ((printR x).1)), .int .i64 ((printR x).2)]) (yl_move (by rfl) _ rfl _ rfl) ?_
    simp only [Act.put, List.setIfInBounds_toArray, List.set_cons_zero, List.set_cons_succ]
    refine wl_yield (o := ⟨_, _, _, _, _, _⟩) (.string (bs ((printR x).1))) (yl_extract0 (by rfl) _ rfl _ _ rfl) ?_
    simp only [Act.put, List.setIfInBounds_toArray, List.set_cons_zero, List.set_cons_succ]
    refine wl_yield (o := ⟨_, _, _, _, _, _⟩) (.int .i64 ((printR x).2)) (yl_extract1 (by rfl) _ rfl _ _ rfl) ?_
    simp only [Act.put, List.setIfInBounds_toArray, List.set_cons_zero, List.set_cons_succ]
    refine wl_yield (o := ⟨_, _, _, _, _, _⟩) (.string (bs ((printR x).1))) (yl_assign (by rfl) _ rfl _ rfl) ?_
    simp only [Act.put, List.setIfInBounds_toArray, List.set_cons_zero, List.set_cons_succ]
    refine wl_yield (o := ⟨_, _, _, _, _, _⟩) (.int .i64 ((printR x).2)) (yl_assign (by rfl) _ rfl _ rfl) ?_
    simp only [Act.put, List.setIfInBounds_toArray, List.set_cons_zero, List.set_cons_succ]
    refine wpList_nil ?_
    refine hK5 _ _ ?_
    clear hK5 K5
    refine wp_seq_k (fun K6 hK6 => ?_)
    by_cases hp0 : (printR x).2 = 0
    · by_cases hp1 : (printR x).1 = l
      · refine wp_region_lit ?_
        refine wl_yield (o := ⟨_, _, _, _, _, _⟩) (.int .i64 ((printR x).2)) (yl_move (by rfl) _ rfl _ rfl) ?_
        simp only [Act.put, List.setIfInBounds_toArray, List.set_cons_zero, List.set_cons_succ]
        refine wl_yield (o := ⟨_, _, _, _, _, _⟩) (.bool false) (yt_neqE (by rfl) _ _ _ rfl ((printR x).2) 0 false rfl rfl (decide_eq_false (by omega))) ?_
        simp only [Act.put, List.setIfInBounds_toArray, List.set_cons_zero, List.set_cons_succ]
        refine wl_yield (o := ⟨_, _, _, _, _, _⟩) (.bool false) (yl_move (by rfl) _ rfl _ rfl) ?_
        simp only [Act.put, List.setIfInBounds_toArray, List.set_cons_zero, List.set_cons_succ]
        refine wl_yield (o := ⟨_, _, _, _, _, _⟩) (.string (bs ((printR x).1))) (yl_move (by rfl) _ rfl _ rfl) ?_
        simp only [Act.put, List.setIfInBounds_toArray, List.set_cons_zero, List.set_cons_succ]
        refine wl_yield (o := ⟨_, _, _, _, _, _⟩) (.string (bs l)) (yl_move (by rfl) _ rfl _ rfl) ?_
        simp only [Act.put, List.setIfInBounds_toArray, List.set_cons_zero, List.set_cons_succ]
        refine wl_yield (o := ⟨_, _, _, _, _, _⟩) (.bool false) (yt_neqS (by rfl) _ _ _ rfl ((printR x).1) l false rfl rfl (by rw [hp1]; simp)) ?_
        simp only [Act.put, List.setIfInBounds_toArray, List.set_cons_zero, List.set_cons_succ]
        refine wl_yield (o := ⟨_, _, _, _, _, _⟩) (.bool false) (yl_pickF (by rfl) _ _ _ rfl rfl _ rfl) ?_
        simp only [Act.put, List.setIfInBounds_toArray, List.set_cons_zero, List.set_cons_succ]
        refine wpList_nil ?_
        refine hK6 _ _ ?_
        clear hK6 K6
        refine wp_cond_false rfl ?_
        refine wp_skip ?_
        refine hK4 _ _ ?_
        clear hK4 K4
        refine wp_seq_k (fun K7 hK7 => ?_)
        refine wp_region_lit ?_
        refine wl_yield (o := ⟨_, _, _, _, _, _⟩) (EC.val d) (yl_ex (by rfl) _ rfl _ 0 rfl (c := ⟨d.k, d.t, ⟨d.s.a, d.s.p, d.s.n, d.s.c, d.s.d, d.s.q, d.s.m, d.s.e⟩, d.p, d.n, d.c⟩) (fun _ h => by subst h; exact ⟨cell_heap G1 0, cell_heap G1 1, cell_heap G1 2, cell_heap G1 3, cell_heap G1 4, cell_heap G1 5, cell_heap G1 6⟩)) ?_
        simp only [Act.put, List.setIfInBounds_toArray, List.set_cons_zero, List.set_cons_succ]
        refine wt_putEx (o := ⟨_, _, _, _, _, _⟩) rfl _ _ rfl _ rfl (d) rfl G1 rfl (fun v7 X kg => ?_)
        simp only [Act.put, List.setIfInBounds_toArray, List.set_cons_zero, List.set_cons_succ]
        replace D := gr_new D ge_g1 kg
        replace HE := Env.gr HE kg six_g1
        replace G2 := heap_gr G2 kg (Ne.symm n_g1_g2)
        replace LV := LV.lt kg lt_g1
        clear kg
        replace G1 : v7.heap[g1]? = some (.cells #[.int .i64 (d.k), .int .i64 (d.t), .bool (d.s.a), .slice d.s.p d.s.n d.s.c, .bool (d.s.d), .slice d.s.q d.s.m d.s.e, .slice d.p d.n d.c] 28 (0, 0)) := X
        clear X
        refine wt_putE (o := ⟨_, _, _, _, _, _⟩) (by rfl) _ _ rfl _ 0 rfl 0 rfl G2 (by simp) (fun v8 X kg => ?_)
        simp only [Act.put, List.setIfInBounds_toArray, List.set_cons_zero, List.set_cons_succ]
        replace D := gr_new D ge_g2 kg
        replace HE := Env.gr HE kg six_g2
        replace G1 := heap_gr G1 kg n_g1_g2
        replace LV := LV.lt kg lt_g2
        clear kg
        replace G2 : v8.heap[g2]? = some (.cells #[.int .i64 0] 33 (0, 0)) := X
        clear X
        refine wpList_nil ?_
        refine hK7 _ _ ?_
        clear hK7 K7
        refine wp_ret ?_
        refine leaves_cons (f := 69) (args := #[.pointer (some ⟨g1, 0, none⟩), .pointer (some ⟨g2, 0, none⟩)]) (by simp) (by simp [go_sem]) ?_
        refine (recX_none g1 g2 _).mono ?_
        rintro r u W ⟨rfl, rfl, rfl⟩
        refine ⟨_, results_cells2 rfl _ _ g1 g2 _ 0 rfl rfl G2 (run_loadVar_row _ _ _ _ _ _ _ G1 Tryz.underlying28 rfl (by rw [infoEx]; rfl)), ⟨d, 0, rfl, by unfold Parsed; rw [parseP_yes hx hp0 hp1]; exact ⟨rfl, LV.back bs0⟩⟩, below_none D⟩
      · refine wp_region_lit ?_
        refine wl_yield (o := ⟨_, _, _, _, _, _⟩) (.int .i64 ((printR x).2)) (yl_move (by rfl) _ rfl _ rfl) ?_
        simp only [Act.put, List.setIfInBounds_toArray, List.set_cons_zero, List.set_cons_succ]
        refine wl_yield (o := ⟨_, _, _, _, _, _⟩) (.bool false) (yt_neqE (by rfl) _ _ _ rfl ((printR x).2) 0 false rfl rfl (decide_eq_false (by omega))) ?_
        simp only [Act.put, List.setIfInBounds_toArray, List.set_cons_zero, List.set_cons_succ]
        refine wl_yield (o := ⟨_, _, _, _, _, _⟩) (.bool false) (yl_move (by rfl) _ rfl _ rfl) ?_
        simp only [Act.put, List.setIfInBounds_toArray, List.set_cons_zero, List.set_cons_succ]
        refine wl_yield (o := ⟨_, _, _, _, _, _⟩) (.string (bs ((printR x).1))) (yl_move (by rfl) _ rfl _ rfl) ?_
        simp only [Act.put, List.setIfInBounds_toArray, List.set_cons_zero, List.set_cons_succ]
        refine wl_yield (o := ⟨_, _, _, _, _, _⟩) (.string (bs l)) (yl_move (by rfl) _ rfl _ rfl) ?_
        simp only [Act.put, List.setIfInBounds_toArray, List.set_cons_zero, List.set_cons_succ]
        refine wl_yield (o := ⟨_, _, _, _, _, _⟩) (.bool true) (yt_neqS (by rfl) _ _ _ rfl ((printR x).1) l true rfl rfl (by simpa using hp1)) ?_
        simp only [Act.put, List.setIfInBounds_toArray, List.set_cons_zero, List.set_cons_succ]
        refine wl_yield (o := ⟨_, _, _, _, _, _⟩) (.bool true) (yl_pickF (by rfl) _ _ _ rfl rfl _ rfl) ?_
        simp only [Act.put, List.setIfInBounds_toArray, List.set_cons_zero, List.set_cons_succ]
        refine wpList_nil ?_
        refine hK6 _ _ ?_
        clear hK6 K6
        refine wp_cond_true rfl ?_
        refine wp_region_lit ?_
        refine wl_yield (o := ⟨_, _, _, _, _, _⟩) (.iface 33 (.int .i64 2)) (yt_iface (by rfl) _ rfl 2 rfl) ?_
        simp only [Act.put, List.setIfInBounds_toArray, List.set_cons_zero, List.set_cons_succ]
        refine wt_panic (o := ⟨_, _, _, _, _, _⟩) (by rfl) _ rfl _ _ rfl ?_
        have hW := parseP_bad hx (Or.inr hp1)
        refine leaves_cons (f := 69) (args := #[.pointer (some ⟨g1, 0, none⟩), .pointer (some ⟨g2, 0, none⟩)]) (by simp) (by simp [go_sem]) ?_
        refine (recX_some g1 g2 n_g1_g2 ⟨d.k, d.t, ⟨d.s.a, d.s.p, d.s.n, d.s.c, d.s.d, d.s.q, d.s.m, d.s.e⟩, d.p, d.n, d.c⟩ 0 w v6 ge_g1 ge_g2 D G1 G2).mono ?_
        rintro r u W ⟨rfl, rfl, K6, K7, D'⟩
        refine ⟨_, results_cells2 rfl _ W g1 g2 _ 2 rfl rfl K7 (run_loadVar_row W _ _ _ _ _ _ K6 Tryz.underlying28 rfl (by rw [infoEx]; rfl)), ⟨ec0, 2, rfl, by unfold Parsed; rw [hW]; exact ⟨rfl, rfl⟩⟩, below_none D'⟩
    · refine wp_region_lit ?_
      refine wl_yield (o := ⟨_, _, _, _, _, _⟩) (.int .i64 ((printR x).2)) (yl_move (by rfl) _ rfl _ rfl) ?_
      simp only [Act.put, List.setIfInBounds_toArray, List.set_cons_zero, List.set_cons_succ]
      refine wl_yield (o := ⟨_, _, _, _, _, _⟩) (.bool true) (yt_neqE (by rfl) _ _ _ rfl ((printR x).2) 0 true rfl rfl (decide_eq_true (by omega))) ?_
      simp only [Act.put, List.setIfInBounds_toArray, List.set_cons_zero, List.set_cons_succ]
      refine wl_yield (o := ⟨_, _, _, _, _, _⟩) (.bool true) (yl_move (by rfl) _ rfl _ rfl) ?_
      simp only [Act.put, List.setIfInBounds_toArray, List.set_cons_zero, List.set_cons_succ]
      with_reducible refine wl_yield (o := ⟨_, _, _, _, _, _⟩) undef (yl_undef (by kernel_rfl)) ?_
      simp only [Act.put, List.setIfInBounds_toArray, List.set_cons_zero, List.set_cons_succ]
      with_reducible refine wl_yield (o := ⟨_, _, _, _, _, _⟩) undef (yl_undef (by kernel_rfl)) ?_
      simp only [Act.put, List.setIfInBounds_toArray, List.set_cons_zero, List.set_cons_succ]
      with_reducible refine wl_yield (o := ⟨_, _, _, _, _, _⟩) undef (yl_undef (by kernel_rfl)) ?_
      simp only [Act.put, List.setIfInBounds_toArray, List.set_cons_zero, List.set_cons_succ]
      refine wl_yield (o := ⟨_, _, _, _, _, _⟩) (.bool true) (yl_pickT (by rfl) _ _ _ rfl rfl _ rfl) ?_
      simp only [Act.put, List.setIfInBounds_toArray, List.set_cons_zero, List.set_cons_succ]
      refine wpList_nil ?_
      refine hK6 _ _ ?_
      clear hK6 K6
      refine wp_cond_true rfl ?_
      refine wp_region_lit ?_
      refine wl_yield (o := ⟨_, _, _, _, _, _⟩) (.iface 33 (.int .i64 2)) (yt_iface (by rfl) _ rfl 2 rfl) ?_
      simp only [Act.put, List.setIfInBounds_toArray, List.set_cons_zero, List.set_cons_succ]
      refine wt_panic (o := ⟨_, _, _, _, _, _⟩) (by rfl) _ rfl _ _ rfl ?_
      have hW := parseP_bad hx (Or.inl hp0)
      refine leaves_cons (f := 69) (args := #[.pointer (some ⟨g1, 0, none⟩), .pointer (some ⟨g2, 0, none⟩)]) (by simp) (by simp [go_sem]) ?_
      refine (recX_some g1 g2 n_g1_g2 ⟨d.k, d.t, ⟨d.s.a, d.s.p, d.s.n, d.s.c, d.s.d, d.s.q, d.s.m, d.s.e⟩, d.p, d.n, d.c⟩ 0 w v6 ge_g1 ge_g2 D G1 G2).mono ?_
      rintro r u W ⟨rfl, rfl, K6, K7, D'⟩
      refine ⟨_, results_cells2 rfl _ W g1 g2 _ 2 rfl rfl K7 (run_loadVar_row W _ _ _ _ _ _ K6 Tryz.underlying28 rfl (by rw [infoEx]; rfl)), ⟨ec0, 2, rfl, by unfold Parsed; rw [hW]; exact ⟨rfl, rfl⟩⟩, below_none D'⟩
  · replace D := gr_new D ge_g3 kg
    replace HE := Env.gr HE kg six_g3
    replace G1 := heap_gr G1 kg n_g1_g3
    replace G2 := heap_gr G2 kg n_g2_g3
    clear kg
    refine Or.inr ⟨_, rfl, ?_⟩
    have hW := parseP_no hx
    refine leaves_cons (f := 69) (args := #[.pointer (some ⟨g1, 0, none⟩), .pointer (some ⟨g2, 0, none⟩)]) (by simp) (by simp [go_sem]) ?_
    refine (recX_some g1 g2 n_g1_g2 ⟨0, 0, ⟨false, none, 0, 0, false, none, 0, 0⟩, none, 0, 0⟩ 0 w v4 ge_g1 ge_g2 D G1 G2).mono ?_
    rintro r u W ⟨rfl, rfl, K6, K7, D'⟩
    refine ⟨_, results_cells2 rfl _ W g1 g2 _ 2 rfl rfl K7 (run_loadVar_row W _ _ _ _ _ _ K6 Tryz.underlying28 rfl (by rw [infoEx]; rfl)), ⟨ec0, 2, rfl, by unfold Parsed; rw [hW]; exact ⟨rfl, rfl⟩⟩, below_none D'⟩

set_option maxHeartbeats 1000000 in
set_option maxRecDepth 100000 in
theorem readE_any (l : List UInt8) (w : World) (HE : Env w) (hl : l.length ≤ 10000) :
    Calls Tryz.prog 46 #[.string (bs l), .func (.func 47) #[] #[], .func (.func 21) #[] #[]] w fun e w' => (∃ d err, e = .returned (.tuple #[evVal d, .int .i64 err]) ∧ (match parseE l with | some x => err = 0 ∧ d = x | none => err = 2 ∧ d = evZ)) ∧ Below w.heap.size w w' := by
  have w6 : 6 ≤ w.heap.size := HE.big
  have D : w.grownBy w none := grown_refl _ _
  go_enter_defers Tryz.func46, Tryz.ntmps46
  refine wp_seq_k (fun K1 hK1 => ?_)
  refine wp_region_lit ?_
  refine wt_allocEv (o := ⟨_, _, _, _, _, _⟩) (by rfl) rfl (fun v1 g1 hg G1 kb => ?_)
  simp only [Act.put, List.setIfInBounds_toArray, List.set_cons_zero, List.set_cons_succ]
  have ge_g1 : w.heap.size ≤ g1 := Nat.le_trans D.size hg
  have six_g1 : 6 ≤ g1 := Nat.le_trans w6 ge_g1
  clear hg
  replace D := grown_below D kb
  replace HE := HE.on kb
  clear kb
  replace G1 : v1.heap[g1]? = some (.cells #[.int .i64 0, .int .i64 0, .string (bs ([])), .int .i64 0, .int .i64 0, .string (bs ([])), .int .i64 0, .int .i64 0, .string (bs ([])), .int .i64 0, .int .i64 0, .string (bs ([]))] 46 (0, 0)) := G1
  refine wt_allocE (o := ⟨_, _, _, _, _, _⟩) (by rfl) rfl (fun v2 g2 hg G2 kb => ?_)
  simp only [Act.put, List.setIfInBounds_toArray, List.set_cons_zero, List.set_cons_succ]
  have n_g1_g2 : g1 ≠ g2 := by have := lt_heap G1; omega
  have ge_g2 : w.heap.size ≤ g2 := Nat.le_trans D.size hg
  have six_g2 : 6 ≤ g2 := Nat.le_trans w6 ge_g2
  clear hg
  replace D := grown_below D kb
  replace HE := HE.on kb
  replace G1 := heap_on G1 kb
  clear kb
  replace G2 : v2.heap[g2]? = some (.cells #[.int .i64 0] 33 (0, 0)) := G2
  refine wpList_nil ?_
  refine hK1 _ _ ?_
  clear hK1 K1
  refine wp_seq_k (fun K2 hK2 => ?_)
  refine wp_region_lit ?_
  refine wl_yield (o := ⟨_, _, _, _, _, _⟩) (.func (.func 76) #[] #[.pointer (some ⟨g1, 0, none⟩), .pointer (some ⟨g2, 0, none⟩)]) (yt_fn2 (by rfl) _ _ _ rfl _ _ rfl rfl) ?_
  simp only [Act.put, List.setIfInBounds_toArray, List.set_cons_zero, List.set_cons_succ]
  refine wt_defer (o := ⟨_, _, _, _, _, _⟩) (by rfl) _ _ rfl 76 #[.pointer (some ⟨g1, 0, none⟩), .pointer (some ⟨g2, 0, none⟩)] rfl ?_
  simp only [Act.put, List.setIfInBounds_toArray, List.set_cons_zero, List.set_cons_succ]
  refine wpList_nil ?_
  refine hK2 _ _ ?_
  clear hK2 K2
  refine wp_seq_k (fun K3 hK3 => ?_)
  refine wp_region_lit ?_
  refine wl_yield (o := ⟨_, _, _, _, _, _⟩) (.func (.func 47) #[] #[]) (yl_move (by rfl) _ rfl _ rfl) ?_
  simp only [Act.put, List.setIfInBounds_toArray, List.set_cons_zero, List.set_cons_succ]
  refine wl_yield (o := ⟨_, _, _, _, _, _⟩) (.string (bs l)) (yl_move (by rfl) _ rfl _ rfl) ?_
  simp only [Act.put, List.setIfInBounds_toArray, List.set_cons_zero, List.set_cons_succ]
  refine wt_newRd (o := ⟨_, _, _, _, _, _⟩) (o2 := ⟨_, _, _, _, _, _⟩) (by rfl) _ rfl l rfl _ rfl (fun _ => rfl) (fun _ => rfl) (fun v3 g3 vr hg HR kb => ?_)
  simp only [Act.put, List.setIfInBounds_toArray, List.set_cons_zero, List.set_cons_succ]
  have n_g1_g3 : g1 ≠ g3 := by have := lt_heap G1; omega
  have n_g2_g3 : g2 ≠ g3 := by have := lt_heap G2; omega
  have ge_g3 : w.heap.size ≤ g3 := Nat.le_trans D.size hg
  have six_g3 : 6 ≤ g3 := Nat.le_trans w6 ge_g3
  clear hg
  replace D := grown_below D kb
  replace HE := HE.on kb
  replace G1 := heap_on G1 kb
  replace G2 := heap_on G2 kb
  clear kb
  refine wt_callv (o := ⟨_, _, _, _, _, _⟩) (by rfl) 47 _ _ _ rfl #[] rfl #[.pointer (some ⟨g3, 0, none⟩)] rfl (run_call Tryz.func47 (by kernel_rfl) (by kernel_rfl)) ?_
  refine (event_or g3 l _ ⟨HE, six_g3, HR⟩ (by omega)).mono ?_
  rintro r v4 (⟨x, r2, hx, rfl, hr2, kg⟩ | ⟨hx, rfl, kg⟩)
  · obtain ⟨hfx, hix⟩ := evL_ok hx
    replace D := gr_new D ge_g3 kg
    replace HE := Env.gr HE kg six_g3
    replace G1 := heap_gr G1 kg n_g1_g3
    replace G2 := heap_gr G2 kg n_g2_g3
    clear kg
    refine Or.inl ⟨evVal x, rfl, ?_⟩
    simp only [Act.put, List.setIfInBounds_toArray, List.set_cons_zero, List.set_cons_succ]
    refine wt_putEv (o := ⟨_, _, _, _, _, _⟩) rfl _ _ rfl _ rfl (x) rfl G1 rfl (fun v5 X kg => ?_)
    simp only [Act.put, List.setIfInBounds_toArray, List.set_cons_zero, List.set_cons_succ]
    replace D := gr_new D ge_g1 kg
    replace HE := Env.gr HE kg six_g1
    replace G2 := heap_gr G2 kg (Ne.symm n_g1_g2)
    clear kg
    replace G1 : v5.heap[g1]? = some (.cells #[.int .i64 (x.v0.1), .int .i64 (x.v0.2.1), .string x.v0.2.2, .int .i64 (x.v1.1), .int .i64 (x.v1.2.1), .string x.v1.2.2, .int .i64 (x.v2.1), .int .i64 (x.v2.2.1), .string x.v2.2.2, .int .i64 (x.v3.1), .int .i64 (x.v3.2.1), .string x.v3.2.2] 46 (0, 0)) := X
    clear X
    refine wpList_nil ?_
    refine hK3 _ _ ?_
    clear hK3 K3
    refine wp_seq_k (fun K4 hK4 => ?_)
    refine wp_seq_k (fun K5 hK5 => ?_)
    refine wp_region_lit ?_
    refine wl_yield (o := ⟨_, _, _, _, _, _⟩) (.func (.func 21) #[] #[]) (yl_move (by rfl) _ rfl _ rfl) ?_
    simp only [Act.put, List.setIfInBounds_toArray, List.set_cons_zero, List.set_cons_succ]
    refine wl_yield (o := ⟨_, _, _, _, _, _⟩) (evVal x) (yl_ev (by rfl) _ rfl _ 0 rfl _ _ _ _ _ _ _ _ _ _ _ _ (fun _ h => by subst h; exact ⟨cell_heap G1 0, cell_heap G1 1, cell_heap G1 2, cell_heap G1 3, cell_heap G1 4, cell_heap G1 5, cell_heap G1 6, cell_heap G1 7, cell_heap G1 8, cell_heap G1 9, cell_heap G1 10, cell_heap G1 11⟩)) ?_
    simp only [Act.put, List.setIfInBounds_toArray, List.set_cons_zero, List.set_cons_succ]
    refine wt_callv (o := ⟨_, _, _, _, _, _⟩) (by rfl) 21 _ _ _ rfl #[] rfl #[evVal x] rfl (run_call Tryz.func21 (by kernel_rfl) (by kernel_rfl)) ?_
    refine (eventText_any x _ HE hfx hix).mono ?_
    rintro r v6 ⟨rfl, kb⟩
    replace D := grown_below D kb
    replace HE := HE.on kb
    replace G1 := heap_on G1 kb
    replace G2 := heap_on G2 kb
    clear kb
    refine Or.inl ⟨.tuple #[.string (bs ((evR x).1)), .int .i64 ((evR x).2)], rfl, ?_⟩
    simp only [Act.put, List.setIfInBounds_toArray, List.set_cons_zero, List.set_cons_succ]
    refine wl_yield (o := ⟨_, _, _, _, _, _⟩) (.tuple #[.string (bs ((evR x).1)), .int .i64 ((evR x).2)]) (yl_move (by rfl) _ rfl _ rfl) ?_
    simp only [Act.put, List.setIfInBounds_toArray, List.set_cons_zero, List.set_cons_succ]
    refine wl_yield (o := ⟨_, _, _, _, _, _⟩) (.string (bs ((evR x).1))) (yl_extract0 (by rfl) _ rfl _ _ rfl) ?_
    simp only [Act.put, List.setIfInBounds_toArray, List.set_cons_zero, List.set_cons_succ]
    refine wl_yield (o := ⟨_, _, _, _, _, _⟩) (.int .i64 ((evR x).2)) (yl_extract1 (by rfl) _ rfl _ _ rfl) ?_
    simp only [Act.put, List.setIfInBounds_toArray, List.set_cons_zero, List.set_cons_succ]
    refine wl_yield (o := ⟨_, _, _, _, _, _⟩) (.string (bs ((evR x).1))) (yl_assign (by rfl) _ rfl _ rfl) ?_
    simp only [Act.put, List.setIfInBounds_toArray, List.set_cons_zero, List.set_cons_succ]
    refine wl_yield (o := ⟨_, _, _, _, _, _⟩) (.int .i64 ((evR x).2)) (yl_assign (by rfl) _ rfl _ rfl) ?_
    simp only [Act.put, List.setIfInBounds_toArray, List.set_cons_zero, List.set_cons_succ]
    refine wpList_nil ?_
    refine hK5 _ _ ?_
    clear hK5 K5
    refine wp_seq_k (fun K6 hK6 => ?_)
    by_cases hp0 : (evR x).2 = 0
    · by_cases hp1 : (evR x).1 = l
      · refine wp_region_lit ?_
        refine wl_yield (o := ⟨_, _, _, _, _, _⟩) (.int .i64 ((evR x).2)) (yl_move (by rfl) _ rfl _ rfl) ?_
        simp only [Act.put, List.setIfInBounds_toArray, List.set_cons_zero, List.set_cons_succ]
        refine wl_yield (o := ⟨_, _, _, _, _, _⟩) (.bool false) (yt_neqE (by rfl) _ _ _ rfl ((evR x).2) 0 false rfl rfl (decide_eq_false (by omega))) ?_
        simp only [Act.put, List.setIfInBounds_toArray, List.set_cons_zero, List.set_cons_succ]
        refine wl_yield (o := ⟨_, _, _, _, _, _⟩) (.bool false) (yl_move (by rfl) _ rfl _ rfl) ?_
        simp only [Act.put, List.setIfInBounds_toArray, List.set_cons_zero, List.set_cons_succ]
        refine wl_yield (o := ⟨_, _, _, _, _, _⟩) (.string (bs ((evR x).1))) (yl_move (by rfl) _ rfl _ rfl) ?_
        simp only [Act.put, List.setIfInBounds_toArray, List.set_cons_zero, List.set_cons_succ]
        refine wl_yield (o := ⟨_, _, _, _, _, _⟩) (.string (bs l)) (yl_move (by rfl) _ rfl _ rfl) ?_
        simp only [Act.put, List.setIfInBounds_toArray, List.set_cons_zero, List.set_cons_succ]
        refine wl_yield (o := ⟨_, _, _, _, _, _⟩) (.bool false) (yt_neqS (by rfl) _ _ _ rfl ((evR x).1) l false rfl rfl (by rw [hp1]; simp)) ?_
        simp only [Act.put, List.setIfInBounds_toArray, List.set_cons_zero, List.set_cons_succ]
        refine wl_yield (o := ⟨_, _, _, _, _, _⟩) (.bool false) (yl_pickF (by rfl) _ _ _ rfl rfl _ rfl) ?_
        simp only [Act.put, List.setIfInBounds_toArray, List.set_cons_zero, List.set_cons_succ]
        refine wpList_nil ?_
        refine hK6 _ _ ?_
        clear hK6 K6
        refine wp_cond_false rfl ?_
        refine wp_skip ?_
        refine hK4 _ _ ?_
        clear hK4 K4
        refine wp_seq_k (fun K7 hK7 => ?_)
        refine wp_region_lit ?_
        refine wl_yield (o := ⟨_, _, _, _, _, _⟩) (evVal x) (yl_ev (by rfl) _ rfl _ 0 rfl _ _ _ _ _ _ _ _ _ _ _ _ (fun _ h => by subst h; exact ⟨cell_heap G1 0, cell_heap G1 1, cell_heap G1 2, cell_heap G1 3, cell_heap G1 4, cell_heap G1 5, cell_heap G1 6, cell_heap G1 7, cell_heap G1 8, cell_heap G1 9, cell_heap G1 10, cell_heap G1 11⟩)) ?_
        simp only [Act.put, List.setIfInBounds_toArray, List.set_cons_zero, List.set_cons_succ]
        refine wt_putEv (o := ⟨_, _, _, _, _, _⟩) rfl _ _ rfl _ rfl (x) rfl G1 rfl (fun v7 X kg => ?_)
        simp only [Act.put, List.setIfInBounds_toArray, List.set_cons_zero, List.set_cons_succ]
        replace D := gr_new D ge_g1 kg
        replace HE := Env.gr HE kg six_g1
        replace G2 := heap_gr G2 kg (Ne.symm n_g1_g2)
        clear kg
        replace G1 : v7.heap[g1]? = some (.cells #[.int .i64 (x.v0.1), .int .i64 (x.v0.2.1), .string x.v0.2.2, .int .i64 (x.v1.1), .int .i64 (x.v1.2.1), .string x.v1.2.2, .int .i64 (x.v2.1), .int .i64 (x.v2.2.1), .string x.v2.2.2, .int .i64 (x.v3.1), .int .i64 (x.v3.2.1), .string x.v3.2.2] 46 (0, 0)) := X
        clear X
        refine wt_putE (o := ⟨_, _, _, _, _, _⟩) (by rfl) _ _ rfl _ 0 rfl 0 rfl G2 (by simp) (fun v8 X kg => ?_)
        simp only [Act.put, List.setIfInBounds_toArray, List.set_cons_zero, List.set_cons_succ]
        replace D := gr_new D ge_g2 kg
        replace HE := Env.gr HE kg six_g2
        replace G1 := heap_gr G1 kg n_g1_g2
        clear kg
        replace G2 : v8.heap[g2]? = some (.cells #[.int .i64 0] 33 (0, 0)) := X
        clear X
        refine wpList_nil ?_
        refine hK7 _ _ ?_
        clear hK7 K7
        refine wp_ret ?_
        refine leaves_cons (f := 76) (args := #[.pointer (some ⟨g1, 0, none⟩), .pointer (some ⟨g2, 0, none⟩)]) (by simp) (by simp [go_sem]) ?_
        refine (recE_none g1 g2 _).mono ?_
        rintro r u W ⟨rfl, rfl, rfl⟩
        refine ⟨_, results_cells2 rfl _ _ g1 g2 _ 0 rfl rfl G2 (run_loadVar_row _ _ _ _ _ _ _ G1 Tryz.underlying46 rfl (by rw [infoEv12]; rfl)), ⟨x, 0, rfl, by rw [parseE_yes hx hp0 hp1]; exact ⟨rfl, rfl⟩⟩, below_none D⟩
      · refine wp_region_lit ?_
        refine wl_yield (o := ⟨_, _, _, _, _, _⟩) (.int .i64 ((evR x).2)) (yl_move (by rfl) _ rfl _ rfl) ?_
        simp only [Act.put, List.setIfInBounds_toArray, List.set_cons_zero, List.set_cons_succ]
        refine wl_yield (o := ⟨_, _, _, _, _, _⟩) (.bool false) (yt_neqE (by rfl) _ _ _ rfl ((evR x).2) 0 false rfl rfl (decide_eq_false (by omega))) ?_
        simp only [Act.put, List.setIfInBounds_toArray, List.set_cons_zero, List.set_cons_succ]
        refine wl_yield (o := ⟨_, _, _, _, _, _⟩) (.bool false) (yl_move (by rfl) _ rfl _ rfl) ?_
        simp only [Act.put, List.setIfInBounds_toArray, List.set_cons_zero, List.set_cons_succ]
        refine wl_yield (o := ⟨_, _, _, _, _, _⟩) (.string (bs ((evR x).1))) (yl_move (by rfl) _ rfl _ rfl) ?_
        simp only [Act.put, List.setIfInBounds_toArray, List.set_cons_zero, List.set_cons_succ]
        refine wl_yield (o := ⟨_, _, _, _, _, _⟩) (.string (bs l)) (yl_move (by rfl) _ rfl _ rfl) ?_
        simp only [Act.put, List.setIfInBounds_toArray, List.set_cons_zero, List.set_cons_succ]
        refine wl_yield (o := ⟨_, _, _, _, _, _⟩) (.bool true) (yt_neqS (by rfl) _ _ _ rfl ((evR x).1) l true rfl rfl (by simpa using hp1)) ?_
        simp only [Act.put, List.setIfInBounds_toArray, List.set_cons_zero, List.set_cons_succ]
        refine wl_yield (o := ⟨_, _, _, _, _, _⟩) (.bool true) (yl_pickF (by rfl) _ _ _ rfl rfl _ rfl) ?_
        simp only [Act.put, List.setIfInBounds_toArray, List.set_cons_zero, List.set_cons_succ]
        refine wpList_nil ?_
        refine hK6 _ _ ?_
        clear hK6 K6
        refine wp_cond_true rfl ?_
        refine wp_region_lit ?_
        refine wl_yield (o := ⟨_, _, _, _, _, _⟩) (.iface 33 (.int .i64 2)) (yt_iface (by rfl) _ rfl 2 rfl) ?_
        simp only [Act.put, List.setIfInBounds_toArray, List.set_cons_zero, List.set_cons_succ]
        refine wt_panic (o := ⟨_, _, _, _, _, _⟩) (by rfl) _ rfl _ _ rfl ?_
        have hW := parseE_bad hx (Or.inr hp1)
        refine leaves_cons (f := 76) (args := #[.pointer (some ⟨g1, 0, none⟩), .pointer (some ⟨g2, 0, none⟩)]) (by simp) (by simp [go_sem]) ?_
        refine (recE_some g1 g2 n_g1_g2 ⟨(x.v0.1, x.v0.2.1, x.v0.2.2), (x.v1.1, x.v1.2.1, x.v1.2.2), (x.v2.1, x.v2.2.1, x.v2.2.2), (x.v3.1, x.v3.2.1, x.v3.2.2)⟩ 0 w v6 ge_g1 ge_g2 D G1 G2).mono ?_
        rintro r u W ⟨rfl, rfl, K6, K7, D'⟩
        refine ⟨_, results_cells2 rfl _ W g1 g2 _ 2 rfl rfl K7 (run_loadVar_row W _ _ _ _ _ _ K6 Tryz.underlying46 rfl (by rw [infoEv12]; rfl)), ⟨evZ, 2, rfl, by rw [hW]; exact ⟨rfl, rfl⟩⟩, below_none D'⟩
    · refine wp_region_lit ?_
      refine wl_yield (o := ⟨_, _, _, _, _, _⟩) (.int .i64 ((evR x).2)) (yl_move (by rfl) _ rfl _ rfl) ?_
      simp only [Act.put, List.setIfInBounds_toArray, List.set_cons_zero, List.set_cons_succ]
      refine wl_yield (o := ⟨_, _, _, _, _, _⟩) (.bool true) (yt_neqE (by rfl) _ _ _ rfl ((evR x).2) 0 true rfl rfl (decide_eq_true (by omega))) ?_
      simp only [Act.put, List.setIfInBounds_toArray, List.set_cons_zero, List.set_cons_succ]
      refine wl_yield (o := ⟨_, _, _, _, _, _⟩) (.bool true) (yl_move (by rfl) _ rfl _ rfl) ?_
      simp only [Act.put, List.setIfInBounds_toArray, List.set_cons_zero, List.set_cons_succ]
      with_reducible refine wl_yield (o := ⟨_, _, _, _, _, _⟩) undef (yl_undef (by kernel_rfl)) ?_
      simp only [Act.put, List.setIfInBounds_toArray, List.set_cons_zero, List.set_cons_succ]
      with_reducible refine wl_yield (o := ⟨_, _, _, _, _, _⟩) undef (yl_undef (by kernel_rfl)) ?_
      simp only [Act.put, List.setIfInBounds_toArray, List.set_cons_zero, List.set_cons_succ]
      with_reducible refine wl_yield (o := ⟨_, _, _, _, _, _⟩) undef (yl_undef (by kernel_rfl)) ?_
      simp only [Act.put, List.setIfInBounds_toArray, List.set_cons_zero, List.set_cons_succ]
      refine wl_yield (o := ⟨_, _, _, _, _, _⟩) (.bool true) (yl_pickT (by rfl) _ _ _ rfl rfl _ rfl) ?_
      simp only [Act.put, List.setIfInBounds_toArray, List.set_cons_zero, List.set_cons_succ]
      refine wpList_nil ?_
      refine hK6 _ _ ?_
      clear hK6 K6
      refine wp_cond_true rfl ?_
      refine wp_region_lit ?_
      refine wl_yield (o := ⟨_, _, _, _, _, _⟩) (.iface 33 (.int .i64 2)) (yt_iface (by rfl) _ rfl 2 rfl) ?_
      simp only [Act.put, List.setIfInBounds_toArray, List.set_cons_zero, List.set_cons_succ]
      refine wt_panic (o := ⟨_, _, _, _, _, _⟩) (by rfl) _ rfl _ _ rfl ?_
      have hW := parseE_bad hx (Or.inl hp0)
      refine leaves_cons (f := 76) (args := #[.pointer (some ⟨g1, 0, none⟩), .pointer (some ⟨g2, 0, none⟩)]) (by simp) (by simp [go_sem]) ?_
      refine (recE_some g1 g2 n_g1_g2 ⟨(x.v0.1, x.v0.2.1, x.v0.2.2), (x.v1.1, x.v1.2.1, x.v1.2.2), (x.v2.1, x.v2.2.1, x.v2.2.2), (x.v3.1, x.v3.2.1, x.v3.2.2)⟩ 0 w v6 ge_g1 ge_g2 D G1 G2).mono ?_
      rintro r u W ⟨rfl, rfl, K6, K7, D'⟩
      refine ⟨_, results_cells2 rfl _ W g1 g2 _ 2 rfl rfl K7 (run_loadVar_row W _ _ _ _ _ _ K6 Tryz.underlying46 rfl (by rw [infoEv12]; rfl)), ⟨evZ, 2, rfl, by rw [hW]; exact ⟨rfl, rfl⟩⟩, below_none D'⟩
  · replace D := gr_new D ge_g3 kg
    replace HE := Env.gr HE kg six_g3
    replace G1 := heap_gr G1 kg n_g1_g3
    replace G2 := heap_gr G2 kg n_g2_g3
    clear kg
    refine Or.inr ⟨_, rfl, ?_⟩
    have hW := parseE_no hx
    refine leaves_cons (f := 76) (args := #[.pointer (some ⟨g1, 0, none⟩), .pointer (some ⟨g2, 0, none⟩)]) (by simp) (by simp [go_sem]) ?_
    refine (recE_some g1 g2 n_g1_g2 ⟨(0, 0, (bs ([]))), (0, 0, (bs ([]))), (0, 0, (bs ([]))), (0, 0, (bs ([])))⟩ 0 w v4 ge_g1 ge_g2 D G1 G2).mono ?_
    rintro r u W ⟨rfl, rfl, K6, K7, D'⟩
    refine ⟨_, results_cells2 rfl _ W g1 g2 _ 2 rfl rfl K7 (run_loadVar_row W _ _ _ _ _ _ K6 Tryz.underlying46 rfl (by rw [infoEv12]; rfl)), ⟨evZ, 2, rfl, by rw [hW]; exact ⟨rfl, rfl⟩⟩, below_none D'⟩

end Go.Proofs.YtciflobdpenpaaaGreatDoor
/-
  The program's Parse and ReadEvent.
-/
set_option linter.unusedSimpArgs false
set_option linter.unusedVariables false
namespace Go.Proofs.YtciflobdpenpaaaGreatDoor
open Go.RowKit

theorem results_cs {fn : Func} {p q : Tmp} {ty : TypeId} (h : fn.results = #[.cell p ty, .tmp q]) (tmps : Array Value) (w : World) (g : Nat) (cs : Array Value) (z : Value)
    (hp : tmps.getD p undef = .pointer (some ⟨g, 0, none⟩)) (hq : tmps.getD q undef = z) (hv : (loadVar ty ⟨g, 0, none⟩).run Tryz.prog w = .ok (.agg cs) w) :
    (results fn tmps).run Tryz.prog w = .ok (.tuple #[.agg cs, z]) w := by
  have hp' : tmps[p]?.getD undef = .pointer (some ⟨g, 0, none⟩) := by simpa using hp
  have hq' : tmps[q]?.getD undef = z := by simpa using hq
  simp [results, h, hp', hq', asAddr, hv]
/-- What Parse answers, of texts of any length. -/
def ParsedT (m : Nat) (W : World) (l : List UInt8) (d : EC) (err : Int) : Prop := if l.length > 1024 then err = 9 ∧ d = ec0 else Parsed m W l d err
set_option maxHeartbeats 1000000 in
set_option maxRecDepth 100000 in
theorem parse_any (l : List UInt8) (w : World) (HE : Env w) (hl : l.length < 9223372036854775807) :
    Calls Tryz.prog 16 #[.string (bs l)] w fun e w' => (∃ d err, e = .returned (.tuple #[EC.val d, .int .i64 err]) ∧ ParsedT w.heap.size w' l d err) ∧ Below w.heap.size w w' := by
  have w6 : 6 ≤ w.heap.size := HE.big
  have D : w.grownBy w none := grown_refl _ _
  go_enter Tryz.func16, Tryz.ntmps16
  by_cases hL : l.length > 1024
  · refine wp_seq_k (fun K1 hK1 => ?_)
    refine wp_region_lit ?_
    refine wt_allocEx (o := ⟨_, _, _, _, _, _⟩) (by rfl) rfl (fun v1 g1 hg G1 kb => ?_)
    simp only [Act.put, List.setIfInBounds_toArray, List.set_cons_zero, List.set_cons_succ]
    have ge_g1 : w.heap.size ≤ g1 := Nat.le_trans D.size hg
    have six_g1 : 6 ≤ g1 := Nat.le_trans w6 ge_g1
    clear hg
    replace D := grown_below D kb
    replace HE := HE.on kb
    clear kb
    replace G1 : v1.heap[g1]? = some (.cells #[.int .i64 0, .int .i64 0, .bool false, .slice none 0 0, .bool false, .slice none 0 0, .slice none 0 0] 28 (0, 0)) := G1
    refine wl_yield (o := ⟨_, _, _, _, _, _⟩) (.int .i64 0) (yl_assign (by rfl) _ rfl _ rfl) ?_
    simp only [Act.put, List.setIfInBounds_toArray, List.set_cons_zero, List.set_cons_succ]
    refine wpList_nil ?_
    refine hK1 _ _ ?_
    clear hK1 K1
    refine wp_seq_k (fun K2 hK2 => ?_)
    refine wp_seq_k (fun K3 hK3 => ?_)
    refine wp_region_lit ?_
    refine wl_yield (o := ⟨_, _, _, _, _, _⟩) (.string (bs l)) (yl_move (by rfl) _ rfl _ rfl) ?_
    simp only [Act.put, List.setIfInBounds_toArray, List.set_cons_zero, List.set_cons_succ]
    refine wl_yield (o := ⟨_, _, _, _, _, _⟩) (.int .i64 (l.length : Nat)) (yt_lenS (by rfl) _ rfl l rfl) ?_
    simp only [Act.put, List.setIfInBounds_toArray, List.set_cons_zero, List.set_cons_succ]
    refine wl_yield (o := ⟨_, _, _, _, _, _⟩) (.bool true) (yt_gtrI (by rfl) _ _ _ rfl (((l.length : Nat) : Int)) 1024 true rfl rfl (decide_eq_true (by omega))) ?_
    simp only [Act.put, List.setIfInBounds_toArray, List.set_cons_zero, List.set_cons_succ]
    refine wpList_nil ?_
    refine hK3 _ _ ?_
    clear hK3 K3
    refine wp_cond_true rfl ?_
    refine wp_seq_k (fun K4 hK4 => ?_)
    refine wp_region_lit ?_
    refine wl_yield (o := ⟨_, _, _, _, _, _⟩) (EC.val ec0) (yl_zeroX (by rfl) rfl) ?_
    simp only [Act.put, List.setIfInBounds_toArray, List.set_cons_zero, List.set_cons_succ]
    refine wt_putEx (o := ⟨_, _, _, _, _, _⟩) rfl _ _ rfl _ rfl (ec0) rfl G1 rfl (fun v2 X kg => ?_)
    simp only [Act.put, List.setIfInBounds_toArray, List.set_cons_zero, List.set_cons_succ]
    replace D := gr_new D ge_g1 kg
    replace HE := Env.gr HE kg six_g1
    clear kg
    replace G1 : v2.heap[g1]? = some (.cells #[.int .i64 (ec0.k), .int .i64 (ec0.t), .bool (ec0.s.a), .slice ec0.s.p ec0.s.n ec0.s.c, .bool (ec0.s.d), .slice ec0.s.q ec0.s.m ec0.s.e, .slice ec0.p ec0.n ec0.c] 28 (0, 0)) := X
    clear X
    refine wl_yield (o := ⟨_, _, _, _, _, _⟩) (.int .i64 9) (yl_assign (by rfl) _ rfl _ rfl) ?_
    simp only [Act.put, List.setIfInBounds_toArray, List.set_cons_zero, List.set_cons_succ]
    refine wpList_nil ?_
    refine hK4 _ _ ?_
    clear hK4 K4
    refine wp_ret ?_
    try simp only [Exit.inBlock, Exit.then]
    refine bodyPost_ret (results_cs rfl _ _ g1 _ (.int .i64 9) rfl rfl (run_loadVar_row _ _ _ _ _ _ _ G1 Tryz.underlying28 rfl (by rw [infoEx]; rfl))) rfl ⟨⟨ec0, 9, rfl, by unfold ParsedT; rw [if_pos (by omega)]; exact ⟨rfl, rfl⟩⟩, below_none D⟩
  · refine wp_seq_k (fun K1 hK1 => ?_)
    refine wp_region_lit ?_
    refine wt_allocEx (o := ⟨_, _, _, _, _, _⟩) (by rfl) rfl (fun v1 g1 hg G1 kb => ?_)
    simp only [Act.put, List.setIfInBounds_toArray, List.set_cons_zero, List.set_cons_succ]
    have ge_g1 : w.heap.size ≤ g1 := Nat.le_trans D.size hg
    have six_g1 : 6 ≤ g1 := Nat.le_trans w6 ge_g1
    clear hg
    replace D := grown_below D kb
    replace HE := HE.on kb
    clear kb
    replace G1 : v1.heap[g1]? = some (.cells #[.int .i64 0, .int .i64 0, .bool false, .slice none 0 0, .bool false, .slice none 0 0, .slice none 0 0] 28 (0, 0)) := G1
    refine wl_yield (o := ⟨_, _, _, _, _, _⟩) (.int .i64 0) (yl_assign (by rfl) _ rfl _ rfl) ?_
    simp only [Act.put, List.setIfInBounds_toArray, List.set_cons_zero, List.set_cons_succ]
    refine wpList_nil ?_
    refine hK1 _ _ ?_
    clear hK1 K1
    refine wp_seq_k (fun K2 hK2 => ?_)
    refine wp_seq_k (fun K3 hK3 => ?_)
    refine wp_region_lit ?_
    refine wl_yield (o := ⟨_, _, _, _, _, _⟩) (.string (bs l)) (yl_move (by rfl) _ rfl _ rfl) ?_
    simp only [Act.put, List.setIfInBounds_toArray, List.set_cons_zero, List.set_cons_succ]
    refine wl_yield (o := ⟨_, _, _, _, _, _⟩) (.int .i64 (l.length : Nat)) (yt_lenS (by rfl) _ rfl l rfl) ?_
    simp only [Act.put, List.setIfInBounds_toArray, List.set_cons_zero, List.set_cons_succ]
    refine wl_yield (o := ⟨_, _, _, _, _, _⟩) (.bool false) (yt_gtrI (by rfl) _ _ _ rfl (((l.length : Nat) : Int)) 1024 false rfl rfl (decide_eq_false (by omega))) ?_
    simp only [Act.put, List.setIfInBounds_toArray, List.set_cons_zero, List.set_cons_succ]
    refine wpList_nil ?_
    refine hK3 _ _ ?_
    clear hK3 K3
    refine wp_cond_false rfl ?_
    refine wp_skip ?_
    refine hK2 _ _ ?_
    clear hK2 K2
    refine wp_seq_k (fun K4 hK4 => ?_)
    refine wp_region_lit ?_
    refine wl_yield (o := ⟨_, _, _, _, _, _⟩) (.string (bs l)) (yl_move (by rfl) _ rfl _ rfl) ?_
    simp only [Act.put, List.setIfInBounds_toArray, List.set_cons_zero, List.set_cons_succ]
    refine wt_call (o := ⟨_, _, _, _, _, _⟩) (by rfl) 42 _ _ rfl #[.string (bs l), .func (.func 43) #[] #[], .func (.func 13) #[] #[]] rfl (run_call Tryz.func42 (by kernel_rfl) (by kernel_rfl)) ?_
    refine (readX_any l _ HE (by omega)).mono ?_
    rintro r v2 (⟨⟨d, err, rfl, PA⟩, kb⟩)
    · have bs0 : w.heap.size ≤ v1.heap.size := D.size
      have lt_g1 : g1 < v1.heap.size := lt_heap G1
      replace PA : Parsed v1.heap.size v2 l d err := PA
      replace D := grown_below D kb
      replace HE := HE.on kb
      replace G1 := heap_on G1 kb
      clear kb
      refine Or.inl ⟨.tuple #[EC.val d, .int .i64 err], rfl, ?_⟩
      simp only [Act.put, List.setIfInBounds_toArray, List.set_cons_zero, List.set_cons_succ]
      refine wl_yield (o := ⟨_, _, _, _, _, _⟩) (EC.val d) (yl_extract0 (by rfl) _ rfl _ _ rfl) ?_
      simp only [Act.put, List.setIfInBounds_toArray, List.set_cons_zero, List.set_cons_succ]
      refine wl_yield (o := ⟨_, _, _, _, _, _⟩) (.int .i64 err) (yl_extract1 (by rfl) _ rfl _ _ rfl) ?_
      simp only [Act.put, List.setIfInBounds_toArray, List.set_cons_zero, List.set_cons_succ]
      refine wt_putEx (o := ⟨_, _, _, _, _, _⟩) rfl _ _ rfl _ rfl (d) rfl G1 rfl (fun v3 X kg => ?_)
      simp only [Act.put, List.setIfInBounds_toArray, List.set_cons_zero, List.set_cons_succ]
      replace D := gr_new D ge_g1 kg
      replace HE := Env.gr HE kg six_g1
      replace PA := PA.lt kg lt_g1
      clear kg
      replace G1 : v3.heap[g1]? = some (.cells #[.int .i64 (d.k), .int .i64 (d.t), .bool (d.s.a), .slice d.s.p d.s.n d.s.c, .bool (d.s.d), .slice d.s.q d.s.m d.s.e, .slice d.p d.n d.c] 28 (0, 0)) := X
      clear X
      refine wl_yield (o := ⟨_, _, _, _, _, _⟩) (.int .i64 err) (yl_assign (by rfl) _ rfl _ rfl) ?_
      simp only [Act.put, List.setIfInBounds_toArray, List.set_cons_zero, List.set_cons_succ]
      refine wpList_nil ?_
      refine hK4 _ _ ?_
      clear hK4 K4
      refine wp_ret ?_
      try simp only [Exit.inBlock, Exit.then]
      refine bodyPost_ret (results_cs rfl _ _ g1 _ (.int .i64 err) rfl rfl (run_loadVar_row _ _ _ _ _ _ _ G1 Tryz.underlying28 rfl (by rw [infoEx]; rfl))) rfl ⟨⟨d, err, rfl, by unfold ParsedT; rw [if_neg (by omega)]; exact PA.back bs0⟩, below_none D⟩

set_option maxHeartbeats 1000000 in
set_option maxRecDepth 100000 in
theorem readEvent_any (l : List UInt8) (w : World) (HE : Env w) (hl : l.length ≤ 10000) :
    Calls Tryz.prog 19 #[.string (bs l)] w fun e w' => (∃ d err, e = .returned (.tuple #[evVal d, .int .i64 err]) ∧ (match parseE l with | some x => err = 0 ∧ d = x | none => err = 2 ∧ d = evZ)) ∧ Below w.heap.size w w' := by
  have w6 : 6 ≤ w.heap.size := HE.big
  have D : w.grownBy w none := grown_refl _ _
  go_enter Tryz.func19, Tryz.ntmps19
  refine wp_seq_k (fun K1 hK1 => ?_)
  refine wp_region_lit ?_
  refine wt_allocEv (o := ⟨_, _, _, _, _, _⟩) (by rfl) rfl (fun v1 g1 hg G1 kb => ?_)
  simp only [Act.put, List.setIfInBounds_toArray, List.set_cons_zero, List.set_cons_succ]
  have ge_g1 : w.heap.size ≤ g1 := Nat.le_trans D.size hg
  have six_g1 : 6 ≤ g1 := Nat.le_trans w6 ge_g1
  clear hg
  replace D := grown_below D kb
  replace HE := HE.on kb
  clear kb
  replace G1 : v1.heap[g1]? = some (.cells #[.int .i64 0, .int .i64 0, .string (bs ([])), .int .i64 0, .int .i64 0, .string (bs ([])), .int .i64 0, .int .i64 0, .string (bs ([])), .int .i64 0, .int .i64 0, .string (bs ([]))] 46 (0, 0)) := G1
  refine wl_yield (o := ⟨_, _, _, _, _, _⟩) (.int .i64 0) (yl_assign (by rfl) _ rfl _ rfl) ?_
  simp only [Act.put, List.setIfInBounds_toArray, List.set_cons_zero, List.set_cons_succ]
  refine wpList_nil ?_
  refine hK1 _ _ ?_
  clear hK1 K1
  refine wp_seq_k (fun K2 hK2 => ?_)
  refine wp_region_lit ?_
  refine wl_yield (o := ⟨_, _, _, _, _, _⟩) (.string (bs l)) (yl_move (by rfl) _ rfl _ rfl) ?_
  simp only [Act.put, List.setIfInBounds_toArray, List.set_cons_zero, List.set_cons_succ]
  refine wt_call (o := ⟨_, _, _, _, _, _⟩) (by rfl) 46 _ _ rfl #[.string (bs l), .func (.func 47) #[] #[], .func (.func 21) #[] #[]] rfl (run_call Tryz.func46 (by kernel_rfl) (by kernel_rfl)) ?_
  refine (readE_any l _ HE hl).mono ?_
  rintro r v2 (⟨⟨d, err, rfl, PA⟩, kb⟩)
  · replace D := grown_below D kb
    replace HE := HE.on kb
    replace G1 := heap_on G1 kb
    clear kb
    refine Or.inl ⟨.tuple #[evVal d, .int .i64 err], rfl, ?_⟩
    simp only [Act.put, List.setIfInBounds_toArray, List.set_cons_zero, List.set_cons_succ]
    refine wl_yield (o := ⟨_, _, _, _, _, _⟩) (evVal d) (yl_extract0 (by rfl) _ rfl _ _ rfl) ?_
    simp only [Act.put, List.setIfInBounds_toArray, List.set_cons_zero, List.set_cons_succ]
    refine wl_yield (o := ⟨_, _, _, _, _, _⟩) (.int .i64 err) (yl_extract1 (by rfl) _ rfl _ _ rfl) ?_
    simp only [Act.put, List.setIfInBounds_toArray, List.set_cons_zero, List.set_cons_succ]
    refine wt_putEv (o := ⟨_, _, _, _, _, _⟩) rfl _ _ rfl _ rfl (d) rfl G1 rfl (fun v3 X kg => ?_)
    simp only [Act.put, List.setIfInBounds_toArray, List.set_cons_zero, List.set_cons_succ]
    replace D := gr_new D ge_g1 kg
    replace HE := Env.gr HE kg six_g1
    clear kg
    replace G1 : v3.heap[g1]? = some (.cells #[.int .i64 (d.v0.1), .int .i64 (d.v0.2.1), .string d.v0.2.2, .int .i64 (d.v1.1), .int .i64 (d.v1.2.1), .string d.v1.2.2, .int .i64 (d.v2.1), .int .i64 (d.v2.2.1), .string d.v2.2.2, .int .i64 (d.v3.1), .int .i64 (d.v3.2.1), .string d.v3.2.2] 46 (0, 0)) := X
    clear X
    refine wl_yield (o := ⟨_, _, _, _, _, _⟩) (.int .i64 err) (yl_assign (by rfl) _ rfl _ rfl) ?_
    simp only [Act.put, List.setIfInBounds_toArray, List.set_cons_zero, List.set_cons_succ]
    refine wpList_nil ?_
    refine hK2 _ _ ?_
    clear hK2 K2
    refine wp_ret ?_
    try simp only [Exit.inBlock, Exit.then]
    refine bodyPost_ret (results_cs rfl _ _ g1 _ (.int .i64 err) rfl rfl (run_loadVar_row _ _ _ _ _ _ _ G1 Tryz.underlying46 rfl (by rw [infoEv12]; rfl))) rfl ⟨⟨d, err, rfl, PA⟩, below_none D⟩

end Go.Proofs.YtciflobdpenpaaaGreatDoor
/-
  What the rows' listed variables give ('Env') (stage 7's seat); the start that fits.
-/
set_option linter.unusedSimpArgs false
set_option linter.unusedVariables false
namespace Go.Proofs.YtciflobdpenpaaaGreatDoor
open Go.ChangeShapes Go.WideShapes Go.ChangeAt Go.WideMaps Go.WideElems Go.RowKit Go.Joins

theorem own : ownKnob Tryz.prog.godebug = none := by kernel_rfl
theorem gPowType : (Tryz.prog.globals[1]?).map (·.type) = some 176 := by kernel_rfl
theorem gSynType : (Tryz.prog.globals[4]?).map (·.type) = some 111 := by kernel_rfl
theorem gRngType : (Tryz.prog.globals[5]?).map (·.type) = some 111 := by kernel_rfl
theorem cellsPow : Tryz.prog.cellsOf 176 = 20 := by kernel_rfl
theorem cellsU64 : Tryz.prog.cellsOf 115 = 1 := by kernel_rfl
theorem cellsES : Tryz.prog.cellsOf 210 = 1 := by kernel_rfl
theorem cellsStr : Tryz.prog.cellsOf 9 = 1 := by kernel_rfl
theorem star : "*errors.errorString" = "*" ++ "errors.errorString" := by decide
theorem rowES (u : TypeId) (h : Tryz.prog.typeName? 3 u = some "*errors.errorString") : u = 208 :=
  typeName_ptr_named (nm := "errors.errorString") (by rw [← star]; kernel_rfl) (by kernel_rfl) (by decide) u (by rw [← star]; exact h)

abbrev laid5 : List (String × DataW Unit) := [("math/bits.deBruijn32tab", Rows.laid_math_bits_deBruijn32tab), ("math/bits.deBruijn64tab", Rows.laid_math_bits_deBruijn64tab), ("internal/strconv.uint64pow10", Rows.laid_internal_strconv_uint64pow10), ("strconv.ErrRange", Rows.laid_strconv_ErrRange), ("strconv.ErrSyntax", Rows.laid_strconv_ErrSyntax)]

theorem env_of_laid {W : World} (h : laidMetH Tryz.prog laid5 W) : Env W := by
  rw [MakeChecks.laidMetH_plain _ _ _ (by kernel_rfl)] at h
  have hp : Lib.TabIs Tryz.prog W "internal/strconv.uint64pow10" .u64 Lib.pow10Tab := Lib.tabIs_of_head gPow gPowType Tryz.underlying176 Tryz.underlying115 cellsU64 cellsPow (show laidMet Tryz.prog (("internal/strconv.uint64pow10", Lib.tabData .u64 Lib.pow10Tab) :: _) W from h.tail.tail)
  obtain ⟨a0, s0, hv0, -, -, -⟩ := laid_sentinel h.tail.tail.tail gRng gRngType Tryz.underlying111 rowES Tryz.underlying208 Tryz.underlying210 rfl rfl Tryz.underlying9 cellsES cellsStr
  obtain ⟨a1, s1, hv1, -, -, -⟩ := laid_sentinel h.tail.tail.tail.tail gSyn gSynType Tryz.underlying111 rowES Tryz.underlying208 Tryz.underlying210 rfl rfl Tryz.underlying9 cellsES cellsStr
  have big : 6 ≤ W.heap.size := by
    have := World.var?_cell gRng hv0 0
    rcases Nat.lt_or_ge 5 W.heap.size with h' | h'
    · exact h'
    · simp [World.cell?, Array.getElem?_eq_none h'] at this
  exact ⟨big, hp, ⟨_, _, hv1⟩, ⟨_, _, hv0⟩⟩

/-- The door's own heap meets the condition. -/
theorem door_met (os : Os) (args : Array Value) : laidMetH Tryz.prog laid5 ((World.doorLaid Tryz.prog 400 os).forCall (fun _ _ => 0) ⟨#[], args, []⟩).memory :=
  laidMetH_of_parts3 (fuel := 8) (laidMet_of_run' 8 (by kernel_rfl) (by kernel_rfl)) (by kernel_rfl) (by kernel_rfl)

end Go.Proofs.YtciflobdpenpaaaGreatDoor
/-
  What the closings of the third layer share: a row of ranges and a value, opened from their readings.
-/
set_option linter.unusedSimpArgs false
set_option linter.unusedVariables false
namespace Go.Proofs.YtciflobdpenpaaaGreatDoor
open Go.ChangeShapes Go.WideShapes Go.ChangeAt Go.WideMaps Go.WideElems Go.RowKit Go.Joins

theorem cellsVal : Tryz.prog.cellsOf 44 = 3 := by kernel_rfl
section
variable {H : Type} {enc : TypeId × Value → H} {W : World} {base : Nat} {sp : Nat → Bool} {held : Bool}
end
section
variable {H : Type} {enc : TypeId × Value → H} {W : World}
end
end Go.Proofs.YtciflobdpenpaaaGreatDoor
/-
  An event opened from its reading.
-/
set_option linter.unusedSimpArgs false
set_option linter.unusedVariables false
namespace Go.Proofs.YtciflobdpenpaaaGreatDoor
open Go.Deep Go.ChangeShapes Go.WideShapes Go.ChangeAt Go.WideMaps Go.WideElems Go.RowKit Go.Joins

theorem cut3 {α : Type} (k : Nat) {l : List α} (h : l.length = k + 3) : ∃ a b c r, l = a :: b :: c :: r ∧ r.length = k := by
  cases l with
  | nil => simp at h
  | cons a l => cases l with
    | nil => simp at h
    | cons b l => cases l with
      | nil => simp at h
      | cons c l => exact ⟨a, b, c, l, rfl, by simpa using h⟩
theorem okWide_array {P : Program} {w : World} {r : Reach} {base : Nat} {t : TypeId} {v : Value} {n : Nat} {e : TypeId} (ht : P.underlying t = some (.array n e)) (h : Value.okWide P w r base t v) : ∃ cs, v = .agg cs ∧ cs.size = P.cellsOf t := by
  simp only [Value.okWide, ht] at h
  obtain ⟨cs, h1, h2, _⟩ := h
  exact ⟨cs, h1, h2⟩
theorem cellsEv : Tryz.prog.cellsOf 46 = 12 := by kernel_rfl
section
variable {H : Type} {enc : TypeId × Value → H} {W : World}
set_option maxRecDepth 100000 in
theorem open_cells {m : Nat} {c0 c1 c2 : Value} {y : DataW H × List MemPlace} (h : DataW.trod enc Tryz.prog W 0 (fun _ => true) true m 44 [c0, c1, c2] = some y) :
    ∃ (k n : Int) (s : ByteArray), c0 = .int .i64 k ∧ c1 = .int .i64 n ∧ c2 = .string s ∧ (Lit.int .i64 n).wf = true ∧ s.size ≤ maxLen := by
  obtain ⟨y0, y1, y2, m', rfl, _, h0, h1, h2⟩ := trod_struct3 Tryz.underlying44 h
  simp only [cellsI, cellsS] at h0 h1 h2
  obtain ⟨k, e0, rfl, wk⟩ := DataW.trod_int Tryz.underlying3 h0
  obtain ⟨n, e1, rfl, wn⟩ := DataW.trod_int Tryz.underlying3 h1
  obtain ⟨s, e2, rfl, ws⟩ := DataW.trod_string Tryz.underlying9 h2
  simp at e0 e1 e2
  subst e0 e1 e2
  exact ⟨k, n, s, rfl, rfl, rfl, wn, ws⟩
set_option maxRecDepth 100000 in
theorem open_evA {r : Reach} {b0 : Nat} {v : Value} {d : DataW H} {p : List MemPlace} (hv : Value.okWide Tryz.prog W r b0 46 v) (h : DataW.Trod enc Tryz.prog W 0 (fun _ => true) true 46 v d p) :
    ∃ e : EvV, v = evVal e ∧ evFit e ∧ inE e := by
  obtain ⟨cs, rfl, hsz⟩ := okWide_array Tryz.underlying46 hv
  rw [cellsEv] at hsz
  obtain ⟨l⟩ := cs
  obtain ⟨a0, a1, a2, l1, rfl, q1⟩ := cut3 9 (show l.length = 9 + 3 from hsz)
  obtain ⟨b0, b1, b2, l2, rfl, q2⟩ := cut3 6 q1
  obtain ⟨c0, c1, c2, l3, rfl, q3⟩ := cut3 3 q2
  obtain ⟨d0, d1, d2, l4, rfl, q4⟩ := cut3 0 q3
  obtain rfl : l4 = [] := List.length_eq_zero_iff.1 q4
  obtain ⟨fuel, hf⟩ := h
  obtain ⟨xs, m, _, hx, _, hlen, he⟩ := DataW.trod_array Tryz.underlying46 hf
  simp only [cellsVal, Value.cells] at he
  have g0 := he 0 (by omega)
  have g1 := he 1 (by omega)
  have g2 := he 2 (by omega)
  have g3 := he 3 (by omega)
  match xs, hlen with
  | [y0, y1, y2, y3], _ =>
    simp at g0 g1 g2 g3
    obtain ⟨k0, n0, s0, rfl, rfl, rfl, w1, w2⟩ := open_cells g0
    obtain ⟨k1, n1, s1, rfl, rfl, rfl, w4, w5⟩ := open_cells g1
    obtain ⟨k2, n2, s2, rfl, rfl, rfl, w7, w8⟩ := open_cells g2
    obtain ⟨k3, n3, s3, rfl, rfl, rfl, w10, w11⟩ := open_cells g3
    refine ⟨⟨(k0, n0, s0), (k1, n1, s1), (k2, n2, s2), (k3, n3, s3)⟩, rfl, ⟨w2, w5, w8, w11⟩, fun i hi => ?_⟩
    match i, hi with
    | 0, _ => exact bounds_i64 w1
    | 1, _ => exact bounds_i64 w4
    | 2, _ => exact bounds_i64 w7
    | 3, _ => exact bounds_i64 w10
end
end Go.Proofs.YtciflobdpenpaaaGreatDoor
