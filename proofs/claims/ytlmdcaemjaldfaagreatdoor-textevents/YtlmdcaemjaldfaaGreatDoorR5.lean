import Derived.Test.YtlmdcaemjaldfaaGreatDoorR4
import Derived.Test.YtlmdcaemjaldfaaGreatDoorR2
import Derived.Test.YtlmdcaemjaldfaaGreatDoorR1
set_option linter.unusedSimpArgs false
set_option linter.unusedVariables false
namespace Go.Proofs.YtlmdcaemjaldfaaGreatDoor
open Go.RowKit
def Parsed (m : Nat) (W : World) (l : List UInt8) (d : EC) (err : Int) : Prop :=
  match parseP l with
  | some x => err = 0 ∧ Lives m W fun w'' => ExAt (l.length + 9) w'' d.val x
  | none => err = 2 ∧ d = ec0
theorem Parsed.lt {m g : Nat} {W W' : World} {l : List UInt8} {d : EC} {err : Int} (h : Parsed m W l d err) (k : W.grownBy W' (some g)) (hg : g < m) : Parsed m W' l d err := by
  unfold Parsed at *
  split at h
  · exact ⟨h.1, h.2.lt k hg⟩
  · exact h
theorem Parsed.back {m m' : Nat} {W : World} {l : List UInt8} {d : EC} {err : Int} (h : Parsed m W l d err) (hm : m' ≤ m) : Parsed m' W l d err := by
  unfold Parsed at *
  split at h
  · exact ⟨h.1, h.2.back hm⟩
  · exact h
section
variable {ops : Array Oper} {Q : Exit → Act → World → Prop} {S : World → Prop} {o : Oper} {a : Act}
theorem wt_defer {rest : List Oper} {w : World} (hw : Region.wanted o (yielded ops a.tmps) = true) (x : Operand) (ts : Array TypeId) (ho : o.op = .defer { callee := .value x, args := #[], argTypes := ts }) (f : Nat) (caps : Array Value) (hx : a.eval x = .func (.func f) #[] caps)
    (h : wpList Tryz.prog ops Q rest ({ a with defers := { target := .fn (.func f) caps, args := #[] } :: a.defers }.put o.dst undef) w) : wpList Tryz.prog ops Q (o :: rest) a w := by
  unfold wpList
  rw [if_pos hw]
  left
  have hr : (execOp a.eval o).run Tryz.prog w = .ok (.defer { target := .fn (.func f) caps, args := #[] }) w := by
    simp [execOp, ho, resolve, hx, Deferred.ofValue]
  unfold Oper.wp
  rw [hr, Oper.upon_defer]
  exact h
set_option maxRecDepth 100000 in
theorem wt_newRd {o2 : Oper} {rest : List Oper} {w : World} (hw : Region.wanted o (yielded ops a.tmps) = true) (x : Operand) (ho : o.op = .build 100 #[(0, x)]) (l : List UInt8) (hx : a.eval x = .string (bs l)) (y : Operand) (ho2 : o2.op = .box 100 y) (hw2 : ∀ v, Region.wanted o2 (yielded ops (a.put o.dst v).tmps) = true) (hy : ∀ v, (a.put o.dst v).eval y = v)
    (h : ∀ W g v, w.heap.size ≤ g → RdL W g l → Below w.heap.size w W → wpList Tryz.prog ops Q rest ((a.put o.dst v).put o2.dst (.pointer (some ⟨g, 0, none⟩))) W) : wpList Tryz.prog ops Q (o :: o2 :: rest) a w := by
  refine wl_run hw (.agg #[.string (bs l), .int .u32 0, .int .i32 0, .int .u32 0, .string ⟨#[]⟩, .string ⟨#[]⟩, .string ⟨#[]⟩, .string ⟨#[]⟩]) w ?_ ?_
  · simp only [execOp, ho, List.map_toArray, List.map_cons, List.map_nil, hx]
    go_simp
  · refine wl_run (hw2 _) (.pointer (some ⟨w.heap.size, 0, none⟩)) (w.alloc (freshRd (bs l))) ?_ (h _ _ _ (Nat.le_refl _) (Or.inl (heap_new _ _)) ((Below.refl _ w).alloc (Nat.le_refl _) _))
    simp only [execOp, ho2, hy, freshRd]
    go_simp
end
theorem results_cells2 {fn : Func} {p q : Tmp} {ty : TypeId} (h : fn.results = #[.cell p ty, .cell q 30]) (tmps : Array Value) (w : World) (g k : Nat) (cs : Array Value) (z : Int)
    (hp : tmps.getD p undef = .pointer (some ⟨g, 0, none⟩)) (hq : tmps.getD q undef = .pointer (some ⟨k, 0, none⟩)) (hk : w.heap[k]? = some (.cells #[.int .i64 z] 30 (0, 0)))
    (hv : (loadVar ty ⟨g, 0, none⟩).run Tryz.prog w = .ok (.agg cs) w) :
    (results fn tmps).run Tryz.prog w = .ok (.tuple #[.agg cs, .int .i64 z]) w := by
  have hp' : tmps[p]?.getD undef = .pointer (some ⟨g, 0, none⟩) := by simpa using hp
  have hq' : tmps[q]?.getD undef = .pointer (some ⟨k, 0, none⟩) := by simpa using hq
  have c0 := cell_heap hk 0
  have hl : (loadVar 30 ⟨k, 0, none⟩).run Tryz.prog w = .ok (.int .i64 z) w := by
    simp at c0
    go_simp
  simp [results, h, hp', hq', asAddr, hv, hl]
theorem parseP_no {l : List UInt8} (h : exL (l.length + 9) l = none) : parseP l = none := by unfold parseP; rw [h]
theorem parseP_yes {l r : List UInt8} {x : ExV} (h : exL (l.length + 9) l = some (x, r)) (h1 : (printR x).2 = 0) (h2 : (printR x).1 = l) : parseP l = some x := by
  unfold parseP
  rw [h]
  unfold printR at h1 h2
  split at h1
  · rename_i hr
    rw [if_pos hr] at h2
    split at h1
    · rename_i hl
      rw [if_pos hl] at h2
      exact if_pos ⟨hr, hl, h2⟩
    · cases h1
  · cases h1
theorem parseP_bad {l r : List UInt8} {x : ExV} (h : exL (l.length + 9) l = some (x, r)) (h1 : ¬ (printR x).2 = 0 ∨ ¬ (printR x).1 = l) : parseP l = none := by
  unfold parseP
  rw [h]
  dsimp only
  rw [if_neg]
  rintro ⟨hr, hl, ht⟩
  unfold printR at h1
  rw [if_pos hr, if_pos hl] at h1
  rcases h1 with h1 | h1
  · exact h1 rfl
  · exact h1 ht
def parseE (l : List UInt8) : Option EvV :=
  match evL l with
  | none => none
  | some (e, _) => if rightE e = true ∧ evTxt e = l then some e else none
theorem parseE_no {l : List UInt8} (h : evL l = none) : parseE l = none := by unfold parseE; rw [h]
theorem parseE_yes {l r : List UInt8} {x : EvV} (h : evL l = some (x, r)) (h1 : (evR x).2 = 0) (h2 : (evR x).1 = l) : parseE l = some x := by
  unfold parseE
  rw [h]
  unfold evR at h1 h2
  split at h1
  · rename_i hr
    rw [if_pos hr] at h2
    exact if_pos ⟨hr, h2⟩
  · cases h1
theorem parseE_bad {l r : List UInt8} {x : EvV} (h : evL l = some (x, r)) (h1 : ¬ (evR x).2 = 0 ∨ ¬ (evR x).1 = l) : parseE l = none := by
  unfold parseE
  rw [h]
  dsimp only
  rw [if_neg]
  rintro ⟨hr, ht⟩
  unfold evR at h1
  rw [if_pos hr] at h1
  rcases h1 with h1 | h1
  · exact h1 rfl
  · exact h1 ht
def okE (e : EvV) : Prop := evFit e ∧ inE e
theorem setAt_ok {e : EvV} {z : Int} {v : Va} (h : okE e) (hs : v.2.2.size ≤ 8) (hi : -9223372036854775808 ≤ v.2.1 ∧ v.2.1 ≤ 9223372036854775807) : okE (e.setAt z v) := by
  obtain ⟨⟨f0, f1, f2, f3⟩, hE⟩ := h
  have h8 : v.2.2.size ≤ maxLen := by unfold maxLen; omega
  have e0 := hE 0 (by omega)
  have e1 := hE 1 (by omega)
  have e2 := hE 2 (by omega)
  have e3 := hE 3 (by omega)
  unfold EvV.setAt
  split
  · exact ⟨⟨h8, f1, f2, f3⟩, fun i hi' => by match i, hi' with | 0, _ => exact hi | 1, _ => exact e1 | 2, _ => exact e2 | 3, _ => exact e3⟩
  · split
    · exact ⟨⟨f0, h8, f2, f3⟩, fun i hi' => by match i, hi' with | 0, _ => exact e0 | 1, _ => exact hi | 2, _ => exact e2 | 3, _ => exact e3⟩
    · split
      · exact ⟨⟨f0, f1, h8, f3⟩, fun i hi' => by match i, hi' with | 0, _ => exact e0 | 1, _ => exact e1 | 2, _ => exact hi | 3, _ => exact e3⟩
      · exact ⟨⟨f0, f1, f2, h8⟩, fun i hi' => by match i, hi' with | 0, _ => exact e0 | 1, _ => exact e1 | 2, _ => exact e2 | 3, _ => exact hi⟩
theorem valL_num {l r : List UInt8} {v : Va} (h : valL l = some (v, r)) : -9223372036854775808 ≤ v.2.1 ∧ v.2.1 ≤ 9223372036854775807 := by
  obtain ⟨h1, _, h3⟩ := valL_ok h
  by_cases k : v.1 = 1
  · exact h1 k
  · have : v.2.1 = 0 := by
      unfold rightB at h3
      split at h3
      · rw [Bool.and_eq_true, beq_iff_eq] at h3; exact h3.1
      · split at h3
        · rw [Bool.and_eq_true, beq_iff_eq] at h3; exact h3.1
        · cases h3
    omega
theorem evL_ok {l r : List UInt8} {x : EvV} (h : evL l = some (x, r)) : okE x := by
  unfold evL at h
  split at h
  · cases h
  · refine items_inv 125 evItemL okE (fun a l a' r h0 h => ?_) _ _ _ _ _ _ ⟨evZ_fit, fun i hi => by match i, hi with | 0, _ => decide | 1, _ => decide | 2, _ => decide | 3, _ => decide⟩ h
    unfold evItemL at h
    split at h
    · cases h
    · split at h
      · cases h
      · split at h
        · cases h
        · rename_i v q hv
          injection h with h; injection h with h _
          rw [← h]
          exact setAt_ok h0 (valL_ok hv).2.1 (valL_num hv)
set_option maxHeartbeats 1000000 in
set_option maxRecDepth 100000 in
theorem readX_any (l : List UInt8) (w : World) (HE : Env w) (hl : l.length ≤ 1024) :
    Calls Tryz.prog 17 #[.string (bs l), .func (.func 18) #[] #[], .func (.func 9) #[] #[]] w fun e w' => (∃ d err, e = .returned (.tuple #[EC.val d, .int .i64 err]) ∧ Parsed w.heap.size w' l d err) ∧ Below w.heap.size w w' := by
  have w6 : 6 ≤ w.heap.size := HE.big
  have D : w.grownBy w none := grown_refl _ _
  go_enter_defers Tryz.func17, Tryz.ntmps17
  refine wp_seq_k (fun K1 hK1 => ?_)
  refine wp_region_lit ?_
  refine wt_allocEx (o := ⟨_, _, _, _, _, _⟩) (by rfl) rfl (fun v1 g1 hg G1 kb => ?_)
  simp only [Act.put, lzA, lzB, lzC]
  have ge_g1 : w.heap.size ≤ g1 := Nat.le_trans D.size hg
  have six_g1 : 6 ≤ g1 := Nat.le_trans w6 ge_g1
  clear hg
  replace D := grown_below D kb
  replace HE := HE.on kb
  clear kb
  replace G1 : v1.heap[g1]? = some (.cells #[.int .i64 0, .int .i64 0, .bool false, .slice none 0 0, .bool false, .slice none 0 0, .slice none 0 0] 29 (0, 0)) := G1
  refine wt_allocE (o := ⟨_, _, _, _, _, _⟩) (by rfl) rfl (fun v2 g2 hg G2 kb => ?_)
  simp only [Act.put, lzA, lzB, lzC]
  have n_g1_g2 : g1 ≠ g2 := by have := lt_heap G1; omega
  have ge_g2 : w.heap.size ≤ g2 := Nat.le_trans D.size hg
  have six_g2 : 6 ≤ g2 := Nat.le_trans w6 ge_g2
  clear hg
  replace D := grown_below D kb
  replace HE := HE.on kb
  replace G1 := heap_on G1 kb
  clear kb
  replace G2 : v2.heap[g2]? = some (.cells #[.int .i64 0] 30 (0, 0)) := G2
  refine wpList_nil ?_
  refine hK1 _ _ ?_
  clear hK1 K1
  refine wp_seq_k (fun K2 hK2 => ?_)
  refine wp_region_lit ?_
  refine wl_yield (o := ⟨_, _, _, _, _, _⟩) (.func (.func 40) #[] #[.pointer (some ⟨g1, 0, none⟩), .pointer (some ⟨g2, 0, none⟩)]) (yt_fn2 (by rfl) _ _ _ rfl _ _ rfl rfl) ?_
  simp only [Act.put, lzA, lzB, lzC]
  refine wt_defer (o := ⟨_, _, _, _, _, _⟩) (by rfl) _ _ rfl 40 #[.pointer (some ⟨g1, 0, none⟩), .pointer (some ⟨g2, 0, none⟩)] rfl ?_
  simp only [Act.put, lzA, lzB, lzC]
  refine wpList_nil ?_
  refine hK2 _ _ ?_
  clear hK2 K2
  refine wp_seq_k (fun K3 hK3 => ?_)
  refine wp_region_lit ?_
  refine wl_yield (o := ⟨_, _, _, _, _, _⟩) (.func (.func 18) #[] #[]) (yl_move (by rfl) _ rfl _ rfl) ?_
  simp only [Act.put, lzA, lzB, lzC]
  refine wl_yield (o := ⟨_, _, _, _, _, _⟩) (.string (bs l)) (yl_move (by rfl) _ rfl _ rfl) ?_
  simp only [Act.put, lzA, lzB, lzC]
  refine wt_newRd (o := ⟨_, _, _, _, _, _⟩) (o2 := ⟨_, _, _, _, _, _⟩) (by rfl) _ rfl l rfl _ rfl (fun _ => rfl) (fun _ => rfl) (fun v3 g3 vr hg HR kb => ?_)
  simp only [Act.put, lzA, lzB, lzC]
  have n_g1_g3 : g1 ≠ g3 := by have := lt_heap G1; omega
  have n_g2_g3 : g2 ≠ g3 := by have := lt_heap G2; omega
  have ge_g3 : w.heap.size ≤ g3 := Nat.le_trans D.size hg
  have six_g3 : 6 ≤ g3 := Nat.le_trans w6 ge_g3
  clear hg
  replace D := grown_below D kb
  replace HE := HE.on kb
  replace G1 := heap_on G1 kb
  replace G2 := heap_on G2 kb
  clear kb
  refine wt_callv (o := ⟨_, _, _, _, _, _⟩) (by rfl) 18 _ _ _ rfl #[] rfl #[.pointer (some ⟨g3, 0, none⟩)] rfl (run_call Tryz.func18 (by kernel_rfl) (by kernel_rfl)) ?_
  refine (expr_all g3 100000 (Nat.le_refl _) (l.length + 9) l _ ⟨HE, six_g3, HR⟩ (by omega) (by omega)).mono ?_
  rintro r v4 (⟨x, r2, d, hx, rfl, LV, hr2, kg⟩ | ⟨hx, rfl, kg⟩)
  · have lt_g1 : g1 < v3.heap.size := lt_heap G1
    have lt_g2 : g2 < v3.heap.size := lt_heap G2
    have bs0 : w.heap.size ≤ v3.heap.size := D.size
    replace LV : Lives v3.heap.size v4 (fun w'' => ExAt (l.length + 9) w'' d.val x) := LV
    replace D := gr_new D ge_g3 kg
    replace HE := Env.gr HE kg six_g3
    replace G1 := heap_gr G1 kg n_g1_g3
    replace G2 := heap_gr G2 kg n_g2_g3
    clear kg
    refine Or.inl ⟨EC.val d, rfl, ?_⟩
    simp only [Act.put, lzA, lzB, lzC]
    refine wt_putEx (o := ⟨_, _, _, _, _, _⟩) rfl _ _ rfl _ rfl (d) rfl G1 rfl (fun v5 X kg => ?_)
    simp only [Act.put, lzA, lzB, lzC]
    replace D := gr_new D ge_g1 kg
    replace HE := Env.gr HE kg six_g1
    replace G2 := heap_gr G2 kg (Ne.symm n_g1_g2)
    replace LV := LV.lt kg lt_g1
    clear kg
    replace G1 : v5.heap[g1]? = some (.cells #[.int .i64 (d.k), .int .i64 (d.t), .bool (d.s.a), .slice d.s.p d.s.n d.s.c, .bool (d.s.d), .slice d.s.q d.s.m d.s.e, .slice d.p d.n d.c] 29 (0, 0)) := X
    clear X
    refine wpList_nil ?_
    refine hK3 _ _ ?_
    clear hK3 K3
    refine wp_seq_k (fun K4 hK4 => ?_)
    refine wp_seq_k (fun K5 hK5 => ?_)
    refine wp_region_lit ?_
    refine wl_yield (o := ⟨_, _, _, _, _, _⟩) (.func (.func 9) #[] #[]) (yl_move (by rfl) _ rfl _ rfl) ?_
    simp only [Act.put, lzA, lzB, lzC]
    refine wl_yield (o := ⟨_, _, _, _, _, _⟩) (EC.val d) (yl_ex (by rfl) _ rfl _ 0 rfl (c := ⟨d.k, d.t, ⟨d.s.a, d.s.p, d.s.n, d.s.c, d.s.d, d.s.q, d.s.m, d.s.e⟩, d.p, d.n, d.c⟩) (fun _ h => by subst h; exact ⟨cell_heap G1 0, cell_heap G1 1, cell_heap G1 2, cell_heap G1 3, cell_heap G1 4, cell_heap G1 5, cell_heap G1 6⟩)) ?_
    simp only [Act.put, lzA, lzB, lzC]
    refine wt_callv (o := ⟨_, _, _, _, _, _⟩) (by rfl) 9 _ _ _ rfl #[] rfl #[EC.val d] rfl (run_call Tryz.func9 (by kernel_rfl) (by kernel_rfl)) ?_
    refine (print_any (l.length + 9) d x _ HE (LV _ (Kept.refl _ _)) (by omega)).mono ?_
    rintro r v6 ⟨rfl, kb⟩
    replace D := grown_below D kb
    replace HE := HE.on kb
    replace G1 := heap_on G1 kb
    replace G2 := heap_on G2 kb
    replace LV := LV.on kb
    clear kb
    refine Or.inl ⟨.tuple #[.string (bs ((printR x).1)), .int .i64 ((printR x).2)], rfl, ?_⟩
    simp only [Act.put, lzA, lzB, lzC]
    refine wl_yield (o := ⟨_, _, _, _, _, _⟩) (.tuple #[.string (bs ((printR x).1)), .int .i64 ((printR x).2)]) (yl_move (by rfl) _ rfl _ rfl) ?_
    simp only [Act.put, lzA, lzB, lzC]
    refine wl_yield (o := ⟨_, _, _, _, _, _⟩) (.string (bs ((printR x).1))) (yl_extract0 (by rfl) _ rfl _ _ rfl) ?_
    simp only [Act.put, lzA, lzB, lzC]
    refine wl_yield (o := ⟨_, _, _, _, _, _⟩) (.int .i64 ((printR x).2)) (yl_extract1 (by rfl) _ rfl _ _ rfl) ?_
    simp only [Act.put, lzA, lzB, lzC]
    refine wl_yield (o := ⟨_, _, _, _, _, _⟩) (.string (bs ((printR x).1))) (yl_assign (by rfl) _ rfl _ rfl) ?_
    simp only [Act.put, lzA, lzB, lzC]
    refine wl_yield (o := ⟨_, _, _, _, _, _⟩) (.int .i64 ((printR x).2)) (yl_assign (by rfl) _ rfl _ rfl) ?_
    simp only [Act.put, lzA, lzB, lzC]
    refine wpList_nil ?_
    refine hK5 _ _ ?_
    clear hK5 K5
    refine wp_seq_k (fun K6 hK6 => ?_)
    by_cases hp0 : (printR x).2 = 0
    · by_cases hp1 : (printR x).1 = l
      · refine wp_region_lit ?_
        refine wl_yield (o := ⟨_, _, _, _, _, _⟩) (.int .i64 ((printR x).2)) (yl_move (by rfl) _ rfl _ rfl) ?_
        simp only [Act.put, lzA, lzB, lzC]
        refine wl_yield (o := ⟨_, _, _, _, _, _⟩) (.bool false) (yt_neqE (by rfl) _ _ _ rfl ((printR x).2) 0 false rfl rfl (decide_eq_false (by omega))) ?_
        simp only [Act.put, lzA, lzB, lzC]
        refine wl_yield (o := ⟨_, _, _, _, _, _⟩) (.bool false) (yl_move (by rfl) _ rfl _ rfl) ?_
        simp only [Act.put, lzA, lzB, lzC]
        refine wl_yield (o := ⟨_, _, _, _, _, _⟩) (.string (bs ((printR x).1))) (yl_move (by rfl) _ rfl _ rfl) ?_
        simp only [Act.put, lzA, lzB, lzC]
        refine wl_yield (o := ⟨_, _, _, _, _, _⟩) (.string (bs l)) (yl_move (by rfl) _ rfl _ rfl) ?_
        simp only [Act.put, lzA, lzB, lzC]
        refine wl_yield (o := ⟨_, _, _, _, _, _⟩) (.bool false) (yt_neqS (by rfl) _ _ _ rfl ((printR x).1) l false rfl rfl (by rw [hp1]; simp)) ?_
        simp only [Act.put, lzA, lzB, lzC]
        refine wl_yield (o := ⟨_, _, _, _, _, _⟩) (.bool false) (yl_pickF (by rfl) _ _ _ rfl rfl _ rfl) ?_
        simp only [Act.put, lzA, lzB, lzC]
        refine wpList_nil ?_
        refine hK6 _ _ ?_
        clear hK6 K6
        refine wp_cond_false rfl ?_
        refine wp_skip ?_
        refine hK4 _ _ ?_
        clear hK4 K4
        refine wp_seq_k (fun K7 hK7 => ?_)
        refine wp_region_lit ?_
        refine wl_yield (o := ⟨_, _, _, _, _, _⟩) (EC.val d) (yl_ex (by rfl) _ rfl _ 0 rfl (c := ⟨d.k, d.t, ⟨d.s.a, d.s.p, d.s.n, d.s.c, d.s.d, d.s.q, d.s.m, d.s.e⟩, d.p, d.n, d.c⟩) (fun _ h => by subst h; exact ⟨cell_heap G1 0, cell_heap G1 1, cell_heap G1 2, cell_heap G1 3, cell_heap G1 4, cell_heap G1 5, cell_heap G1 6⟩)) ?_
        simp only [Act.put, lzA, lzB, lzC]
        refine wt_putEx (o := ⟨_, _, _, _, _, _⟩) rfl _ _ rfl _ rfl (d) rfl G1 rfl (fun v7 X kg => ?_)
        simp only [Act.put, lzA, lzB, lzC]
        replace D := gr_new D ge_g1 kg
        replace HE := Env.gr HE kg six_g1
        replace G2 := heap_gr G2 kg (Ne.symm n_g1_g2)
        replace LV := LV.lt kg lt_g1
        clear kg
        replace G1 : v7.heap[g1]? = some (.cells #[.int .i64 (d.k), .int .i64 (d.t), .bool (d.s.a), .slice d.s.p d.s.n d.s.c, .bool (d.s.d), .slice d.s.q d.s.m d.s.e, .slice d.p d.n d.c] 29 (0, 0)) := X
        clear X
        refine wt_putE (o := ⟨_, _, _, _, _, _⟩) (by rfl) _ _ rfl _ 0 rfl 0 rfl G2 (by simp) (fun v8 X kg => ?_)
        simp only [Act.put, lzA, lzB, lzC]
        replace D := gr_new D ge_g2 kg
        replace HE := Env.gr HE kg six_g2
        replace G1 := heap_gr G1 kg n_g1_g2
        replace LV := LV.lt kg lt_g2
        clear kg
        replace G2 : v8.heap[g2]? = some (.cells #[.int .i64 0] 30 (0, 0)) := X
        clear X
        refine wpList_nil ?_
        refine hK7 _ _ ?_
        clear hK7 K7
        refine wp_ret ?_
        refine leaves_cons (f := 40) (args := #[.pointer (some ⟨g1, 0, none⟩), .pointer (some ⟨g2, 0, none⟩)]) (by simp) (by simp [go_sem]) ?_
        refine (recX_none g1 g2 _).mono ?_
        rintro r u W ⟨rfl, rfl, rfl⟩
        refine ⟨_, results_cells2 rfl _ _ g1 g2 _ 0 rfl rfl G2 (run_loadVar_row _ _ _ _ _ _ _ G1 Tryz.underlying29 rfl (by rw [infoEx]; rfl)), ⟨d, 0, rfl, by unfold Parsed; rw [parseP_yes hx hp0 hp1]; exact ⟨rfl, LV.back bs0⟩⟩, below_none D⟩
      · refine wp_region_lit ?_
        refine wl_yield (o := ⟨_, _, _, _, _, _⟩) (.int .i64 ((printR x).2)) (yl_move (by rfl) _ rfl _ rfl) ?_
        simp only [Act.put, lzA, lzB, lzC]
        refine wl_yield (o := ⟨_, _, _, _, _, _⟩) (.bool false) (yt_neqE (by rfl) _ _ _ rfl ((printR x).2) 0 false rfl rfl (decide_eq_false (by omega))) ?_
        simp only [Act.put, lzA, lzB, lzC]
        refine wl_yield (o := ⟨_, _, _, _, _, _⟩) (.bool false) (yl_move (by rfl) _ rfl _ rfl) ?_
        simp only [Act.put, lzA, lzB, lzC]
        refine wl_yield (o := ⟨_, _, _, _, _, _⟩) (.string (bs ((printR x).1))) (yl_move (by rfl) _ rfl _ rfl) ?_
        simp only [Act.put, lzA, lzB, lzC]
        refine wl_yield (o := ⟨_, _, _, _, _, _⟩) (.string (bs l)) (yl_move (by rfl) _ rfl _ rfl) ?_
        simp only [Act.put, lzA, lzB, lzC]
        refine wl_yield (o := ⟨_, _, _, _, _, _⟩) (.bool true) (yt_neqS (by rfl) _ _ _ rfl ((printR x).1) l true rfl rfl (by simpa using hp1)) ?_
        simp only [Act.put, lzA, lzB, lzC]
        refine wl_yield (o := ⟨_, _, _, _, _, _⟩) (.bool true) (yl_pickF (by rfl) _ _ _ rfl rfl _ rfl) ?_
        simp only [Act.put, lzA, lzB, lzC]
        refine wpList_nil ?_
        refine hK6 _ _ ?_
        clear hK6 K6
        refine wp_cond_true rfl ?_
        refine wp_region_lit ?_
        refine wl_yield (o := ⟨_, _, _, _, _, _⟩) (.iface 30 (.int .i64 2)) (yt_iface (by rfl) _ rfl 2 rfl) ?_
        simp only [Act.put, lzA, lzB, lzC]
        refine wt_panic (o := ⟨_, _, _, _, _, _⟩) (by rfl) _ rfl _ _ rfl ?_
        have hW := parseP_bad hx (Or.inr hp1)
        refine leaves_cons (f := 40) (args := #[.pointer (some ⟨g1, 0, none⟩), .pointer (some ⟨g2, 0, none⟩)]) (by simp) (by simp [go_sem]) ?_
        refine (recX_some g1 g2 n_g1_g2 ⟨d.k, d.t, ⟨d.s.a, d.s.p, d.s.n, d.s.c, d.s.d, d.s.q, d.s.m, d.s.e⟩, d.p, d.n, d.c⟩ 0 w v6 ge_g1 ge_g2 D G1 G2).mono ?_
        rintro r u W ⟨rfl, rfl, K6, K7, D'⟩
        refine ⟨_, results_cells2 rfl _ W g1 g2 _ 2 rfl rfl K7 (run_loadVar_row W _ _ _ _ _ _ K6 Tryz.underlying29 rfl (by rw [infoEx]; rfl)), ⟨ec0, 2, rfl, by unfold Parsed; rw [hW]; exact ⟨rfl, rfl⟩⟩, below_none D'⟩
    · refine wp_region_lit ?_
      refine wl_yield (o := ⟨_, _, _, _, _, _⟩) (.int .i64 ((printR x).2)) (yl_move (by rfl) _ rfl _ rfl) ?_
      simp only [Act.put, lzA, lzB, lzC]
      refine wl_yield (o := ⟨_, _, _, _, _, _⟩) (.bool true) (yt_neqE (by rfl) _ _ _ rfl ((printR x).2) 0 true rfl rfl (decide_eq_true (by omega))) ?_
      simp only [Act.put, lzA, lzB, lzC]
      refine wl_yield (o := ⟨_, _, _, _, _, _⟩) (.bool true) (yl_move (by rfl) _ rfl _ rfl) ?_
      simp only [Act.put, lzA, lzB, lzC]
      with_reducible refine wl_yield (o := ⟨_, _, _, _, _, _⟩) undef (yl_undef (by kernel_rfl)) ?_
      simp only [Act.put, lzA, lzB, lzC]
      with_reducible refine wl_yield (o := ⟨_, _, _, _, _, _⟩) undef (yl_undef (by kernel_rfl)) ?_
      simp only [Act.put, lzA, lzB, lzC]
      with_reducible refine wl_yield (o := ⟨_, _, _, _, _, _⟩) undef (yl_undef (by kernel_rfl)) ?_
      simp only [Act.put, lzA, lzB, lzC]
      refine wl_yield (o := ⟨_, _, _, _, _, _⟩) (.bool true) (yl_pickT (by rfl) _ _ _ rfl rfl _ rfl) ?_
      simp only [Act.put, lzA, lzB, lzC]
      refine wpList_nil ?_
      refine hK6 _ _ ?_
      clear hK6 K6
      refine wp_cond_true rfl ?_
      refine wp_region_lit ?_
      refine wl_yield (o := ⟨_, _, _, _, _, _⟩) (.iface 30 (.int .i64 2)) (yt_iface (by rfl) _ rfl 2 rfl) ?_
      simp only [Act.put, lzA, lzB, lzC]
      refine wt_panic (o := ⟨_, _, _, _, _, _⟩) (by rfl) _ rfl _ _ rfl ?_
      have hW := parseP_bad hx (Or.inl hp0)
      refine leaves_cons (f := 40) (args := #[.pointer (some ⟨g1, 0, none⟩), .pointer (some ⟨g2, 0, none⟩)]) (by simp) (by simp [go_sem]) ?_
      refine (recX_some g1 g2 n_g1_g2 ⟨d.k, d.t, ⟨d.s.a, d.s.p, d.s.n, d.s.c, d.s.d, d.s.q, d.s.m, d.s.e⟩, d.p, d.n, d.c⟩ 0 w v6 ge_g1 ge_g2 D G1 G2).mono ?_
      rintro r u W ⟨rfl, rfl, K6, K7, D'⟩
      refine ⟨_, results_cells2 rfl _ W g1 g2 _ 2 rfl rfl K7 (run_loadVar_row W _ _ _ _ _ _ K6 Tryz.underlying29 rfl (by rw [infoEx]; rfl)), ⟨ec0, 2, rfl, by unfold Parsed; rw [hW]; exact ⟨rfl, rfl⟩⟩, below_none D'⟩
  · replace D := gr_new D ge_g3 kg
    replace HE := Env.gr HE kg six_g3
    replace G1 := heap_gr G1 kg n_g1_g3
    replace G2 := heap_gr G2 kg n_g2_g3
    clear kg
    refine Or.inr ⟨_, rfl, ?_⟩
    have hW := parseP_no hx
    refine leaves_cons (f := 40) (args := #[.pointer (some ⟨g1, 0, none⟩), .pointer (some ⟨g2, 0, none⟩)]) (by simp) (by simp [go_sem]) ?_
    refine (recX_some g1 g2 n_g1_g2 ⟨0, 0, ⟨false, none, 0, 0, false, none, 0, 0⟩, none, 0, 0⟩ 0 w v4 ge_g1 ge_g2 D G1 G2).mono ?_
    rintro r u W ⟨rfl, rfl, K6, K7, D'⟩
    refine ⟨_, results_cells2 rfl _ W g1 g2 _ 2 rfl rfl K7 (run_loadVar_row W _ _ _ _ _ _ K6 Tryz.underlying29 rfl (by rw [infoEx]; rfl)), ⟨ec0, 2, rfl, by unfold Parsed; rw [hW]; exact ⟨rfl, rfl⟩⟩, below_none D'⟩
set_option maxHeartbeats 1000000 in
set_option maxRecDepth 100000 in
theorem readE_any (l : List UInt8) (w : World) (HE : Env w) (hl : l.length ≤ 10000) :
    Calls Tryz.prog 25 #[.string (bs l), .func (.func 26) #[] #[], .func (.func 12) #[] #[]] w fun e w' => (∃ d err, e = .returned (.tuple #[evVal d, .int .i64 err]) ∧ (match parseE l with | some x => err = 0 ∧ d = x | none => err = 2 ∧ d = evZ)) ∧ Below w.heap.size w w' := by
  have w6 : 6 ≤ w.heap.size := HE.big
  have D : w.grownBy w none := grown_refl _ _
  go_enter_defers Tryz.func25, Tryz.ntmps25
  refine wp_seq_k (fun K1 hK1 => ?_)
  refine wp_region_lit ?_
  refine wt_allocEv (o := ⟨_, _, _, _, _, _⟩) (by rfl) rfl (fun v1 g1 hg G1 kb => ?_)
  simp only [Act.put, lzA, lzB, lzC]
  have ge_g1 : w.heap.size ≤ g1 := Nat.le_trans D.size hg
  have six_g1 : 6 ≤ g1 := Nat.le_trans w6 ge_g1
  clear hg
  replace D := grown_below D kb
  replace HE := HE.on kb
  clear kb
  replace G1 : v1.heap[g1]? = some (.cells #[.int .i64 0, .int .i64 0, .string (bs ([])), .int .i64 0, .int .i64 0, .string (bs ([])), .int .i64 0, .int .i64 0, .string (bs ([])), .int .i64 0, .int .i64 0, .string (bs ([]))] 42 (0, 0)) := G1
  refine wt_allocE (o := ⟨_, _, _, _, _, _⟩) (by rfl) rfl (fun v2 g2 hg G2 kb => ?_)
  simp only [Act.put, lzA, lzB, lzC]
  have n_g1_g2 : g1 ≠ g2 := by have := lt_heap G1; omega
  have ge_g2 : w.heap.size ≤ g2 := Nat.le_trans D.size hg
  have six_g2 : 6 ≤ g2 := Nat.le_trans w6 ge_g2
  clear hg
  replace D := grown_below D kb
  replace HE := HE.on kb
  replace G1 := heap_on G1 kb
  clear kb
  replace G2 : v2.heap[g2]? = some (.cells #[.int .i64 0] 30 (0, 0)) := G2
  refine wpList_nil ?_
  refine hK1 _ _ ?_
  clear hK1 K1
  refine wp_seq_k (fun K2 hK2 => ?_)
  refine wp_region_lit ?_
  refine wl_yield (o := ⟨_, _, _, _, _, _⟩) (.func (.func 52) #[] #[.pointer (some ⟨g1, 0, none⟩), .pointer (some ⟨g2, 0, none⟩)]) (yt_fn2 (by rfl) _ _ _ rfl _ _ rfl rfl) ?_
  simp only [Act.put, lzA, lzB, lzC]
  refine wt_defer (o := ⟨_, _, _, _, _, _⟩) (by rfl) _ _ rfl 52 #[.pointer (some ⟨g1, 0, none⟩), .pointer (some ⟨g2, 0, none⟩)] rfl ?_
  simp only [Act.put, lzA, lzB, lzC]
  refine wpList_nil ?_
  refine hK2 _ _ ?_
  clear hK2 K2
  refine wp_seq_k (fun K3 hK3 => ?_)
  refine wp_region_lit ?_
  refine wl_yield (o := ⟨_, _, _, _, _, _⟩) (.func (.func 26) #[] #[]) (yl_move (by rfl) _ rfl _ rfl) ?_
  simp only [Act.put, lzA, lzB, lzC]
  refine wl_yield (o := ⟨_, _, _, _, _, _⟩) (.string (bs l)) (yl_move (by rfl) _ rfl _ rfl) ?_
  simp only [Act.put, lzA, lzB, lzC]
  refine wt_newRd (o := ⟨_, _, _, _, _, _⟩) (o2 := ⟨_, _, _, _, _, _⟩) (by rfl) _ rfl l rfl _ rfl (fun _ => rfl) (fun _ => rfl) (fun v3 g3 vr hg HR kb => ?_)
  simp only [Act.put, lzA, lzB, lzC]
  have n_g1_g3 : g1 ≠ g3 := by have := lt_heap G1; omega
  have n_g2_g3 : g2 ≠ g3 := by have := lt_heap G2; omega
  have ge_g3 : w.heap.size ≤ g3 := Nat.le_trans D.size hg
  have six_g3 : 6 ≤ g3 := Nat.le_trans w6 ge_g3
  clear hg
  replace D := grown_below D kb
  replace HE := HE.on kb
  replace G1 := heap_on G1 kb
  replace G2 := heap_on G2 kb
  clear kb
  refine wt_callv (o := ⟨_, _, _, _, _, _⟩) (by rfl) 26 _ _ _ rfl #[] rfl #[.pointer (some ⟨g3, 0, none⟩)] rfl (run_call Tryz.func26 (by kernel_rfl) (by kernel_rfl)) ?_
  refine (event_or g3 l _ ⟨HE, six_g3, HR⟩ (by omega)).mono ?_
  rintro r v4 (⟨x, r2, hx, rfl, hr2, kg⟩ | ⟨hx, rfl, kg⟩)
  · obtain ⟨hfx, hix⟩ := evL_ok hx
    replace D := gr_new D ge_g3 kg
    replace HE := Env.gr HE kg six_g3
    replace G1 := heap_gr G1 kg n_g1_g3
    replace G2 := heap_gr G2 kg n_g2_g3
    clear kg
    refine Or.inl ⟨evVal x, rfl, ?_⟩
    simp only [Act.put, lzA, lzB, lzC]
    refine wt_putEv (o := ⟨_, _, _, _, _, _⟩) rfl _ _ rfl _ rfl (x) rfl G1 rfl (fun v5 X kg => ?_)
    simp only [Act.put, lzA, lzB, lzC]
    replace D := gr_new D ge_g1 kg
    replace HE := Env.gr HE kg six_g1
    replace G2 := heap_gr G2 kg (Ne.symm n_g1_g2)
    clear kg
    replace G1 : v5.heap[g1]? = some (.cells #[.int .i64 (x.v0.1), .int .i64 (x.v0.2.1), .string x.v0.2.2, .int .i64 (x.v1.1), .int .i64 (x.v1.2.1), .string x.v1.2.2, .int .i64 (x.v2.1), .int .i64 (x.v2.2.1), .string x.v2.2.2, .int .i64 (x.v3.1), .int .i64 (x.v3.2.1), .string x.v3.2.2] 42 (0, 0)) := X
    clear X
    refine wpList_nil ?_
    refine hK3 _ _ ?_
    clear hK3 K3
    refine wp_seq_k (fun K4 hK4 => ?_)
    refine wp_seq_k (fun K5 hK5 => ?_)
    refine wp_region_lit ?_
    refine wl_yield (o := ⟨_, _, _, _, _, _⟩) (.func (.func 12) #[] #[]) (yl_move (by rfl) _ rfl _ rfl) ?_
    simp only [Act.put, lzA, lzB, lzC]
    refine wl_yield (o := ⟨_, _, _, _, _, _⟩) (evVal x) (yl_ev (by rfl) _ rfl _ 0 rfl _ _ _ _ _ _ _ _ _ _ _ _ (fun _ h => by subst h; exact ⟨cell_heap G1 0, cell_heap G1 1, cell_heap G1 2, cell_heap G1 3, cell_heap G1 4, cell_heap G1 5, cell_heap G1 6, cell_heap G1 7, cell_heap G1 8, cell_heap G1 9, cell_heap G1 10, cell_heap G1 11⟩)) ?_
    simp only [Act.put, lzA, lzB, lzC]
    refine wt_callv (o := ⟨_, _, _, _, _, _⟩) (by rfl) 12 _ _ _ rfl #[] rfl #[evVal x] rfl (run_call Tryz.func12 (by kernel_rfl) (by kernel_rfl)) ?_
    refine (eventText_any x _ HE hfx hix).mono ?_
    rintro r v6 ⟨rfl, kb⟩
    replace D := grown_below D kb
    replace HE := HE.on kb
    replace G1 := heap_on G1 kb
    replace G2 := heap_on G2 kb
    clear kb
    refine Or.inl ⟨.tuple #[.string (bs ((evR x).1)), .int .i64 ((evR x).2)], rfl, ?_⟩
    simp only [Act.put, lzA, lzB, lzC]
    refine wl_yield (o := ⟨_, _, _, _, _, _⟩) (.tuple #[.string (bs ((evR x).1)), .int .i64 ((evR x).2)]) (yl_move (by rfl) _ rfl _ rfl) ?_
    simp only [Act.put, lzA, lzB, lzC]
    refine wl_yield (o := ⟨_, _, _, _, _, _⟩) (.string (bs ((evR x).1))) (yl_extract0 (by rfl) _ rfl _ _ rfl) ?_
    simp only [Act.put, lzA, lzB, lzC]
    refine wl_yield (o := ⟨_, _, _, _, _, _⟩) (.int .i64 ((evR x).2)) (yl_extract1 (by rfl) _ rfl _ _ rfl) ?_
    simp only [Act.put, lzA, lzB, lzC]
    refine wl_yield (o := ⟨_, _, _, _, _, _⟩) (.string (bs ((evR x).1))) (yl_assign (by rfl) _ rfl _ rfl) ?_
    simp only [Act.put, lzA, lzB, lzC]
    refine wl_yield (o := ⟨_, _, _, _, _, _⟩) (.int .i64 ((evR x).2)) (yl_assign (by rfl) _ rfl _ rfl) ?_
    simp only [Act.put, lzA, lzB, lzC]
    refine wpList_nil ?_
    refine hK5 _ _ ?_
    clear hK5 K5
    refine wp_seq_k (fun K6 hK6 => ?_)
    by_cases hp0 : (evR x).2 = 0
    · by_cases hp1 : (evR x).1 = l
      · refine wp_region_lit ?_
        refine wl_yield (o := ⟨_, _, _, _, _, _⟩) (.int .i64 ((evR x).2)) (yl_move (by rfl) _ rfl _ rfl) ?_
        simp only [Act.put, lzA, lzB, lzC]
        refine wl_yield (o := ⟨_, _, _, _, _, _⟩) (.bool false) (yt_neqE (by rfl) _ _ _ rfl ((evR x).2) 0 false rfl rfl (decide_eq_false (by omega))) ?_
        simp only [Act.put, lzA, lzB, lzC]
        refine wl_yield (o := ⟨_, _, _, _, _, _⟩) (.bool false) (yl_move (by rfl) _ rfl _ rfl) ?_
        simp only [Act.put, lzA, lzB, lzC]
        refine wl_yield (o := ⟨_, _, _, _, _, _⟩) (.string (bs ((evR x).1))) (yl_move (by rfl) _ rfl _ rfl) ?_
        simp only [Act.put, lzA, lzB, lzC]
        refine wl_yield (o := ⟨_, _, _, _, _, _⟩) (.string (bs l)) (yl_move (by rfl) _ rfl _ rfl) ?_
        simp only [Act.put, lzA, lzB, lzC]
        refine wl_yield (o := ⟨_, _, _, _, _, _⟩) (.bool false) (yt_neqS (by rfl) _ _ _ rfl ((evR x).1) l false rfl rfl (by rw [hp1]; simp)) ?_
        simp only [Act.put, lzA, lzB, lzC]
        refine wl_yield (o := ⟨_, _, _, _, _, _⟩) (.bool false) (yl_pickF (by rfl) _ _ _ rfl rfl _ rfl) ?_
        simp only [Act.put, lzA, lzB, lzC]
        refine wpList_nil ?_
        refine hK6 _ _ ?_
        clear hK6 K6
        refine wp_cond_false rfl ?_
        refine wp_skip ?_
        refine hK4 _ _ ?_
        clear hK4 K4
        refine wp_seq_k (fun K7 hK7 => ?_)
        refine wp_region_lit ?_
        refine wl_yield (o := ⟨_, _, _, _, _, _⟩) (evVal x) (yl_ev (by rfl) _ rfl _ 0 rfl _ _ _ _ _ _ _ _ _ _ _ _ (fun _ h => by subst h; exact ⟨cell_heap G1 0, cell_heap G1 1, cell_heap G1 2, cell_heap G1 3, cell_heap G1 4, cell_heap G1 5, cell_heap G1 6, cell_heap G1 7, cell_heap G1 8, cell_heap G1 9, cell_heap G1 10, cell_heap G1 11⟩)) ?_
        simp only [Act.put, lzA, lzB, lzC]
        refine wt_putEv (o := ⟨_, _, _, _, _, _⟩) rfl _ _ rfl _ rfl (x) rfl G1 rfl (fun v7 X kg => ?_)
        simp only [Act.put, lzA, lzB, lzC]
        replace D := gr_new D ge_g1 kg
        replace HE := Env.gr HE kg six_g1
        replace G2 := heap_gr G2 kg (Ne.symm n_g1_g2)
        clear kg
        replace G1 : v7.heap[g1]? = some (.cells #[.int .i64 (x.v0.1), .int .i64 (x.v0.2.1), .string x.v0.2.2, .int .i64 (x.v1.1), .int .i64 (x.v1.2.1), .string x.v1.2.2, .int .i64 (x.v2.1), .int .i64 (x.v2.2.1), .string x.v2.2.2, .int .i64 (x.v3.1), .int .i64 (x.v3.2.1), .string x.v3.2.2] 42 (0, 0)) := X
        clear X
        refine wt_putE (o := ⟨_, _, _, _, _, _⟩) (by rfl) _ _ rfl _ 0 rfl 0 rfl G2 (by simp) (fun v8 X kg => ?_)
        simp only [Act.put, lzA, lzB, lzC]
        replace D := gr_new D ge_g2 kg
        replace HE := Env.gr HE kg six_g2
        replace G1 := heap_gr G1 kg n_g1_g2
        clear kg
        replace G2 : v8.heap[g2]? = some (.cells #[.int .i64 0] 30 (0, 0)) := X
        clear X
        refine wpList_nil ?_
        refine hK7 _ _ ?_
        clear hK7 K7
        refine wp_ret ?_
        refine leaves_cons (f := 52) (args := #[.pointer (some ⟨g1, 0, none⟩), .pointer (some ⟨g2, 0, none⟩)]) (by simp) (by simp [go_sem]) ?_
        refine (recE_none g1 g2 _).mono ?_
        rintro r u W ⟨rfl, rfl, rfl⟩
        refine ⟨_, results_cells2 rfl _ _ g1 g2 _ 0 rfl rfl G2 (run_loadVar_row _ _ _ _ _ _ _ G1 Tryz.underlying42 rfl (by rw [infoEv12]; rfl)), ⟨x, 0, rfl, by rw [parseE_yes hx hp0 hp1]; exact ⟨rfl, rfl⟩⟩, below_none D⟩
      · refine wp_region_lit ?_
        refine wl_yield (o := ⟨_, _, _, _, _, _⟩) (.int .i64 ((evR x).2)) (yl_move (by rfl) _ rfl _ rfl) ?_
        simp only [Act.put, lzA, lzB, lzC]
        refine wl_yield (o := ⟨_, _, _, _, _, _⟩) (.bool false) (yt_neqE (by rfl) _ _ _ rfl ((evR x).2) 0 false rfl rfl (decide_eq_false (by omega))) ?_
        simp only [Act.put, lzA, lzB, lzC]
        refine wl_yield (o := ⟨_, _, _, _, _, _⟩) (.bool false) (yl_move (by rfl) _ rfl _ rfl) ?_
        simp only [Act.put, lzA, lzB, lzC]
        refine wl_yield (o := ⟨_, _, _, _, _, _⟩) (.string (bs ((evR x).1))) (yl_move (by rfl) _ rfl _ rfl) ?_
        simp only [Act.put, lzA, lzB, lzC]
        refine wl_yield (o := ⟨_, _, _, _, _, _⟩) (.string (bs l)) (yl_move (by rfl) _ rfl _ rfl) ?_
        simp only [Act.put, lzA, lzB, lzC]
        refine wl_yield (o := ⟨_, _, _, _, _, _⟩) (.bool true) (yt_neqS (by rfl) _ _ _ rfl ((evR x).1) l true rfl rfl (by simpa using hp1)) ?_
        simp only [Act.put, lzA, lzB, lzC]
        refine wl_yield (o := ⟨_, _, _, _, _, _⟩) (.bool true) (yl_pickF (by rfl) _ _ _ rfl rfl _ rfl) ?_
        simp only [Act.put, lzA, lzB, lzC]
        refine wpList_nil ?_
        refine hK6 _ _ ?_
        clear hK6 K6
        refine wp_cond_true rfl ?_
        refine wp_region_lit ?_
        refine wl_yield (o := ⟨_, _, _, _, _, _⟩) (.iface 30 (.int .i64 2)) (yt_iface (by rfl) _ rfl 2 rfl) ?_
        simp only [Act.put, lzA, lzB, lzC]
        refine wt_panic (o := ⟨_, _, _, _, _, _⟩) (by rfl) _ rfl _ _ rfl ?_
        have hW := parseE_bad hx (Or.inr hp1)
        refine leaves_cons (f := 52) (args := #[.pointer (some ⟨g1, 0, none⟩), .pointer (some ⟨g2, 0, none⟩)]) (by simp) (by simp [go_sem]) ?_
        refine (recE_some g1 g2 n_g1_g2 ⟨(x.v0.1, x.v0.2.1, x.v0.2.2), (x.v1.1, x.v1.2.1, x.v1.2.2), (x.v2.1, x.v2.2.1, x.v2.2.2), (x.v3.1, x.v3.2.1, x.v3.2.2)⟩ 0 w v6 ge_g1 ge_g2 D G1 G2).mono ?_
        rintro r u W ⟨rfl, rfl, K6, K7, D'⟩
        refine ⟨_, results_cells2 rfl _ W g1 g2 _ 2 rfl rfl K7 (run_loadVar_row W _ _ _ _ _ _ K6 Tryz.underlying42 rfl (by rw [infoEv12]; rfl)), ⟨evZ, 2, rfl, by rw [hW]; exact ⟨rfl, rfl⟩⟩, below_none D'⟩
    · refine wp_region_lit ?_
      refine wl_yield (o := ⟨_, _, _, _, _, _⟩) (.int .i64 ((evR x).2)) (yl_move (by rfl) _ rfl _ rfl) ?_
      simp only [Act.put, lzA, lzB, lzC]
      refine wl_yield (o := ⟨_, _, _, _, _, _⟩) (.bool true) (yt_neqE (by rfl) _ _ _ rfl ((evR x).2) 0 true rfl rfl (decide_eq_true (by omega))) ?_
      simp only [Act.put, lzA, lzB, lzC]
      refine wl_yield (o := ⟨_, _, _, _, _, _⟩) (.bool true) (yl_move (by rfl) _ rfl _ rfl) ?_
      simp only [Act.put, lzA, lzB, lzC]
      with_reducible refine wl_yield (o := ⟨_, _, _, _, _, _⟩) undef (yl_undef (by kernel_rfl)) ?_
      simp only [Act.put, lzA, lzB, lzC]
      with_reducible refine wl_yield (o := ⟨_, _, _, _, _, _⟩) undef (yl_undef (by kernel_rfl)) ?_
      simp only [Act.put, lzA, lzB, lzC]
      with_reducible refine wl_yield (o := ⟨_, _, _, _, _, _⟩) undef (yl_undef (by kernel_rfl)) ?_
      simp only [Act.put, lzA, lzB, lzC]
      refine wl_yield (o := ⟨_, _, _, _, _, _⟩) (.bool true) (yl_pickT (by rfl) _ _ _ rfl rfl _ rfl) ?_
      simp only [Act.put, lzA, lzB, lzC]
      refine wpList_nil ?_
      refine hK6 _ _ ?_
      clear hK6 K6
      refine wp_cond_true rfl ?_
      refine wp_region_lit ?_
      refine wl_yield (o := ⟨_, _, _, _, _, _⟩) (.iface 30 (.int .i64 2)) (yt_iface (by rfl) _ rfl 2 rfl) ?_
      simp only [Act.put, lzA, lzB, lzC]
      refine wt_panic (o := ⟨_, _, _, _, _, _⟩) (by rfl) _ rfl _ _ rfl ?_
      have hW := parseE_bad hx (Or.inl hp0)
      refine leaves_cons (f := 52) (args := #[.pointer (some ⟨g1, 0, none⟩), .pointer (some ⟨g2, 0, none⟩)]) (by simp) (by simp [go_sem]) ?_
      refine (recE_some g1 g2 n_g1_g2 ⟨(x.v0.1, x.v0.2.1, x.v0.2.2), (x.v1.1, x.v1.2.1, x.v1.2.2), (x.v2.1, x.v2.2.1, x.v2.2.2), (x.v3.1, x.v3.2.1, x.v3.2.2)⟩ 0 w v6 ge_g1 ge_g2 D G1 G2).mono ?_
      rintro r u W ⟨rfl, rfl, K6, K7, D'⟩
      refine ⟨_, results_cells2 rfl _ W g1 g2 _ 2 rfl rfl K7 (run_loadVar_row W _ _ _ _ _ _ K6 Tryz.underlying42 rfl (by rw [infoEv12]; rfl)), ⟨evZ, 2, rfl, by rw [hW]; exact ⟨rfl, rfl⟩⟩, below_none D'⟩
  · replace D := gr_new D ge_g3 kg
    replace HE := Env.gr HE kg six_g3
    replace G1 := heap_gr G1 kg n_g1_g3
    replace G2 := heap_gr G2 kg n_g2_g3
    clear kg
    refine Or.inr ⟨_, rfl, ?_⟩
    have hW := parseE_no hx
    refine leaves_cons (f := 52) (args := #[.pointer (some ⟨g1, 0, none⟩), .pointer (some ⟨g2, 0, none⟩)]) (by simp) (by simp [go_sem]) ?_
    refine (recE_some g1 g2 n_g1_g2 ⟨(0, 0, (bs ([]))), (0, 0, (bs ([]))), (0, 0, (bs ([]))), (0, 0, (bs ([])))⟩ 0 w v4 ge_g1 ge_g2 D G1 G2).mono ?_
    rintro r u W ⟨rfl, rfl, K6, K7, D'⟩
    refine ⟨_, results_cells2 rfl _ W g1 g2 _ 2 rfl rfl K7 (run_loadVar_row W _ _ _ _ _ _ K6 Tryz.underlying42 rfl (by rw [infoEv12]; rfl)), ⟨evZ, 2, rfl, by rw [hW]; exact ⟨rfl, rfl⟩⟩, below_none D'⟩
end Go.Proofs.YtlmdcaemjaldfaaGreatDoor
namespace Go.Proofs.YtlmdcaemjaldfaaGreatDoor
open Go.RowKit
theorem results_cs {fn : Func} {p q : Tmp} {ty : TypeId} (h : fn.results = #[.cell p ty, .tmp q]) (tmps : Array Value) (w : World) (g : Nat) (cs : Array Value) (z : Value)
    (hp : tmps.getD p undef = .pointer (some ⟨g, 0, none⟩)) (hq : tmps.getD q undef = z) (hv : (loadVar ty ⟨g, 0, none⟩).run Tryz.prog w = .ok (.agg cs) w) :
    (results fn tmps).run Tryz.prog w = .ok (.tuple #[.agg cs, z]) w := by
  have hp' : tmps[p]?.getD undef = .pointer (some ⟨g, 0, none⟩) := by simpa using hp
  have hq' : tmps[q]?.getD undef = z := by simpa using hq
  simp [results, h, hp', hq', asAddr, hv]
def ParsedT (m : Nat) (W : World) (l : List UInt8) (d : EC) (err : Int) : Prop := if l.length > 1024 then err = 9 ∧ d = ec0 else Parsed m W l d err
set_option maxHeartbeats 1000000 in
set_option maxRecDepth 100000 in
theorem parse_any (l : List UInt8) (w : World) (HE : Env w) (hl : l.length < 9223372036854775807) :
    Calls Tryz.prog 6 #[.string (bs l)] w fun e w' => (∃ d err, e = .returned (.tuple #[EC.val d, .int .i64 err]) ∧ ParsedT w.heap.size w' l d err) ∧ Below w.heap.size w w' := by
  have w6 : 6 ≤ w.heap.size := HE.big
  have D : w.grownBy w none := grown_refl _ _
  go_enter Tryz.func6, Tryz.ntmps6
  by_cases hL : l.length > 1024
  · refine wp_seq_k (fun K1 hK1 => ?_)
    refine wp_region_lit ?_
    refine wt_allocEx (o := ⟨_, _, _, _, _, _⟩) (by rfl) rfl (fun v1 g1 hg G1 kb => ?_)
    simp only [Act.put, lzA, lzB, lzC]
    have ge_g1 : w.heap.size ≤ g1 := Nat.le_trans D.size hg
    have six_g1 : 6 ≤ g1 := Nat.le_trans w6 ge_g1
    clear hg
    replace D := grown_below D kb
    replace HE := HE.on kb
    clear kb
    replace G1 : v1.heap[g1]? = some (.cells #[.int .i64 0, .int .i64 0, .bool false, .slice none 0 0, .bool false, .slice none 0 0, .slice none 0 0] 29 (0, 0)) := G1
    refine wl_yield (o := ⟨_, _, _, _, _, _⟩) (.int .i64 0) (yl_assign (by rfl) _ rfl _ rfl) ?_
    simp only [Act.put, lzA, lzB, lzC]
    refine wpList_nil ?_
    refine hK1 _ _ ?_
    clear hK1 K1
    refine wp_seq_k (fun K2 hK2 => ?_)
    refine wp_seq_k (fun K3 hK3 => ?_)
    refine wp_region_lit ?_
    refine wl_yield (o := ⟨_, _, _, _, _, _⟩) (.string (bs l)) (yl_move (by rfl) _ rfl _ rfl) ?_
    simp only [Act.put, lzA, lzB, lzC]
    refine wl_yield (o := ⟨_, _, _, _, _, _⟩) (.int .i64 (l.length : Nat)) (yt_lenS (by rfl) _ rfl l rfl) ?_
    simp only [Act.put, lzA, lzB, lzC]
    refine wl_yield (o := ⟨_, _, _, _, _, _⟩) (.bool true) (yt_gtrI (by rfl) _ _ _ rfl (((l.length : Nat) : Int)) 1024 true rfl rfl (decide_eq_true (by omega))) ?_
    simp only [Act.put, lzA, lzB, lzC]
    refine wpList_nil ?_
    refine hK3 _ _ ?_
    clear hK3 K3
    refine wp_cond_true rfl ?_
    refine wp_seq_k (fun K4 hK4 => ?_)
    refine wp_region_lit ?_
    refine wl_yield (o := ⟨_, _, _, _, _, _⟩) (EC.val ec0) (yl_zeroX (by rfl) rfl) ?_
    simp only [Act.put, lzA, lzB, lzC]
    refine wt_putEx (o := ⟨_, _, _, _, _, _⟩) rfl _ _ rfl _ rfl (ec0) rfl G1 rfl (fun v2 X kg => ?_)
    simp only [Act.put, lzA, lzB, lzC]
    replace D := gr_new D ge_g1 kg
    replace HE := Env.gr HE kg six_g1
    clear kg
    replace G1 : v2.heap[g1]? = some (.cells #[.int .i64 (ec0.k), .int .i64 (ec0.t), .bool (ec0.s.a), .slice ec0.s.p ec0.s.n ec0.s.c, .bool (ec0.s.d), .slice ec0.s.q ec0.s.m ec0.s.e, .slice ec0.p ec0.n ec0.c] 29 (0, 0)) := X
    clear X
    refine wl_yield (o := ⟨_, _, _, _, _, _⟩) (.int .i64 9) (yl_assign (by rfl) _ rfl _ rfl) ?_
    simp only [Act.put, lzA, lzB, lzC]
    refine wpList_nil ?_
    refine hK4 _ _ ?_
    clear hK4 K4
    refine wp_ret ?_
    try simp only [Exit.inBlock, Exit.then]
    refine bodyPost_ret (results_cs rfl _ _ g1 _ (.int .i64 9) rfl rfl (run_loadVar_row _ _ _ _ _ _ _ G1 Tryz.underlying29 rfl (by rw [infoEx]; rfl))) rfl ⟨⟨ec0, 9, rfl, by unfold ParsedT; rw [if_pos (by omega)]; exact ⟨rfl, rfl⟩⟩, below_none D⟩
  · refine wp_seq_k (fun K1 hK1 => ?_)
    refine wp_region_lit ?_
    refine wt_allocEx (o := ⟨_, _, _, _, _, _⟩) (by rfl) rfl (fun v1 g1 hg G1 kb => ?_)
    simp only [Act.put, lzA, lzB, lzC]
    have ge_g1 : w.heap.size ≤ g1 := Nat.le_trans D.size hg
    have six_g1 : 6 ≤ g1 := Nat.le_trans w6 ge_g1
    clear hg
    replace D := grown_below D kb
    replace HE := HE.on kb
    clear kb
    replace G1 : v1.heap[g1]? = some (.cells #[.int .i64 0, .int .i64 0, .bool false, .slice none 0 0, .bool false, .slice none 0 0, .slice none 0 0] 29 (0, 0)) := G1
    refine wl_yield (o := ⟨_, _, _, _, _, _⟩) (.int .i64 0) (yl_assign (by rfl) _ rfl _ rfl) ?_
    simp only [Act.put, lzA, lzB, lzC]
    refine wpList_nil ?_
    refine hK1 _ _ ?_
    clear hK1 K1
    refine wp_seq_k (fun K2 hK2 => ?_)
    refine wp_seq_k (fun K3 hK3 => ?_)
    refine wp_region_lit ?_
    refine wl_yield (o := ⟨_, _, _, _, _, _⟩) (.string (bs l)) (yl_move (by rfl) _ rfl _ rfl) ?_
    simp only [Act.put, lzA, lzB, lzC]
    refine wl_yield (o := ⟨_, _, _, _, _, _⟩) (.int .i64 (l.length : Nat)) (yt_lenS (by rfl) _ rfl l rfl) ?_
    simp only [Act.put, lzA, lzB, lzC]
    refine wl_yield (o := ⟨_, _, _, _, _, _⟩) (.bool false) (yt_gtrI (by rfl) _ _ _ rfl (((l.length : Nat) : Int)) 1024 false rfl rfl (decide_eq_false (by omega))) ?_
    simp only [Act.put, lzA, lzB, lzC]
    refine wpList_nil ?_
    refine hK3 _ _ ?_
    clear hK3 K3
    refine wp_cond_false rfl ?_
    refine wp_skip ?_
    refine hK2 _ _ ?_
    clear hK2 K2
    refine wp_seq_k (fun K4 hK4 => ?_)
    refine wp_region_lit ?_
    refine wl_yield (o := ⟨_, _, _, _, _, _⟩) (.string (bs l)) (yl_move (by rfl) _ rfl _ rfl) ?_
    simp only [Act.put, lzA, lzB, lzC]
    refine wt_call (o := ⟨_, _, _, _, _, _⟩) (by rfl) 17 _ _ rfl #[.string (bs l), .func (.func 18) #[] #[], .func (.func 9) #[] #[]] rfl (run_call Tryz.func17 (by kernel_rfl) (by kernel_rfl)) ?_
    refine (readX_any l _ HE (by omega)).mono ?_
    rintro r v2 (⟨⟨d, err, rfl, PA⟩, kb⟩)
    · have bs0 : w.heap.size ≤ v1.heap.size := D.size
      have lt_g1 : g1 < v1.heap.size := lt_heap G1
      replace PA : Parsed v1.heap.size v2 l d err := PA
      replace D := grown_below D kb
      replace HE := HE.on kb
      replace G1 := heap_on G1 kb
      clear kb
      refine Or.inl ⟨.tuple #[EC.val d, .int .i64 err], rfl, ?_⟩
      simp only [Act.put, lzA, lzB, lzC]
      refine wl_yield (o := ⟨_, _, _, _, _, _⟩) (EC.val d) (yl_extract0 (by rfl) _ rfl _ _ rfl) ?_
      simp only [Act.put, lzA, lzB, lzC]
      refine wl_yield (o := ⟨_, _, _, _, _, _⟩) (.int .i64 err) (yl_extract1 (by rfl) _ rfl _ _ rfl) ?_
      simp only [Act.put, lzA, lzB, lzC]
      refine wt_putEx (o := ⟨_, _, _, _, _, _⟩) rfl _ _ rfl _ rfl (d) rfl G1 rfl (fun v3 X kg => ?_)
      simp only [Act.put, lzA, lzB, lzC]
      replace D := gr_new D ge_g1 kg
      replace HE := Env.gr HE kg six_g1
      replace PA := PA.lt kg lt_g1
      clear kg
      replace G1 : v3.heap[g1]? = some (.cells #[.int .i64 (d.k), .int .i64 (d.t), .bool (d.s.a), .slice d.s.p d.s.n d.s.c, .bool (d.s.d), .slice d.s.q d.s.m d.s.e, .slice d.p d.n d.c] 29 (0, 0)) := X
      clear X
      refine wl_yield (o := ⟨_, _, _, _, _, _⟩) (.int .i64 err) (yl_assign (by rfl) _ rfl _ rfl) ?_
      simp only [Act.put, lzA, lzB, lzC]
      refine wpList_nil ?_
      refine hK4 _ _ ?_
      clear hK4 K4
      refine wp_ret ?_
      try simp only [Exit.inBlock, Exit.then]
      refine bodyPost_ret (results_cs rfl _ _ g1 _ (.int .i64 err) rfl rfl (run_loadVar_row _ _ _ _ _ _ _ G1 Tryz.underlying29 rfl (by rw [infoEx]; rfl))) rfl ⟨⟨d, err, rfl, by unfold ParsedT; rw [if_neg (by omega)]; exact PA.back bs0⟩, below_none D⟩
set_option maxHeartbeats 1000000 in
set_option maxRecDepth 100000 in
theorem readEvent_any (l : List UInt8) (w : World) (HE : Env w) (hl : l.length ≤ 10000) :
    Calls Tryz.prog 10 #[.string (bs l)] w fun e w' => (∃ d err, e = .returned (.tuple #[evVal d, .int .i64 err]) ∧ (match parseE l with | some x => err = 0 ∧ d = x | none => err = 2 ∧ d = evZ)) ∧ Below w.heap.size w w' := by
  have w6 : 6 ≤ w.heap.size := HE.big
  have D : w.grownBy w none := grown_refl _ _
  go_enter Tryz.func10, Tryz.ntmps10
  refine wp_seq_k (fun K1 hK1 => ?_)
  refine wp_region_lit ?_
  refine wt_allocEv (o := ⟨_, _, _, _, _, _⟩) (by rfl) rfl (fun v1 g1 hg G1 kb => ?_)
  simp only [Act.put, lzA, lzB, lzC]
  have ge_g1 : w.heap.size ≤ g1 := Nat.le_trans D.size hg
  have six_g1 : 6 ≤ g1 := Nat.le_trans w6 ge_g1
  clear hg
  replace D := grown_below D kb
  replace HE := HE.on kb
  clear kb
  replace G1 : v1.heap[g1]? = some (.cells #[.int .i64 0, .int .i64 0, .string (bs ([])), .int .i64 0, .int .i64 0, .string (bs ([])), .int .i64 0, .int .i64 0, .string (bs ([])), .int .i64 0, .int .i64 0, .string (bs ([]))] 42 (0, 0)) := G1
  refine wl_yield (o := ⟨_, _, _, _, _, _⟩) (.int .i64 0) (yl_assign (by rfl) _ rfl _ rfl) ?_
  simp only [Act.put, lzA, lzB, lzC]
  refine wpList_nil ?_
  refine hK1 _ _ ?_
  clear hK1 K1
  refine wp_seq_k (fun K2 hK2 => ?_)
  refine wp_region_lit ?_
  refine wl_yield (o := ⟨_, _, _, _, _, _⟩) (.string (bs l)) (yl_move (by rfl) _ rfl _ rfl) ?_
  simp only [Act.put, lzA, lzB, lzC]
  refine wt_call (o := ⟨_, _, _, _, _, _⟩) (by rfl) 25 _ _ rfl #[.string (bs l), .func (.func 26) #[] #[], .func (.func 12) #[] #[]] rfl (run_call Tryz.func25 (by kernel_rfl) (by kernel_rfl)) ?_
  refine (readE_any l _ HE hl).mono ?_
  rintro r v2 (⟨⟨d, err, rfl, PA⟩, kb⟩)
  · replace D := grown_below D kb
    replace HE := HE.on kb
    replace G1 := heap_on G1 kb
    clear kb
    refine Or.inl ⟨.tuple #[evVal d, .int .i64 err], rfl, ?_⟩
    simp only [Act.put, lzA, lzB, lzC]
    refine wl_yield (o := ⟨_, _, _, _, _, _⟩) (evVal d) (yl_extract0 (by rfl) _ rfl _ _ rfl) ?_
    simp only [Act.put, lzA, lzB, lzC]
    refine wl_yield (o := ⟨_, _, _, _, _, _⟩) (.int .i64 err) (yl_extract1 (by rfl) _ rfl _ _ rfl) ?_
    simp only [Act.put, lzA, lzB, lzC]
    refine wt_putEv (o := ⟨_, _, _, _, _, _⟩) rfl _ _ rfl _ rfl (d) rfl G1 rfl (fun v3 X kg => ?_)
    simp only [Act.put, lzA, lzB, lzC]
    replace D := gr_new D ge_g1 kg
    replace HE := Env.gr HE kg six_g1
    clear kg
    replace G1 : v3.heap[g1]? = some (.cells #[.int .i64 (d.v0.1), .int .i64 (d.v0.2.1), .string d.v0.2.2, .int .i64 (d.v1.1), .int .i64 (d.v1.2.1), .string d.v1.2.2, .int .i64 (d.v2.1), .int .i64 (d.v2.2.1), .string d.v2.2.2, .int .i64 (d.v3.1), .int .i64 (d.v3.2.1), .string d.v3.2.2] 42 (0, 0)) := X
    clear X
    refine wl_yield (o := ⟨_, _, _, _, _, _⟩) (.int .i64 err) (yl_assign (by rfl) _ rfl _ rfl) ?_
    simp only [Act.put, lzA, lzB, lzC]
    refine wpList_nil ?_
    refine hK2 _ _ ?_
    clear hK2 K2
    refine wp_ret ?_
    try simp only [Exit.inBlock, Exit.then]
    refine bodyPost_ret (results_cs rfl _ _ g1 _ (.int .i64 err) rfl rfl (run_loadVar_row _ _ _ _ _ _ _ G1 Tryz.underlying42 rfl (by rw [infoEv12]; rfl))) rfl ⟨⟨d, err, rfl, PA⟩, below_none D⟩
end Go.Proofs.YtlmdcaemjaldfaaGreatDoor
namespace Go.Proofs.YtlmdcaemjaldfaaGreatDoor
open Go.RowKit
end Go.Proofs.YtlmdcaemjaldfaaGreatDoor
namespace Go.Proofs.YtlmdcaemjaldfaaGreatDoor
open Go.RowKit
theorem own_new (w : World) (cs : Array Value) (l : List UInt8) (h : cs.toList = Lib.byteCells l) (hl : l.length ≤ 1000) : Own (w.alloc (.cells cs 5)) w.heap.size (.slice (some ⟨w.heap.size, 0, none⟩) l.length l.length) l := by
  have hs : cs.size = l.length := by rw [← Array.length_toList, h]; simp [Lib.byteCells]
  refine ⟨by simp [Lib.byteCells], Or.inr ⟨w.heap.size, l.length, cs, rfl, Nat.le_refl _, heap_top _ _, Nat.le_refl _, by unfold maxLen; omega, by omega, ?_⟩⟩
  rw [h, List.take_of_length_le (by simp [Lib.byteCells])]
theorem digI_at (n : Nat) (h : n < 16) (W : World) : (Instr.index 9 (.string ⟨#[48, 49, 50, 51, 52, 53, 54, 55, 56, 57, 97, 98, 99, 100, 101, 102]⟩) (.int .i64 (n : Int))).run Tryz.prog W = .ok (.int .u8 ((hexD n).toNat : Int)) W := by
  have d0 : ∀ W, (Instr.index 9 (.string ⟨#[48, 49, 50, 51, 52, 53, 54, 55, 56, 57, 97, 98, 99, 100, 101, 102]⟩) (.int .i64 0)).run Tryz.prog W = .ok (.int .u8 48) W := fun _ => by kernel_rfl
  have d1 : ∀ W, (Instr.index 9 (.string ⟨#[48, 49, 50, 51, 52, 53, 54, 55, 56, 57, 97, 98, 99, 100, 101, 102]⟩) (.int .i64 1)).run Tryz.prog W = .ok (.int .u8 49) W := fun _ => by kernel_rfl
  have d2 : ∀ W, (Instr.index 9 (.string ⟨#[48, 49, 50, 51, 52, 53, 54, 55, 56, 57, 97, 98, 99, 100, 101, 102]⟩) (.int .i64 2)).run Tryz.prog W = .ok (.int .u8 50) W := fun _ => by kernel_rfl
  have d3 : ∀ W, (Instr.index 9 (.string ⟨#[48, 49, 50, 51, 52, 53, 54, 55, 56, 57, 97, 98, 99, 100, 101, 102]⟩) (.int .i64 3)).run Tryz.prog W = .ok (.int .u8 51) W := fun _ => by kernel_rfl
  have d4 : ∀ W, (Instr.index 9 (.string ⟨#[48, 49, 50, 51, 52, 53, 54, 55, 56, 57, 97, 98, 99, 100, 101, 102]⟩) (.int .i64 4)).run Tryz.prog W = .ok (.int .u8 52) W := fun _ => by kernel_rfl
  have d5 : ∀ W, (Instr.index 9 (.string ⟨#[48, 49, 50, 51, 52, 53, 54, 55, 56, 57, 97, 98, 99, 100, 101, 102]⟩) (.int .i64 5)).run Tryz.prog W = .ok (.int .u8 53) W := fun _ => by kernel_rfl
  have d6 : ∀ W, (Instr.index 9 (.string ⟨#[48, 49, 50, 51, 52, 53, 54, 55, 56, 57, 97, 98, 99, 100, 101, 102]⟩) (.int .i64 6)).run Tryz.prog W = .ok (.int .u8 54) W := fun _ => by kernel_rfl
  have d7 : ∀ W, (Instr.index 9 (.string ⟨#[48, 49, 50, 51, 52, 53, 54, 55, 56, 57, 97, 98, 99, 100, 101, 102]⟩) (.int .i64 7)).run Tryz.prog W = .ok (.int .u8 55) W := fun _ => by kernel_rfl
  have d8 : ∀ W, (Instr.index 9 (.string ⟨#[48, 49, 50, 51, 52, 53, 54, 55, 56, 57, 97, 98, 99, 100, 101, 102]⟩) (.int .i64 8)).run Tryz.prog W = .ok (.int .u8 56) W := fun _ => by kernel_rfl
  have d9 : ∀ W, (Instr.index 9 (.string ⟨#[48, 49, 50, 51, 52, 53, 54, 55, 56, 57, 97, 98, 99, 100, 101, 102]⟩) (.int .i64 9)).run Tryz.prog W = .ok (.int .u8 57) W := fun _ => by kernel_rfl
  have d10 : ∀ W, (Instr.index 9 (.string ⟨#[48, 49, 50, 51, 52, 53, 54, 55, 56, 57, 97, 98, 99, 100, 101, 102]⟩) (.int .i64 10)).run Tryz.prog W = .ok (.int .u8 97) W := fun _ => by kernel_rfl
  have d11 : ∀ W, (Instr.index 9 (.string ⟨#[48, 49, 50, 51, 52, 53, 54, 55, 56, 57, 97, 98, 99, 100, 101, 102]⟩) (.int .i64 11)).run Tryz.prog W = .ok (.int .u8 98) W := fun _ => by kernel_rfl
  have d12 : ∀ W, (Instr.index 9 (.string ⟨#[48, 49, 50, 51, 52, 53, 54, 55, 56, 57, 97, 98, 99, 100, 101, 102]⟩) (.int .i64 12)).run Tryz.prog W = .ok (.int .u8 99) W := fun _ => by kernel_rfl
  have d13 : ∀ W, (Instr.index 9 (.string ⟨#[48, 49, 50, 51, 52, 53, 54, 55, 56, 57, 97, 98, 99, 100, 101, 102]⟩) (.int .i64 13)).run Tryz.prog W = .ok (.int .u8 100) W := fun _ => by kernel_rfl
  have d14 : ∀ W, (Instr.index 9 (.string ⟨#[48, 49, 50, 51, 52, 53, 54, 55, 56, 57, 97, 98, 99, 100, 101, 102]⟩) (.int .i64 14)).run Tryz.prog W = .ok (.int .u8 101) W := fun _ => by kernel_rfl
  have d15 : ∀ W, (Instr.index 9 (.string ⟨#[48, 49, 50, 51, 52, 53, 54, 55, 56, 57, 97, 98, 99, 100, 101, 102]⟩) (.int .i64 15)).run Tryz.prog W = .ok (.int .u8 102) W := fun _ => by kernel_rfl
  have hc : n = 0 ∨ n = 1 ∨ n = 2 ∨ n = 3 ∨ n = 4 ∨ n = 5 ∨ n = 6 ∨ n = 7 ∨ n = 8 ∨ n = 9 ∨ n = 10 ∨ n = 11 ∨ n = 12 ∨ n = 13 ∨ n = 14 ∨ n = 15 := by omega
  rcases hc with rfl | rfl | rfl | rfl | rfl | rfl | rfl | rfl | rfl | rfl | rfl | rfl | rfl | rfl | rfl | rfl
  · exact d0 W
  · exact d1 W
  · exact d2 W
  · exact d3 W
  · exact d4 W
  · exact d5 W
  · exact d6 W
  · exact d7 W
  · exact d8 W
  · exact d9 W
  · exact d10 W
  · exact d11 W
  · exact d12 W
  · exact d13 W
  · exact d14 W
  · exact d15 W
theorem digit_any (n : Int) (h0 : 0 ≤ n) (h1 : n < 16) (w : World) :
    Calls Tryz.prog 87 #[.int .i64 n] w fun e w' => e = .returned (.int .u8 ((hexD n.toNat).toNat : Int)) ∧ w' = w := by
  obtain ⟨k, rfl⟩ := Int.eq_ofNat_of_zero_le h0
  have hd := fun W => digI_at k (by omega) W
  go_enter Tryz.func87, Tryz.ntmps87
  go_wp2
  go_ret
  exact ⟨ret_int rfl, rfl⟩
theorem esc_or {c : Int} (h : escB c = true) : c < 32 ∨ 126 < c ∨ c = 39 ∨ c = 92 := by
  simp [escB] at h
  omega
theorem esc_not {c : Int} (h : escB c = false) : ¬ c < 32 ∧ ¬ 126 < c ∧ (c == 39) = false ∧ (c == 92) = false := by
  simp [escB] at h
  refine ⟨by omega, by omega, beq_eq_false_iff_ne.2 (by omega), beq_eq_false_iff_ne.2 (by omega)⟩
set_option maxHeartbeats 1000000 in
set_option maxRecDepth 100000 in
theorem refQuote_any (s : ByteArray) (w : World) (hs : s.size ≤ 1048576) :
    Calls Tryz.prog 64 #[.string s] w fun e w' => e = .returned (.string ⟨(quoteL s.data.toList).toArray⟩) ∧ Below w.heap.size w w' := by
  go_enter Tryz.func64, Tryz.ntmps64
  go_wp2
  have H1 : Hid (Own (w.alloc (.cells #[.int .u8 39] 5)) w.heap.size (.slice (some ⟨w.heap.size, 0, none⟩) 1 1) (39 :: qBytes (s.data.toList.take 0))) := hide (by simpa [qBytes] using own_new w #[.int .u8 39] [39] rfl (by simp))
  have hb1 : Below w.heap.size w (w.alloc (.cells #[.int .u8 39] 5)) := (Below.refl _ _).alloc (Nat.le_refl _) _
  go_loopw [3, 4] (fun v i wr => ∃ k : Nat, k ≤ s.size ∧ i = .int .i64 k ∧ Hid (Own wr w.heap.size v (39 :: qBytes (s.data.toList.take k))) ∧ Below w.heap.size w wr) (fun _ i _ => s.size - (intOf i).toNat)
  case atStart => exact ⟨0, Nat.zero_le _, rfl, H1, hb1⟩
  case round =>
    obtain ⟨k, hk, rfl, hO, hnx⟩ := hrel
    clear hb1 H1
    have hzr := hnx.size
    have hq := qBytes_len (s.data.toList.take k)
    have hl : (s.data.toList.take k).length ≤ k := List.length_take_le _ _
    have hq2 : (39 :: qBytes (s.data.toList.take k)).length ≤ 3 * k + 1 := by simp; omega
    clear hq hl
    by_cases hlt : k < s.size
    · have hst := hide (quote_step s k hlt)
      generalize hL : 39 :: qBytes (s.data.toList.take k) = L at hO hst hq2
      clear hL
      have hc := s[k].toNat_lt
      cases he : escB (s[k].toNat : Int)
      · have f := esc_not he
        obtain ⟨f1, f2, f3, f4⟩ := f
        go_wp2_with (at_builtin; refine wpList_app _ rfl _ _ rfl w.heap.size _ L rfl (hO.out.alloc _) _ 1 1 _ [s[k]] rfl rfl (heap_top _ _) rfl (by omega) (by simp; omega) ?_; intro v2 w2 hO2 hb2)
        refine ⟨⟨k + 1, by omega, by go_num, hide ?_, (hnx.alloc hzr _).trans hb2⟩, by simp [intOf]; omega⟩
        rw [hst.out]
        unfold qByte
        rw [he]
        exact hO2
      · have He := hide he
        have hw := esc_or he
        clear he
        by_cases g1 : (s[k].toNat : Int) < 32
        · clear hw
          go_wp2_with (first | (go_at_call 87; refine (digit_any _ (by omega) (by omega) _).mono ?_; rintro e w' ⟨rfl, rfl⟩) | (at_builtin; refine wpList_app _ rfl _ _ rfl w.heap.size _ L rfl (hO.out.alloc _) _ 3 3 _ [92, hexD (s[k].toNat / 16), hexD (s[k].toNat % 16)] rfl rfl (heap_top _ _) rfl (by omega) (by simp; omega) ?_; intro v2 w2 hO2 hb2))
          refine ⟨⟨k + 1, by omega, by go_num, hide ?_, (hnx.alloc hzr _).trans hb2⟩, by simp [intOf]; omega⟩
          rw [hst.out]
          unfold qByte
          rw [He.out]
          exact hO2
        by_cases g2 : (126 : Int) < (s[k].toNat : Int)
        · clear hw
          go_wp2_with (first | (go_at_call 87; refine (digit_any _ (by omega) (by omega) _).mono ?_; rintro e w' ⟨rfl, rfl⟩) | (at_builtin; refine wpList_app _ rfl _ _ rfl w.heap.size _ L rfl (hO.out.alloc _) _ 3 3 _ [92, hexD (s[k].toNat / 16), hexD (s[k].toNat % 16)] rfl rfl (heap_top _ _) rfl (by omega) (by simp; omega) ?_; intro v2 w2 hO2 hb2))
          refine ⟨⟨k + 1, by omega, by go_num, hide ?_, (hnx.alloc hzr _).trans hb2⟩, by simp [intOf]; omega⟩
          rw [hst.out]
          unfold qByte
          rw [He.out]
          exact hO2
        by_cases g3 : (s[k].toNat : Int) = 39
        · have g3' : ((s[k].toNat : Int) == 39) = true := beq_iff_eq.2 g3
          clear hw g3
          go_wp2_with (first | (go_at_call 87; refine (digit_any _ (by omega) (by omega) _).mono ?_; rintro e w' ⟨rfl, rfl⟩) | (at_builtin; refine wpList_app _ rfl _ _ rfl w.heap.size _ L rfl (hO.out.alloc _) _ 3 3 _ [92, hexD (s[k].toNat / 16), hexD (s[k].toNat % 16)] rfl rfl (heap_top _ _) rfl (by omega) (by simp; omega) ?_; intro v2 w2 hO2 hb2))
          refine ⟨⟨k + 1, by omega, by go_num, hide ?_, (hnx.alloc hzr _).trans hb2⟩, by simp [intOf]; omega⟩
          rw [hst.out]
          unfold qByte
          rw [He.out]
          exact hO2
        have g3' : ((s[k].toNat : Int) == 39) = false := beq_eq_false_iff_ne.2 g3
        have g4' : ((s[k].toNat : Int) == 92) = true := beq_iff_eq.2 (by omega)
        clear hw g3
        go_wp2_with (first | (go_at_call 87; refine (digit_any _ (by omega) (by omega) _).mono ?_; rintro e w' ⟨rfl, rfl⟩) | (at_builtin; refine wpList_app _ rfl _ _ rfl w.heap.size _ L rfl (hO.out.alloc _) _ 3 3 _ [92, hexD (s[k].toNat / 16), hexD (s[k].toNat % 16)] rfl rfl (heap_top _ _) rfl (by omega) (by simp; omega) ?_; intro v2 w2 hO2 hb2))
        refine ⟨⟨k + 1, by omega, by go_num, hide ?_, (hnx.alloc hzr _).trans hb2⟩, by simp [intOf]; omega⟩
        rw [hst.out]
        unfold qByte
        rw [He.out]
        exact hO2
    · generalize hL : 39 :: qBytes (s.data.toList.take k) = L at hO hq2
      have HL := hide hL
      clear hL
      go_wp2_with (at_builtin; refine wpList_app _ rfl _ _ rfl w.heap.size _ L rfl (hO.out.alloc _) _ 1 1 _ [39] rfl rfl (heap_top _ _) rfl (by omega) (by simp; omega) ?_; intro v2 w2 hO2 hb2; refine Hid.out ?_)
      refine hide ?_
      obtain ⟨g, n, cap, rfl⟩ := own_form hO2 (by simp)
      have hcv := conv_own hO2
      go_wp2
      go_ret
      refine ⟨ret_str ?_, (hnx.alloc hzr _).trans hb2⟩
      rw [← HL.out, List.take_of_length_le (by simp; omega)]
      rfl
end Go.Proofs.YtlmdcaemjaldfaaGreatDoor
namespace Go.Proofs.YtlmdcaemjaldfaaGreatDoor
open Go.RowKit
attribute [local go_sem ↓] Go.wp_at_zero Go.wp_at_succ
theorem conv_one (W : World) (g : Nat) (c : UInt8) (h : W.cell? ⟨g, 0, none⟩ = some (.int .u8 (c.toNat : Int))) : (convert 110 9 (.slice (some ⟨g, 0, none⟩) 1 1)).run Tryz.prog W = .ok (.string ⟨#[c]⟩) W := by
  refine run_convert_bytes_back (P := Tryz.prog) W 110 9 5 ⟨g, 0, none⟩ 1 [c] Tryz.underlying110 Tryz.underlying5 Tryz.underlying9 (fun j hj => ?_)
  match j, hj with
  | 0, _ => simpa [Addr.add] using h
set_option maxHeartbeats 1000000 in
set_option maxRecDepth 100000 in
theorem digits_any (u : Nat) : ∀ (w : World), u < 18446744073709551616 →
    Calls Tryz.prog 86 #[.int .u64 (u : Int)] w fun e w' => e = .returned (.string ⟨(Lib.decDigits u).toArray⟩) ∧ Below w.heap.size w w' := by
  induction u using Nat.strongRecOn with
  | _ u ih =>
    intro w hu
    by_cases h10 : u < 10
    · have hd := Lib.decDigits_one h10
      have h10' : (u : Int) < 10 := by omega
      have hr := one_dig u h10
      generalize UInt8.ofNat (48 + u) = c at *
      have hcv : ∀ (W : World) (g : Nat), W.cell? ⟨g, 0, none⟩ = some (.int .u8 (48 + (u : Int))) → (convert 110 9 (.slice (some ⟨g, 0, none⟩) 1 1)).run Tryz.prog W = .ok (.string ⟨#[c]⟩) W := fun W g h => conv_one W g c (by rw [h, hr])
      clear hr
      have Hd := hide hd
      clear ih hd
      go_enter Tryz.func86, Tryz.ntmps86
      go_wp2
      go_ret
      exact ⟨ret_str (by rw [Hd.out]), (Below.refl _ _).alloc (Nat.le_refl _) _⟩
    · have h10' : ¬ (u : Int) < 10 := by omega
      have hd : Lib.decDigits u = Lib.decDigits (u / 10) ++ [UInt8.ofNat (48 + u % 10)] := by rw [Lib.decDigits, dif_neg h10]
      have IH : ∀ W : World, Hid (Calls Tryz.prog 86 #[.int .u64 ((u : Int) / 10)] W fun e w' => e = .returned (.string ⟨(Lib.decDigits (u / 10)).toArray⟩) ∧ Below W.heap.size W w') := fun W => hide (by
        have h := ih (u / 10) (by omega) W (by omega)
        rw [show ((u / 10 : Nat) : Int) = (u : Int) / 10 by omega] at h
        exact h)
      have hq : IntKind.u64.wrap ((u : Int) / 10) = (u : Int) / 10 := by rw [IntKind.wrap_u64]; omega
      have hr := last_dig u hu
      have hn := dec_short (u / 10) (by omega)
      generalize UInt8.ofNat (48 + u % 10) = c at *
      generalize Lib.decDigits (u / 10) = D at *
      have hcv := fun (W : World) (g : Nat) => conv_one W g c
      have Hd := hide hd
      clear ih hd
      go_enter Tryz.func86, Tryz.ntmps86
      go_wp2
      go_region_with (go_at_call 86; refine (unhide (IH _)).mono ?_; rintro e w1 ⟨rfl, hb1⟩; obtain ⟨hc, hf⟩ := bcell hb1)
      all_goals
        go_wp2
        go_ret
        refine ⟨ret_str (by rw [Hd.out]; exact mk_append D [c]), ?_⟩
      all_goals first
        | exact (below_undrew hb1).alloc (below_undrew hb1).size _
        | exact below_undrew (below_alloc hb1)
set_option maxHeartbeats 1000000 in
set_option maxRecDepth 100000 in
theorem decimal_any (n : Int) (h0 : -9223372036854775808 ≤ n) (h1 : n ≤ 9223372036854775807) (w : World) :
    Calls Tryz.prog 63 #[.int .i64 n] w fun e w' => e = .returned (.string ⟨(Lib.itoa n).toArray⟩) ∧ Below w.heap.size w w' := by
  by_cases hn : n < 0
  · obtain ⟨u, rfl⟩ : ∃ u : Nat, n = -(u : Int) := ⟨n.natAbs, by omega⟩
    have Hd := hide (Lib.itoa_neg u (by omega))
    have hl := dec_short u (by omega)
    have HD := fun (W : World) => hide (digits_any u W (by omega))
    generalize Lib.decDigits u = D at *
    go_enter Tryz.func63, Tryz.ntmps63
    go_wp2_with fail
    rw [show -(-(u : Int) + 1) + 1 = (u : Int) by omega]
    refine (unhide (HD _)).mono ?_
    rintro e w1 ⟨rfl, hb1⟩
    go_wp2
    go_ret
    exact ⟨ret_str (by rw [Hd.out]; exact mk_append [45] D), hb1⟩
  · obtain ⟨u, rfl⟩ : ∃ u : Nat, n = (u : Int) := ⟨n.toNat, by omega⟩
    have Hd := hide (Lib.itoa_nonneg u)
    have HD := fun (W : World) => hide (digits_any u W (by omega))
    generalize Lib.decDigits u = D at *
    go_enter Tryz.func63, Tryz.ntmps63
    go_wp2_with (go_at_call 86; refine (unhide (HD _)).mono ?_; rintro e w1 ⟨rfl, hb1⟩)
    go_ret
    exact ⟨ret_str (by rw [Hd.out]), hb1⟩
theorem right_kind {k n : Int} {s : ByteArray} (h : rightB k n s = true) (h0 : ¬ k = 0) (h1 : ¬ k = 1) : k = 2 := by
  unfold rightB at h
  rw [if_neg h0, if_neg h1] at h
  split at h
  · assumption
  · cases h
set_option maxHeartbeats 1000000 in
set_option maxRecDepth 100000 in
theorem refText_any (k n : Int) (s : ByteArray) (w : World) (n0 : -9223372036854775808 ≤ n) (n1 : n ≤ 9223372036854775807) (hs : s.size ≤ maxLen) :
    Calls Tryz.prog 35 #[.agg #[.int .i64 k, .int .i64 n, .string s]] w fun e w' => e = .returned (.string ⟨(textL k n s).toArray⟩) ∧ Below w.heap.size w w' := by
  have HR := fun (W : World) => hide (refRight_any k n s W hs)
  have HB := hide ((Below.refl w.heap.size w).alloc (Nat.le_refl _) (.cells #[.int .i64 k, .int .i64 n, .string s] 40))
  have HI := fun (W : World) => hide (decimal_any n n0 n1 W)
  cases hr : rightB k n s
  · rw [hr] at HR
    have hT : Hid (textL k n s = []) := hide (by unfold textL; rw [hr]; rfl)
    go_enter Tryz.func35, Tryz.ntmps35
    go_wp2_with fail
    refine (unhide (HR _)).mono ?_
    rintro e w1 ⟨rfl, hb1⟩
    have HB1 := hide (below_alloc hb1)
    clear hb1
    go_wp2
    go_ret
    exact ⟨ret_list hT.out.symm, HB1.out⟩
  · have h8 := right_small hr
    rw [hr] at HR
    have HQ := fun (W : World) => hide (refQuote_any s W (by omega))
    have hT : Hid (textL k n s = if k = 1 then Lib.itoa n else if k = 2 then quoteL s.data.toList else [45]) := hide (by unfold textL; rw [hr]; rfl)
    have Hr := hide hr
    clear hr
    by_cases k0 : k = 0
    · subst k0
      go_enter Tryz.func35, Tryz.ntmps35
      go_wp2_with fail
      refine (unhide (HR _)).mono ?_
      rintro e w1 ⟨rfl, hb1⟩
      have HB1 := hide (below_alloc hb1)
      obtain ⟨hc, hf⟩ := bcell hb1
      have c0 := hc w.heap.size 0 (by simp)
      have c1 := hc w.heap.size 1 (by simp)
      have c2 := hc w.heap.size 2 (by simp)
      simp at c0 c1 c2
      clear hb1 hc hf
      go_wp2
      go_ret
      exact ⟨ret_list (by rw [hT.out, if_neg (by decide), if_neg (by decide)]), HB1.out⟩
    have k0' : (k == 0) = false := beq_eq_false_iff_ne.2 k0
    by_cases k1 : k = 1
    · subst k1
      go_enter Tryz.func35, Tryz.ntmps35
      go_wp2_with fail
      refine (unhide (HR _)).mono ?_
      rintro e w1 ⟨rfl, hb1⟩
      have HB1 := hide (below_alloc hb1)
      obtain ⟨hc, hf⟩ := bcell hb1
      have c0 := hc w.heap.size 0 (by simp)
      have c1 := hc w.heap.size 1 (by simp)
      have c2 := hc w.heap.size 2 (by simp)
      simp at c0 c1 c2
      clear hb1 hc hf
      go_wp2_with fail
      refine (unhide (HI _)).mono ?_
      rintro e w2 ⟨rfl, hb2⟩
      have HB2 := hide (HB1.out.trans (hb2.mono HB1.out.size))
      clear hb2
      go_wp2
      go_ret
      exact ⟨ret_list (by rw [hT.out]; rfl), HB2.out⟩
    have k2 : k = 2 := right_kind Hr.out k0 k1
    have k1' : (k == 1) = false := beq_eq_false_iff_ne.2 k1
    subst k2
    go_enter Tryz.func35, Tryz.ntmps35
    go_wp2_with fail
    refine (unhide (HR _)).mono ?_
    rintro e w1 ⟨rfl, hb1⟩
    have HB1 := hide (below_alloc hb1)
    obtain ⟨hc, hf⟩ := bcell hb1
    have c0 := hc w.heap.size 0 (by simp)
    have c1 := hc w.heap.size 1 (by simp)
    have c2 := hc w.heap.size 2 (by simp)
    simp at c0 c1 c2
    clear hb1 hc hf
    go_wp2_with fail
    refine (unhide (HQ _)).mono ?_
    rintro e w2 ⟨rfl, hb2⟩
    have HB2 := hide (HB1.out.trans (hb2.mono HB1.out.size))
    clear hb2
    go_wp2
    go_ret
    exact ⟨ret_list (by rw [hT.out]; rfl), HB2.out⟩
end Go.Proofs.YtlmdcaemjaldfaaGreatDoor
namespace Go.Proofs.YtlmdcaemjaldfaaGreatDoor
open Go.RowKit
set_option maxHeartbeats 1000000 in
set_option maxRecDepth 100000 in
theorem refName7 (i : Int) (h0 : 0 ≤ i) (h3 : i ≤ 3) (w : World) : Calls Tryz.prog 28 #[.int .i64 i] w fun e w' => e = .returned (.string (bs (nameL i))) ∧ Below w.heap.size w w' := by
  have h4 : i = 0 ∨ i = 1 ∨ i = 2 ∨ i = 3 := by omega
  rcases h4 with rfl | rfl | rfl | rfl
  · have hcv := fun (W : World) (g : Nat) (h : W.cell? ⟨g, 0, none⟩ = some (.int .u8 97)) => conv_one W g 97 h
    go_enter Tryz.func28, Tryz.ntmps28
    go_wp2
    go_ret
    exact ⟨rfl, (Below.refl _ _).alloc (Nat.le_refl _) _⟩
  · have hcv := fun (W : World) (g : Nat) (h : W.cell? ⟨g, 0, none⟩ = some (.int .u8 98)) => conv_one W g 98 h
    go_enter Tryz.func28, Tryz.ntmps28
    go_wp2
    go_ret
    exact ⟨rfl, (Below.refl _ _).alloc (Nat.le_refl _) _⟩
  · have hcv := fun (W : World) (g : Nat) (h : W.cell? ⟨g, 0, none⟩ = some (.int .u8 99)) => conv_one W g 99 h
    go_enter Tryz.func28, Tryz.ntmps28
    go_wp2
    go_ret
    exact ⟨rfl, (Below.refl _ _).alloc (Nat.le_refl _) _⟩
  · have hcv := fun (W : World) (g : Nat) (h : W.cell? ⟨g, 0, none⟩ = some (.int .u8 100)) => conv_one W g 100 h
    go_enter Tryz.func28, Tryz.ntmps28
    go_wp2
    go_ret
    exact ⟨rfl, (Below.refl _ _).alloc (Nat.le_refl _) _⟩
theorem joinL_snoc : ∀ (l : List (List UInt8)) (a : List UInt8), joinL (l ++ [a]) = if l = [] then a else (joinL l ++ [32]) ++ a
  | [], a => rfl
  | [b], a => by simp [joinL]
  | b :: c :: l, a => by
    have ih := joinL_snoc (c :: l) a
    rw [if_neg (by simp)] at ih
    rw [if_neg (by simp), List.cons_append, joinL_cons b _ (by simp), ih, joinL_cons b (c :: l) (by simp)]
    simp
theorem joinL_take_le (l : List (List UInt8)) : ∀ k, (joinL (l.take k)).length ≤ (joinL l).length := by
  induction l with
  | nil => intro k; simp
  | cons a l ih =>
    intro k
    cases k with
    | zero => simp [joinL]
    | succ k =>
      rw [List.take_succ_cons]
      cases l with
      | nil => simp
      | cons b l =>
        cases k with
        | zero => rw [List.take_zero, joinL_cons a (b :: l) (by simp)]; simp [joinL]
        | succ k =>
          have := ih (k + 1)
          rw [joinL_cons a (b :: l) (by simp), joinL_cons a _ (by simp)]
          simp only [List.length_append, List.length_cons]
          omega
theorem joinL_step {xs : List ByteArray} (k : Nat) (hk : k < xs.length) : joinL ((xs.take (k + 1)).map (·.data.toList)) = if k = 0 then (xs.getD k ⟨#[]⟩).data.toList else (joinL ((xs.take k).map (·.data.toList)) ++ [32]) ++ (xs.getD k ⟨#[]⟩).data.toList := by
  rw [take_map_snoc _ xs ⟨#[]⟩ k hk, joinL_snoc]
  by_cases h : k = 0
  · subst h
    rw [if_pos rfl, if_pos (by simp)]
  · rw [if_neg h, if_neg]
    intro e
    have := congrArg List.length e
    rw [List.length_map, List.length_take, List.length_nil] at this
    omega
theorem rowS_at {w : World} {B c : Nat} {p : Option Addr} {xs : List ByteArray} (h : RowS w B (.slice p xs.length c) xs) (k : Nat) (hk : k < xs.length) : ∃ g, p = some ⟨g, 0, none⟩ ∧ w.cell? ⟨g, 0 + k * 1, none⟩ = some (.string (bs (xs.getD k ⟨#[]⟩).data.toList)) := by
  obtain ⟨p', c', e, h1, h2, h3⟩ := ownsRow_form h
  injection e with e1 e2 e3
  subst e1 e3
  cases p with
  | none => have := (h3 rfl).1; omega
  | some a =>
    obtain ⟨g, cur, e, _, hg⟩ := ownsRow_at h
    subst e
    refine ⟨g, rfl, ?_⟩
    rw [Nat.zero_add, Nat.mul_one, bs_of]
    refine ownsRow_cell h k _ ?_
    rw [stCells1_map, List.getElem?_map, List.getElem?_eq_getElem hk, List.getD_eq_getElem?_getD, List.getElem?_eq_getElem hk]
    rfl
set_option maxHeartbeats 1000000 in
set_option maxRecDepth 100000 in
theorem refJoin7 {B c : Nat} {p : Option Addr} {xs : List ByteArray} (w : World) (HR : RowS w B (.slice p xs.length c) xs) (hn : xs.length ≤ 1000000) (hl : (joinL (xs.map (·.data.toList))).length ≤ 140737488355328) :
    Calls Tryz.prog 36 #[.slice p xs.length c] w fun e w' => e = .returned (.string (bs (joinL (xs.map (·.data.toList))))) ∧ Below w.heap.size w w' := by
  have D : w.grownBy w none := grown_refl _ _
  go_enter Tryz.func36, Tryz.ntmps36
  refine wp_seq_k (fun K1 hK1 => ?_)
  refine wp_region_lit ?_
  refine wl_yield (o := ⟨_, _, _, _, _, _⟩) (.string (bs ([]))) (yl_assign (by rfl) _ rfl _ rfl) ?_
  simp only [Act.put, lzA, lzB, lzC]
  refine wpList_nil ?_
  refine hK1 _ _ ?_
  clear hK1 K1
  refine wp_seq_k (fun K2 hK2 => ?_)
  refine wp_region_lit ?_
  refine wl_yield (o := ⟨_, _, _, _, _, _⟩) (.string (bs ([]))) (yl_assign (by rfl) _ rfl _ rfl) ?_
  simp only [Act.put, lzA, lzB, lzC]
  refine wpList_nil ?_
  refine hK2 _ _ ?_
  clear hK2 K2
  refine wp_seq_k (fun K3 hK3 => ?_)
  refine wp_seq_k (fun K4 hK4 => ?_)
  refine wp_region_lit ?_
  refine wl_yield (o := ⟨_, _, _, _, _, _⟩) (.int .i64 0) (yl_assign (by rfl) _ rfl _ rfl) ?_
  simp only [Act.put, lzA, lzB, lzC]
  refine wpList_nil ?_
  refine hK4 _ _ ?_
  clear hK4 K4
  refine wp_block ?_
  go_loopw [3, 4] (fun x i wr => ∃ (k : Nat), i = .int .i64 k ∧ k ≤ xs.length ∧ x = .string (bs (joinL ((xs.take k).map (·.data.toList)))) ∧ wr = w) (fun _ i _ => xs.length - (intOf i).toNat)
  case atStart => exact ⟨0, rfl, by omega, rfl, rfl⟩
  case round =>
    obtain ⟨k, rfl, hk, rfl, rfl⟩ := hrel
    have hj := joinL_take_le (xs.map (·.data.toList)) k
    rw [← List.map_take] at hj
    by_cases hlt : k < xs.length
    · obtain ⟨g, rfl, hg⟩ := rowS_at HR k hlt
      have hst := joinL_step k hlt
      have hj2 := joinL_take_le (xs.map (·.data.toList)) (k + 1)
      rw [← List.map_take] at hj2
      by_cases hz : k = 0
      · rw [if_pos hz] at hst
        have hst : joinL ((xs.take (k + 1)).map (·.data.toList)) = joinL ((xs.take k).map (·.data.toList)) ++ (xs.getD k ⟨#[]⟩).data.toList := by rw [hst, hz]; rfl
        rw [hst] at hj2
        simp only [List.length_append] at hj2
        refine wp_seq_k (fun K5 hK5 => ?_)
        refine wp_seq_k (fun K6 hK6 => ?_)
        refine wp_region_lit ?_
        refine wl_yield (o := ⟨_, _, _, _, _, _⟩) (.int .i64 (k : Nat)) (yl_move (by rfl) _ rfl _ rfl) ?_
        simp only [Act.put, lzA, lzB, lzC]
        refine wl_yield (o := ⟨_, _, _, _, _, _⟩) (.slice ((some ⟨g, 0, none⟩)) xs.length c) (yl_move (by rfl) _ rfl _ rfl) ?_
        simp only [Act.put, lzA, lzB, lzC]
        refine wl_yield (o := ⟨_, _, _, _, _, _⟩) (.int .i64 (xs.length : Nat)) (yt_lenT (by rfl) _ rfl ((some ⟨g, 0, none⟩)) xs.length c rfl) ?_
        simp only [Act.put, lzA, lzB, lzC]
        refine wl_yield (o := ⟨_, _, _, _, _, _⟩) (.bool true) (yt_lssI (by rfl) _ _ _ rfl (((k : Nat) : Int)) (((xs.length : Nat) : Int)) true rfl rfl (decide_eq_true (by omega))) ?_
        simp only [Act.put, lzA, lzB, lzC]
        refine wpList_nil ?_
        refine hK6 _ _ ?_
        clear hK6 K6
        refine wp_cond_true rfl ?_
        refine wp_skip ?_
        refine hK5 _ _ ?_
        clear hK5 K5
        refine wp_seq_k (fun K7 hK7 => ?_)
        refine wp_block ?_
        refine wp_seq_k (fun K8 hK8 => ?_)
        refine wp_seq_k (fun K9 hK9 => ?_)
        refine wp_region_lit ?_
        refine wl_yield (o := ⟨_, _, _, _, _, _⟩) (.int .i64 (k : Nat)) (yl_move (by rfl) _ rfl _ rfl) ?_
        simp only [Act.put, lzA, lzB, lzC]
        refine wl_yield (o := ⟨_, _, _, _, _, _⟩) (.bool false) (yt_gtrI (by rfl) _ _ _ rfl (((k : Nat) : Int)) 0 false rfl rfl (decide_eq_false (by omega))) ?_
        simp only [Act.put, lzA, lzB, lzC]
        refine wpList_nil ?_
        refine hK9 _ _ ?_
        clear hK9 K9
        refine wp_cond_false rfl ?_
        refine wp_skip ?_
        refine hK8 _ _ ?_
        clear hK8 K8
        refine wp_region_lit ?_
        refine wl_yield (o := ⟨_, _, _, _, _, _⟩) (.string (bs (joinL ((xs.take k).map (·.data.toList))))) (yl_move (by rfl) _ rfl _ rfl) ?_
        simp only [Act.put, lzA, lzB, lzC]
        refine wl_yield (o := ⟨_, _, _, _, _, _⟩) (.slice ((some ⟨g, 0, none⟩)) xs.length c) (yl_move (by rfl) _ rfl _ rfl) ?_
        simp only [Act.put, lzA, lzB, lzC]
        refine wl_yield (o := ⟨_, _, _, _, _, _⟩) (.int .i64 (k : Nat)) (yl_move (by rfl) _ rfl _ rfl) ?_
        simp only [Act.put, lzA, lzB, lzC]
        refine wl_yield (o := ⟨_, _, _, _, _, _⟩) (.pointer (some ⟨g, 0 + k * 1, none⟩)) (yt_atT (by rfl) _ _ rfl g 0 _ _ k rfl rfl (hlt)) ?_
        simp only [Act.put, lzA, lzB, lzC]
        refine wl_yield (o := ⟨_, _, _, _, _, _⟩) (.string (bs ((xs.getD k ⟨#[]⟩).data.toList))) (yt_ldS (by rfl) _ rfl _ _ rfl (bs (xs.getD k ⟨#[]⟩).data.toList) (fun _ h => by subst h; exact hg)) ?_
        simp only [Act.put, lzA, lzB, lzC]
        refine wl_yield (o := ⟨_, _, _, _, _, _⟩) (.string (bs ((joinL ((xs.take k).map (·.data.toList))) ++ ((xs.getD k ⟨#[]⟩).data.toList)))) (yt_cat (by rfl) _ _ _ rfl (joinL ((xs.take k).map (·.data.toList))) ((xs.getD k ⟨#[]⟩).data.toList) rfl rfl (by simp only [List.length_append, List.length_cons, List.length_nil] at *; omega)) ?_
        simp only [Act.put, lzA, lzB, lzC]
        refine wl_yield (o := ⟨_, _, _, _, _, _⟩) (.string (bs ((joinL ((xs.take k).map (·.data.toList))) ++ ((xs.getD k ⟨#[]⟩).data.toList)))) (yl_assign (by rfl) _ rfl _ rfl) ?_
        simp only [Act.put, lzA, lzB, lzC]
        refine wpList_nil ?_
        refine hK7 _ _ ?_
        clear hK7 K7
        refine wp_region_lit ?_
        refine wl_yield (o := ⟨_, _, _, _, _, _⟩) (.int .i64 (k : Nat)) (yl_move (by rfl) _ rfl _ rfl) ?_
        simp only [Act.put, lzA, lzB, lzC]
        refine wl_yield (o := ⟨_, _, _, _, _, _⟩) (.int .i64 (k + 1 : Nat)) (yt_addI (by rfl) _ _ _ rfl (((k : Nat) : Int)) 1 (((k + 1 : Nat) : Int)) rfl rfl (by omega) (by omega) (by omega)) ?_
        simp only [Act.put, lzA, lzB, lzC]
        refine wl_yield (o := ⟨_, _, _, _, _, _⟩) (.int .i64 (k + 1 : Nat)) (yl_assign (by rfl) _ rfl _ rfl) ?_
        simp only [Act.put, lzA, lzB, lzC]
        refine wpList_nil ?_
        show _ ∧ _
        go_roundw
        case rel => exact ⟨k + 1, rfl, by omega, by rw [hst], rfl⟩
        case measure => simp [intOf]; omega
      · rw [if_neg hz] at hst
        rw [hst] at hj2
        simp only [List.length_append] at hj2
        refine wp_seq_k (fun K5 hK5 => ?_)
        refine wp_seq_k (fun K6 hK6 => ?_)
        refine wp_region_lit ?_
        refine wl_yield (o := ⟨_, _, _, _, _, _⟩) (.int .i64 (k : Nat)) (yl_move (by rfl) _ rfl _ rfl) ?_
        simp only [Act.put, lzA, lzB, lzC]
        refine wl_yield (o := ⟨_, _, _, _, _, _⟩) (.slice ((some ⟨g, 0, none⟩)) xs.length c) (yl_move (by rfl) _ rfl _ rfl) ?_
        simp only [Act.put, lzA, lzB, lzC]
        refine wl_yield (o := ⟨_, _, _, _, _, _⟩) (.int .i64 (xs.length : Nat)) (yt_lenT (by rfl) _ rfl ((some ⟨g, 0, none⟩)) xs.length c rfl) ?_
        simp only [Act.put, lzA, lzB, lzC]
        refine wl_yield (o := ⟨_, _, _, _, _, _⟩) (.bool true) (yt_lssI (by rfl) _ _ _ rfl (((k : Nat) : Int)) (((xs.length : Nat) : Int)) true rfl rfl (decide_eq_true (by omega))) ?_
        simp only [Act.put, lzA, lzB, lzC]
        refine wpList_nil ?_
        refine hK6 _ _ ?_
        clear hK6 K6
        refine wp_cond_true rfl ?_
        refine wp_skip ?_
        refine hK5 _ _ ?_
        clear hK5 K5
        refine wp_seq_k (fun K7 hK7 => ?_)
        refine wp_block ?_
        refine wp_seq_k (fun K8 hK8 => ?_)
        refine wp_seq_k (fun K9 hK9 => ?_)
        refine wp_region_lit ?_
        refine wl_yield (o := ⟨_, _, _, _, _, _⟩) (.int .i64 (k : Nat)) (yl_move (by rfl) _ rfl _ rfl) ?_
        simp only [Act.put, lzA, lzB, lzC]
        refine wl_yield (o := ⟨_, _, _, _, _, _⟩) (.bool true) (yt_gtrI (by rfl) _ _ _ rfl (((k : Nat) : Int)) 0 true rfl rfl (decide_eq_true (by omega))) ?_
        simp only [Act.put, lzA, lzB, lzC]
        refine wpList_nil ?_
        refine hK9 _ _ ?_
        clear hK9 K9
        refine wp_cond_true rfl ?_
        refine wp_region_lit ?_
        refine wl_yield (o := ⟨_, _, _, _, _, _⟩) (.string (bs (joinL ((xs.take k).map (·.data.toList))))) (yl_move (by rfl) _ rfl _ rfl) ?_
        simp only [Act.put, lzA, lzB, lzC]
        refine wl_yield (o := ⟨_, _, _, _, _, _⟩) (.string (bs ((joinL ((xs.take k).map (·.data.toList))) ++ ([32])))) (yt_cat (by rfl) _ _ _ rfl (joinL ((xs.take k).map (·.data.toList))) ([32]) rfl rfl (by simp only [List.length_append, List.length_cons, List.length_nil] at *; omega)) ?_
        simp only [Act.put, lzA, lzB, lzC]
        refine wl_yield (o := ⟨_, _, _, _, _, _⟩) (.string (bs ((joinL ((xs.take k).map (·.data.toList))) ++ ([32])))) (yl_assign (by rfl) _ rfl _ rfl) ?_
        simp only [Act.put, lzA, lzB, lzC]
        refine wpList_nil ?_
        refine hK8 _ _ ?_
        clear hK8 K8
        refine wp_region_lit ?_
        refine wl_yield (o := ⟨_, _, _, _, _, _⟩) (.string (bs ((joinL ((xs.take k).map (·.data.toList))) ++ ([32])))) (yl_move (by rfl) _ rfl _ rfl) ?_
        simp only [Act.put, lzA, lzB, lzC]
        refine wl_yield (o := ⟨_, _, _, _, _, _⟩) (.slice ((some ⟨g, 0, none⟩)) xs.length c) (yl_move (by rfl) _ rfl _ rfl) ?_
        simp only [Act.put, lzA, lzB, lzC]
        refine wl_yield (o := ⟨_, _, _, _, _, _⟩) (.int .i64 (k : Nat)) (yl_move (by rfl) _ rfl _ rfl) ?_
        simp only [Act.put, lzA, lzB, lzC]
        refine wl_yield (o := ⟨_, _, _, _, _, _⟩) (.pointer (some ⟨g, 0 + k * 1, none⟩)) (yt_atT (by rfl) _ _ rfl g 0 _ _ k rfl rfl (hlt)) ?_
        simp only [Act.put, lzA, lzB, lzC]
        refine wl_yield (o := ⟨_, _, _, _, _, _⟩) (.string (bs ((xs.getD k ⟨#[]⟩).data.toList))) (yt_ldS (by rfl) _ rfl _ _ rfl (bs (xs.getD k ⟨#[]⟩).data.toList) (fun _ h => by subst h; exact hg)) ?_
        simp only [Act.put, lzA, lzB, lzC]
        refine wl_yield (o := ⟨_, _, _, _, _, _⟩) (.string (bs (((joinL ((xs.take k).map (·.data.toList))) ++ ([32])) ++ ((xs.getD k ⟨#[]⟩).data.toList)))) (yt_cat (by rfl) _ _ _ rfl ((joinL ((xs.take k).map (·.data.toList))) ++ ([32])) ((xs.getD k ⟨#[]⟩).data.toList) rfl rfl (by simp only [List.length_append, List.length_cons, List.length_nil] at *; omega)) ?_
        simp only [Act.put, lzA, lzB, lzC]
        refine wl_yield (o := ⟨_, _, _, _, _, _⟩) (.string (bs (((joinL ((xs.take k).map (·.data.toList))) ++ ([32])) ++ ((xs.getD k ⟨#[]⟩).data.toList)))) (yl_assign (by rfl) _ rfl _ rfl) ?_
        simp only [Act.put, lzA, lzB, lzC]
        refine wpList_nil ?_
        refine hK7 _ _ ?_
        clear hK7 K7
        refine wp_region_lit ?_
        refine wl_yield (o := ⟨_, _, _, _, _, _⟩) (.int .i64 (k : Nat)) (yl_move (by rfl) _ rfl _ rfl) ?_
        simp only [Act.put, lzA, lzB, lzC]
        refine wl_yield (o := ⟨_, _, _, _, _, _⟩) (.int .i64 (k + 1 : Nat)) (yt_addI (by rfl) _ _ _ rfl (((k : Nat) : Int)) 1 (((k + 1 : Nat) : Int)) rfl rfl (by omega) (by omega) (by omega)) ?_
        simp only [Act.put, lzA, lzB, lzC]
        refine wl_yield (o := ⟨_, _, _, _, _, _⟩) (.int .i64 (k + 1 : Nat)) (yl_assign (by rfl) _ rfl _ rfl) ?_
        simp only [Act.put, lzA, lzB, lzC]
        refine wpList_nil ?_
        show _ ∧ _
        go_roundw
        case rel => exact ⟨k + 1, rfl, by omega, by rw [hst], rfl⟩
        case measure => simp [intOf]; omega
    · obtain rfl : k = xs.length := by omega
      refine wp_seq_k (fun K5 hK5 => ?_)
      refine wp_seq_k (fun K6 hK6 => ?_)
      refine wp_region_lit ?_
      refine wl_yield (o := ⟨_, _, _, _, _, _⟩) (.int .i64 (xs.length : Nat)) (yl_move (by rfl) _ rfl _ rfl) ?_
      simp only [Act.put, lzA, lzB, lzC]
      refine wl_yield (o := ⟨_, _, _, _, _, _⟩) (.slice p xs.length c) (yl_move (by rfl) _ rfl _ rfl) ?_
      simp only [Act.put, lzA, lzB, lzC]
      refine wl_yield (o := ⟨_, _, _, _, _, _⟩) (.int .i64 (xs.length : Nat)) (yt_lenT (by rfl) _ rfl p xs.length c rfl) ?_
      simp only [Act.put, lzA, lzB, lzC]
      refine wl_yield (o := ⟨_, _, _, _, _, _⟩) (.bool false) (yt_lssI (by rfl) _ _ _ rfl (((xs.length : Nat) : Int)) (((xs.length : Nat) : Int)) false rfl rfl (decide_eq_false (by omega))) ?_
      simp only [Act.put, lzA, lzB, lzC]
      refine wpList_nil ?_
      refine hK6 _ _ ?_
      clear hK6 K6
      refine wp_cond_false rfl ?_
      refine wp_exit ?_
      refine hK3 _ _ ?_
      clear hK5 K5 hK3 K3
      refine wp_seq_k (fun K7 hK7 => ?_)
      refine wp_region_lit ?_
      refine wl_yield (o := ⟨_, _, _, _, _, _⟩) (.string (bs (joinL ((xs.take xs.length).map (·.data.toList))))) (yl_move (by rfl) _ rfl _ rfl) ?_
      simp only [Act.put, lzA, lzB, lzC]
      refine wl_yield (o := ⟨_, _, _, _, _, _⟩) (.string (bs (joinL ((xs.take xs.length).map (·.data.toList))))) (yl_assign (by rfl) _ rfl _ rfl) ?_
      simp only [Act.put, lzA, lzB, lzC]
      refine wpList_nil ?_
      refine hK7 _ _ ?_
      clear hK7 K7
      refine wp_ret ?_
      go_ret
      exact ⟨ret_str (by rw [List.take_length]), Below.refl _ _⟩
end Go.Proofs.YtlmdcaemjaldfaaGreatDoor
namespace Go.Proofs.YtlmdcaemjaldfaaGreatDoor
open Go.RowKit
end Go.Proofs.YtlmdcaemjaldfaaGreatDoor
namespace Go.Proofs.YtlmdcaemjaldfaaGreatDoor
open Go.RowKit
end Go.Proofs.YtlmdcaemjaldfaaGreatDoor
namespace Go.Proofs.YtlmdcaemjaldfaaGreatDoor
open Go.RowKit
abbrev rfObj (l : List UInt8) (n : Nat) : Obj := .cells #[.string (bs l), .int .i64 n] 60 (0, 0)
set_option maxHeartbeats 1000000 in
set_option maxRecDepth 100000 in
theorem refEat7 (b n : Nat) (l m : List UInt8) (w : World) (G : w.heap[b]? = some (rfObj l n)) (hn : n ≤ l.length) (hl : l.length ≤ 1000000) (hm1 : m.length ≤ 1000000) (hm0 : 0 < m.length) :
    Calls Tryz.prog 27 #[.pointer (some ⟨b, 0, none⟩), .string (bs m)] w fun e w' => ((l.drop n).take m.length = m ∧ e = .returned (.bool true) ∧ w'.heap[b]? = some (rfObj l (n + m.length)) ∧ w.grownBy w' (some b)) ∨ (¬ (l.drop n).take m.length = m ∧ e = .returned (.bool false) ∧ w'.heap[b]? = some (rfObj l n) ∧ w.grownBy w' (some b)) := by
  have D : w.grownBy w (some b) := grown_refl _ _
  go_enter Tryz.func27, Tryz.ntmps27
  refine wp_seq_k (fun K1 hK1 => ?_)
  refine wp_region_lit ?_
  refine wl_yield (o := ⟨_, _, _, _, _, _⟩) (.bool false) (yl_assign (by rfl) _ rfl _ rfl) ?_
  simp only [Act.put, lzA, lzB, lzC]
  refine wpList_nil ?_
  refine hK1 _ _ ?_
  clear hK1 K1
  refine wp_seq_k (fun K2 hK2 => ?_)
  refine wp_seq_k (fun K3 hK3 => ?_)
  by_cases hf : l.length < n + m.length
  · refine wp_region_late (S := fun w' => w'.heap[b]? = some (.cells #[.string (bs l), .int .i64 (n : Nat)] 60 (0, 0))) (late := fun j => [].contains j) (by kernel_rfl) ?_
    have kb : Below w.heap.size w w.drew := (Below.refl _ w).drew
    replace D := grown_below D kb
    replace G := heap_on G kb
    clear kb
    generalize w.drew = v1 at D G ⊢
    refine wpAnyL_pure (i := 0) (oi := ⟨_, _, _, _, _, _⟩) (v := .pointer (some ⟨b, 0, none⟩)) rfl (by kernel_rfl) (by kernel_rfl) (by kernel_rfl) (fun _ _ _ h => h) (yl_move (by rfl) _ rfl _ rfl) ?_
    simp only [Act.put, lzA, lzB, lzC]
    refine wpAnyL_pure (i := 1) (oi := ⟨_, _, _, _, _, _⟩) (v := .pointer (some ⟨b, 0, none⟩)) rfl (by kernel_rfl) (by kernel_rfl) (by kernel_rfl) (fun _ _ _ h => h) (yt_nil (by rfl) _ rfl _ rfl) ?_
    simp only [Act.put, lzA, lzB, lzC]
    refine wpAnyL_pure (i := 2) (oi := ⟨_, _, _, _, _, _⟩) (v := .pointer (some ⟨b, 1, none⟩)) rfl (by kernel_rfl) (by kernel_rfl) (by kernel_rfl) (fun _ _ _ h => h) (yt_fRr1 (by rfl) _ rfl b 0 rfl) ?_
    simp only [Act.put, lzA, lzB, lzC]
    refine wpAnyL_load (i := 3) (oi := ⟨_, _, _, _, _, _⟩) (v := .int .i64 (n : Nat)) rfl (by kernel_rfl) (by kernel_rfl) (by kernel_rfl) (by kernel_rfl) (fun _ _ _ h => h) (yt_ldI (by rfl) _ rfl _ _ rfl (((n : Nat) : Int)) (fun _ h => cell_heap h 1)) G ?_
    simp only [Act.put, lzA, lzB, lzC]
    refine wpAnyL_pure (i := 4) (oi := ⟨_, _, _, _, _, _⟩) (v := .string (bs m)) rfl (by kernel_rfl) (by kernel_rfl) (by kernel_rfl) (fun _ _ _ h => h) (yl_move (by rfl) _ rfl _ rfl) ?_
    simp only [Act.put, lzA, lzB, lzC]
    refine wpAnyL_pure (i := 5) (oi := ⟨_, _, _, _, _, _⟩) (v := .int .i64 (m.length : Nat)) rfl (by kernel_rfl) (by kernel_rfl) (by kernel_rfl) (fun _ _ _ h => h) (yt_lenS (by rfl) _ rfl m rfl) ?_
    simp only [Act.put, lzA, lzB, lzC]
    refine wpAnyL_pure (i := 6) (oi := ⟨_, _, _, _, _, _⟩) (v := .int .i64 (n + m.length : Nat)) rfl (by kernel_rfl) (by kernel_rfl) (by kernel_rfl) (fun _ _ _ h => h) (yt_addI (by rfl) _ _ _ rfl (((n : Nat) : Int)) (((m.length : Nat) : Int)) (((n + m.length : Nat) : Int)) rfl rfl (by omega) (by omega) (by omega)) ?_
    simp only [Act.put, lzA, lzB, lzC]
    refine wpAnyL_pure (i := 7) (oi := ⟨_, _, _, _, _, _⟩) (v := .pointer (some ⟨b, 0, none⟩)) rfl (by kernel_rfl) (by kernel_rfl) (by kernel_rfl) (fun _ _ _ h => h) (yl_move (by rfl) _ rfl _ rfl) ?_
    simp only [Act.put, lzA, lzB, lzC]
    refine wpAnyL_pure (i := 8) (oi := ⟨_, _, _, _, _, _⟩) (v := .pointer (some ⟨b, 0, none⟩)) rfl (by kernel_rfl) (by kernel_rfl) (by kernel_rfl) (fun _ _ _ h => h) (yt_nil (by rfl) _ rfl _ rfl) ?_
    simp only [Act.put, lzA, lzB, lzC]
    refine wpAnyL_pure (i := 9) (oi := ⟨_, _, _, _, _, _⟩) (v := .pointer (some ⟨b, 0, none⟩)) rfl (by kernel_rfl) (by kernel_rfl) (by kernel_rfl) (fun _ _ _ h => h) (yt_fRr0 (by rfl) _ rfl b 0 rfl) ?_
    simp only [Act.put, lzA, lzB, lzC]
    refine wpAnyL_load (i := 10) (oi := ⟨_, _, _, _, _, _⟩) (v := .string (bs l)) rfl (by kernel_rfl) (by kernel_rfl) (by kernel_rfl) (by kernel_rfl) (fun _ _ _ h => h) (yt_ldS (by rfl) _ rfl _ _ rfl (bs l) (fun _ h => cell_heap h 0)) G ?_
    simp only [Act.put, lzA, lzB, lzC]
    refine wpAnyL_pure (i := 11) (oi := ⟨_, _, _, _, _, _⟩) (v := .int .i64 (l.length : Nat)) rfl (by kernel_rfl) (by kernel_rfl) (by kernel_rfl) (fun _ _ _ h => h) (yt_lenS (by rfl) _ rfl l rfl) ?_
    simp only [Act.put, lzA, lzB, lzC]
    refine wpAnyL_pure (i := 12) (oi := ⟨_, _, _, _, _, _⟩) (v := .bool true) rfl (by kernel_rfl) (by kernel_rfl) (by kernel_rfl) (fun _ _ _ h => h) (yt_gtrI (by rfl) _ _ _ rfl (((n + m.length : Nat) : Int)) (((l.length : Nat) : Int)) true rfl rfl (decide_eq_true (by omega))) ?_
    simp only [Act.put, lzA, lzB, lzC]
    refine wpAnyL_pure (i := 13) (oi := ⟨_, _, _, _, _, _⟩) (v := .bool true) rfl (by kernel_rfl) (by kernel_rfl) (by kernel_rfl) (fun _ _ _ h => h) (yl_move (by rfl) _ rfl _ rfl) ?_
    simp only [Act.put, lzA, lzB, lzC]
    refine wpAnyL_pure (i := 14) (oi := ⟨_, _, _, _, _, _⟩) (v := undef) rfl (by kernel_rfl) (by kernel_rfl) (by kernel_rfl) (fun _ _ _ h => h) (yl_undef (by rfl)) ?_
    simp only [Act.put, lzA, lzB, lzC]
    refine wpAnyL_pure (i := 15) (oi := ⟨_, _, _, _, _, _⟩) (v := undef) rfl (by kernel_rfl) (by kernel_rfl) (by kernel_rfl) (fun _ _ _ h => h) (yl_undef (by rfl)) ?_
    simp only [Act.put, lzA, lzB, lzC]
    refine wpAnyL_pure (i := 16) (oi := ⟨_, _, _, _, _, _⟩) (v := undef) rfl (by kernel_rfl) (by kernel_rfl) (by kernel_rfl) (fun _ _ _ h => h) (yl_undef (by rfl)) ?_
    simp only [Act.put, lzA, lzB, lzC]
    refine wpAnyL_load (i := 17) (oi := ⟨_, _, _, _, _, _⟩) (v := undef) rfl (by kernel_rfl) (by kernel_rfl) (by kernel_rfl) (by kernel_rfl) (fun _ _ _ h => h) (yl_undef (by rfl)) G ?_
    simp only [Act.put, lzA, lzB, lzC]
    refine wpAnyL_pure (i := 18) (oi := ⟨_, _, _, _, _, _⟩) (v := undef) rfl (by kernel_rfl) (by kernel_rfl) (by kernel_rfl) (fun _ _ _ h => h) (yl_undef (by rfl)) ?_
    simp only [Act.put, lzA, lzB, lzC]
    refine wpAnyL_pure (i := 19) (oi := ⟨_, _, _, _, _, _⟩) (v := undef) rfl (by kernel_rfl) (by kernel_rfl) (by kernel_rfl) (fun _ _ _ h => h) (yl_undef (by rfl)) ?_
    simp only [Act.put, lzA, lzB, lzC]
    refine wpAnyL_pure (i := 20) (oi := ⟨_, _, _, _, _, _⟩) (v := undef) rfl (by kernel_rfl) (by kernel_rfl) (by kernel_rfl) (fun _ _ _ h => h) (yl_undef (by rfl)) ?_
    simp only [Act.put, lzA, lzB, lzC]
    refine wpAnyL_load (i := 21) (oi := ⟨_, _, _, _, _, _⟩) (v := undef) rfl (by kernel_rfl) (by kernel_rfl) (by kernel_rfl) (by kernel_rfl) (fun _ _ _ h => h) (yl_undef (by rfl)) G ?_
    simp only [Act.put, lzA, lzB, lzC]
    refine wpAnyL_pure (i := 22) (oi := ⟨_, _, _, _, _, _⟩) (v := undef) rfl (by kernel_rfl) (by kernel_rfl) (by kernel_rfl) (fun _ _ _ h => h) (yl_undef (by rfl)) ?_
    simp only [Act.put, lzA, lzB, lzC]
    refine wpAnyL_pure (i := 23) (oi := ⟨_, _, _, _, _, _⟩) (v := undef) rfl (by kernel_rfl) (by kernel_rfl) (by kernel_rfl) (fun _ _ _ h => h) (yl_undef (by rfl)) ?_
    simp only [Act.put, lzA, lzB, lzC]
    refine wpAnyL_pure (i := 24) (oi := ⟨_, _, _, _, _, _⟩) (v := undef) rfl (by kernel_rfl) (by kernel_rfl) (by kernel_rfl) (fun _ _ _ h => h) (yl_undef (by rfl)) ?_
    simp only [Act.put, lzA, lzB, lzC]
    refine wpAnyL_load (i := 25) (oi := ⟨_, _, _, _, _, _⟩) (v := undef) rfl (by kernel_rfl) (by kernel_rfl) (by kernel_rfl) (by kernel_rfl) (fun _ _ _ h => h) (yl_undef (by rfl)) G ?_
    simp only [Act.put, lzA, lzB, lzC]
    refine wpAnyL_pure (i := 26) (oi := ⟨_, _, _, _, _, _⟩) (v := undef) rfl (by kernel_rfl) (by kernel_rfl) (by kernel_rfl) (fun _ _ _ h => h) (yl_undef (by rfl)) ?_
    simp only [Act.put, lzA, lzB, lzC]
    refine wpAnyL_pure (i := 27) (oi := ⟨_, _, _, _, _, _⟩) (v := undef) rfl (by kernel_rfl) (by kernel_rfl) (by kernel_rfl) (fun _ _ _ h => h) (yl_undef (by rfl)) ?_
    simp only [Act.put, lzA, lzB, lzC]
    refine wpAnyL_pure (i := 28) (oi := ⟨_, _, _, _, _, _⟩) (v := undef) rfl (by kernel_rfl) (by kernel_rfl) (by kernel_rfl) (fun _ _ _ h => h) (yl_undef (by rfl)) ?_
    simp only [Act.put, lzA, lzB, lzC]
    refine wpAnyL_pure (i := 29) (oi := ⟨_, _, _, _, _, _⟩) (v := undef) rfl (by kernel_rfl) (by kernel_rfl) (by kernel_rfl) (fun _ _ _ h => h) (yl_undef (by rfl)) ?_
    simp only [Act.put, lzA, lzB, lzC]
    refine wpAnyL_pure (i := 30) (oi := ⟨_, _, _, _, _, _⟩) (v := undef) rfl (by kernel_rfl) (by kernel_rfl) (by kernel_rfl) (fun _ _ _ h => h) (yl_undef (by rfl)) ?_
    simp only [Act.put, lzA, lzB, lzC]
    refine wpAnyL_pure (i := 31) (oi := ⟨_, _, _, _, _, _⟩) (v := undef) rfl (by kernel_rfl) (by kernel_rfl) (by kernel_rfl) (fun _ _ _ h => h) (yl_undef (by rfl)) ?_
    simp only [Act.put, lzA, lzB, lzC]
    refine wpAnyL_pure (i := 32) (oi := ⟨_, _, _, _, _, _⟩) (v := .bool true) rfl (by kernel_rfl) (by kernel_rfl) (by kernel_rfl) (fun _ _ _ h => h) (yl_pickT (by rfl) _ _ _ rfl rfl _ rfl) ?_
    simp only [Act.put, lzA, lzB, lzC]
    refine wpAnyL_done (by kernel_rfl) ?_ _
    refine hK3 _ _ ?_
    clear hK3 K3
    refine wp_cond_true rfl ?_
    refine wp_seq_k (fun K4 hK4 => ?_)
    refine wp_region_lit ?_
    refine wl_yield (o := ⟨_, _, _, _, _, _⟩) (.bool false) (yl_assign (by rfl) _ rfl _ rfl) ?_
    simp only [Act.put, lzA, lzB, lzC]
    refine wpList_nil ?_
    refine hK4 _ _ ?_
    clear hK4 K4
    refine wp_ret ?_
    go_ret
    exact Or.inr ⟨(fun e => by have h := congrArg List.length e; rw [List.length_take, List.length_drop] at h; omega), rfl, G, D⟩
  · have ht : (l.drop n).take (n + m.length - n) = (l.drop n).take m.length := by rw [Nat.add_sub_cancel_left]
    by_cases hm : (l.drop n).take m.length = m
    · refine wp_region_late (S := fun w' => w'.heap[b]? = some (.cells #[.string (bs l), .int .i64 (n : Nat)] 60 (0, 0))) (late := fun j => [].contains j) (by kernel_rfl) ?_
      have kb : Below w.heap.size w w.drew := (Below.refl _ w).drew
      replace D := grown_below D kb
      replace G := heap_on G kb
      clear kb
      generalize w.drew = v1 at D G ⊢
      refine wpAnyL_pure (i := 0) (oi := ⟨_, _, _, _, _, _⟩) (v := .pointer (some ⟨b, 0, none⟩)) rfl (by kernel_rfl) (by kernel_rfl) (by kernel_rfl) (fun _ _ _ h => h) (yl_move (by rfl) _ rfl _ rfl) ?_
      simp only [Act.put, lzA, lzB, lzC]
      refine wpAnyL_pure (i := 1) (oi := ⟨_, _, _, _, _, _⟩) (v := .pointer (some ⟨b, 0, none⟩)) rfl (by kernel_rfl) (by kernel_rfl) (by kernel_rfl) (fun _ _ _ h => h) (yt_nil (by rfl) _ rfl _ rfl) ?_
      simp only [Act.put, lzA, lzB, lzC]
      refine wpAnyL_pure (i := 2) (oi := ⟨_, _, _, _, _, _⟩) (v := .pointer (some ⟨b, 1, none⟩)) rfl (by kernel_rfl) (by kernel_rfl) (by kernel_rfl) (fun _ _ _ h => h) (yt_fRr1 (by rfl) _ rfl b 0 rfl) ?_
      simp only [Act.put, lzA, lzB, lzC]
      refine wpAnyL_load (i := 3) (oi := ⟨_, _, _, _, _, _⟩) (v := .int .i64 (n : Nat)) rfl (by kernel_rfl) (by kernel_rfl) (by kernel_rfl) (by kernel_rfl) (fun _ _ _ h => h) (yt_ldI (by rfl) _ rfl _ _ rfl (((n : Nat) : Int)) (fun _ h => cell_heap h 1)) G ?_
      simp only [Act.put, lzA, lzB, lzC]
      refine wpAnyL_pure (i := 4) (oi := ⟨_, _, _, _, _, _⟩) (v := .string (bs m)) rfl (by kernel_rfl) (by kernel_rfl) (by kernel_rfl) (fun _ _ _ h => h) (yl_move (by rfl) _ rfl _ rfl) ?_
      simp only [Act.put, lzA, lzB, lzC]
      refine wpAnyL_pure (i := 5) (oi := ⟨_, _, _, _, _, _⟩) (v := .int .i64 (m.length : Nat)) rfl (by kernel_rfl) (by kernel_rfl) (by kernel_rfl) (fun _ _ _ h => h) (yt_lenS (by rfl) _ rfl m rfl) ?_
      simp only [Act.put, lzA, lzB, lzC]
      refine wpAnyL_pure (i := 6) (oi := ⟨_, _, _, _, _, _⟩) (v := .int .i64 (n + m.length : Nat)) rfl (by kernel_rfl) (by kernel_rfl) (by kernel_rfl) (fun _ _ _ h => h) (yt_addI (by rfl) _ _ _ rfl (((n : Nat) : Int)) (((m.length : Nat) : Int)) (((n + m.length : Nat) : Int)) rfl rfl (by omega) (by omega) (by omega)) ?_
      simp only [Act.put, lzA, lzB, lzC]
      refine wpAnyL_pure (i := 7) (oi := ⟨_, _, _, _, _, _⟩) (v := .pointer (some ⟨b, 0, none⟩)) rfl (by kernel_rfl) (by kernel_rfl) (by kernel_rfl) (fun _ _ _ h => h) (yl_move (by rfl) _ rfl _ rfl) ?_
      simp only [Act.put, lzA, lzB, lzC]
      refine wpAnyL_pure (i := 8) (oi := ⟨_, _, _, _, _, _⟩) (v := .pointer (some ⟨b, 0, none⟩)) rfl (by kernel_rfl) (by kernel_rfl) (by kernel_rfl) (fun _ _ _ h => h) (yt_nil (by rfl) _ rfl _ rfl) ?_
      simp only [Act.put, lzA, lzB, lzC]
      refine wpAnyL_pure (i := 9) (oi := ⟨_, _, _, _, _, _⟩) (v := .pointer (some ⟨b, 0, none⟩)) rfl (by kernel_rfl) (by kernel_rfl) (by kernel_rfl) (fun _ _ _ h => h) (yt_fRr0 (by rfl) _ rfl b 0 rfl) ?_
      simp only [Act.put, lzA, lzB, lzC]
      refine wpAnyL_load (i := 10) (oi := ⟨_, _, _, _, _, _⟩) (v := .string (bs l)) rfl (by kernel_rfl) (by kernel_rfl) (by kernel_rfl) (by kernel_rfl) (fun _ _ _ h => h) (yt_ldS (by rfl) _ rfl _ _ rfl (bs l) (fun _ h => cell_heap h 0)) G ?_
      simp only [Act.put, lzA, lzB, lzC]
      refine wpAnyL_pure (i := 11) (oi := ⟨_, _, _, _, _, _⟩) (v := .int .i64 (l.length : Nat)) rfl (by kernel_rfl) (by kernel_rfl) (by kernel_rfl) (fun _ _ _ h => h) (yt_lenS (by rfl) _ rfl l rfl) ?_
      simp only [Act.put, lzA, lzB, lzC]
      refine wpAnyL_pure (i := 12) (oi := ⟨_, _, _, _, _, _⟩) (v := .bool false) rfl (by kernel_rfl) (by kernel_rfl) (by kernel_rfl) (fun _ _ _ h => h) (yt_gtrI (by rfl) _ _ _ rfl (((n + m.length : Nat) : Int)) (((l.length : Nat) : Int)) false rfl rfl (decide_eq_false (by omega))) ?_
      simp only [Act.put, lzA, lzB, lzC]
      refine wpAnyL_pure (i := 13) (oi := ⟨_, _, _, _, _, _⟩) (v := .bool false) rfl (by kernel_rfl) (by kernel_rfl) (by kernel_rfl) (fun _ _ _ h => h) (yl_move (by rfl) _ rfl _ rfl) ?_
      simp only [Act.put, lzA, lzB, lzC]
      refine wpAnyL_pure (i := 14) (oi := ⟨_, _, _, _, _, _⟩) (v := .pointer (some ⟨b, 0, none⟩)) rfl (by kernel_rfl) (by kernel_rfl) (by kernel_rfl) (fun _ _ _ h => h) (yl_move (by rfl) _ rfl _ rfl) ?_
      simp only [Act.put, lzA, lzB, lzC]
      refine wpAnyL_pure (i := 15) (oi := ⟨_, _, _, _, _, _⟩) (v := .pointer (some ⟨b, 0, none⟩)) rfl (by kernel_rfl) (by kernel_rfl) (by kernel_rfl) (fun _ _ _ h => h) (yt_nil (by rfl) _ rfl _ rfl) ?_
      simp only [Act.put, lzA, lzB, lzC]
      refine wpAnyL_pure (i := 16) (oi := ⟨_, _, _, _, _, _⟩) (v := .pointer (some ⟨b, 0, none⟩)) rfl (by kernel_rfl) (by kernel_rfl) (by kernel_rfl) (fun _ _ _ h => h) (yt_fRr0 (by rfl) _ rfl b 0 rfl) ?_
      simp only [Act.put, lzA, lzB, lzC]
      refine wpAnyL_load (i := 17) (oi := ⟨_, _, _, _, _, _⟩) (v := .string (bs l)) rfl (by kernel_rfl) (by kernel_rfl) (by kernel_rfl) (by kernel_rfl) (fun _ _ _ h => h) (yt_ldS (by rfl) _ rfl _ _ rfl (bs l) (fun _ h => cell_heap h 0)) G ?_
      simp only [Act.put, lzA, lzB, lzC]
      refine wpAnyL_pure (i := 18) (oi := ⟨_, _, _, _, _, _⟩) (v := .pointer (some ⟨b, 0, none⟩)) rfl (by kernel_rfl) (by kernel_rfl) (by kernel_rfl) (fun _ _ _ h => h) (yl_move (by rfl) _ rfl _ rfl) ?_
      simp only [Act.put, lzA, lzB, lzC]
      refine wpAnyL_pure (i := 19) (oi := ⟨_, _, _, _, _, _⟩) (v := .pointer (some ⟨b, 0, none⟩)) rfl (by kernel_rfl) (by kernel_rfl) (by kernel_rfl) (fun _ _ _ h => h) (yt_nil (by rfl) _ rfl _ rfl) ?_
      simp only [Act.put, lzA, lzB, lzC]
      refine wpAnyL_pure (i := 20) (oi := ⟨_, _, _, _, _, _⟩) (v := .pointer (some ⟨b, 1, none⟩)) rfl (by kernel_rfl) (by kernel_rfl) (by kernel_rfl) (fun _ _ _ h => h) (yt_fRr1 (by rfl) _ rfl b 0 rfl) ?_
      simp only [Act.put, lzA, lzB, lzC]
      refine wpAnyL_load (i := 21) (oi := ⟨_, _, _, _, _, _⟩) (v := .int .i64 (n : Nat)) rfl (by kernel_rfl) (by kernel_rfl) (by kernel_rfl) (by kernel_rfl) (fun _ _ _ h => h) (yt_ldI (by rfl) _ rfl _ _ rfl (((n : Nat) : Int)) (fun _ h => cell_heap h 1)) G ?_
      simp only [Act.put, lzA, lzB, lzC]
      refine wpAnyL_pure (i := 22) (oi := ⟨_, _, _, _, _, _⟩) (v := .pointer (some ⟨b, 0, none⟩)) rfl (by kernel_rfl) (by kernel_rfl) (by kernel_rfl) (fun _ _ _ h => h) (yl_move (by rfl) _ rfl _ rfl) ?_
      simp only [Act.put, lzA, lzB, lzC]
      refine wpAnyL_pure (i := 23) (oi := ⟨_, _, _, _, _, _⟩) (v := .pointer (some ⟨b, 0, none⟩)) rfl (by kernel_rfl) (by kernel_rfl) (by kernel_rfl) (fun _ _ _ h => h) (yt_nil (by rfl) _ rfl _ rfl) ?_
      simp only [Act.put, lzA, lzB, lzC]
      refine wpAnyL_pure (i := 24) (oi := ⟨_, _, _, _, _, _⟩) (v := .pointer (some ⟨b, 1, none⟩)) rfl (by kernel_rfl) (by kernel_rfl) (by kernel_rfl) (fun _ _ _ h => h) (yt_fRr1 (by rfl) _ rfl b 0 rfl) ?_
      simp only [Act.put, lzA, lzB, lzC]
      refine wpAnyL_load (i := 25) (oi := ⟨_, _, _, _, _, _⟩) (v := .int .i64 (n : Nat)) rfl (by kernel_rfl) (by kernel_rfl) (by kernel_rfl) (by kernel_rfl) (fun _ _ _ h => h) (yt_ldI (by rfl) _ rfl _ _ rfl (((n : Nat) : Int)) (fun _ h => cell_heap h 1)) G ?_
      simp only [Act.put, lzA, lzB, lzC]
      refine wpAnyL_pure (i := 26) (oi := ⟨_, _, _, _, _, _⟩) (v := .string (bs m)) rfl (by kernel_rfl) (by kernel_rfl) (by kernel_rfl) (fun _ _ _ h => h) (yl_move (by rfl) _ rfl _ rfl) ?_
      simp only [Act.put, lzA, lzB, lzC]
      refine wpAnyL_pure (i := 27) (oi := ⟨_, _, _, _, _, _⟩) (v := .int .i64 (m.length : Nat)) rfl (by kernel_rfl) (by kernel_rfl) (by kernel_rfl) (fun _ _ _ h => h) (yt_lenS (by rfl) _ rfl m rfl) ?_
      simp only [Act.put, lzA, lzB, lzC]
      refine wpAnyL_pure (i := 28) (oi := ⟨_, _, _, _, _, _⟩) (v := .int .i64 (n + m.length : Nat)) rfl (by kernel_rfl) (by kernel_rfl) (by kernel_rfl) (fun _ _ _ h => h) (yt_addI (by rfl) _ _ _ rfl (((n : Nat) : Int)) (((m.length : Nat) : Int)) (((n + m.length : Nat) : Int)) rfl rfl (by omega) (by omega) (by omega)) ?_
      simp only [Act.put, lzA, lzB, lzC]
      refine wpAnyL_pure (i := 29) (oi := ⟨_, _, _, _, _, _⟩) (v := .string (bs ((l.drop n).take (n + m.length - n)))) rfl (by kernel_rfl) (by kernel_rfl) (by kernel_rfl) (fun _ _ _ h => h) (yt_subS (by rfl) _ _ _ rfl l n (n + m.length) rfl rfl rfl (by omega) (by omega)) ?_
      simp only [Act.put, lzA, lzB, lzC]
      refine wpAnyL_pure (i := 30) (oi := ⟨_, _, _, _, _, _⟩) (v := .string (bs m)) rfl (by kernel_rfl) (by kernel_rfl) (by kernel_rfl) (fun _ _ _ h => h) (yl_move (by rfl) _ rfl _ rfl) ?_
      simp only [Act.put, lzA, lzB, lzC]
      refine wpAnyL_pure (i := 31) (oi := ⟨_, _, _, _, _, _⟩) (v := .bool false) rfl (by kernel_rfl) (by kernel_rfl) (by kernel_rfl) (fun _ _ _ h => h) (yt_neqS (by rfl) _ _ _ rfl ((l.drop n).take (n + m.length - n)) m false rfl rfl (by rw [ht, hm]; simp)) ?_
      simp only [Act.put, lzA, lzB, lzC]
      refine wpAnyL_pure (i := 32) (oi := ⟨_, _, _, _, _, _⟩) (v := .bool false) rfl (by kernel_rfl) (by kernel_rfl) (by kernel_rfl) (fun _ _ _ h => h) (yl_pickF (by rfl) _ _ _ rfl rfl _ rfl) ?_
      simp only [Act.put, lzA, lzB, lzC]
      refine wpAnyL_done (by kernel_rfl) ?_ _
      refine hK3 _ _ ?_
      clear hK3 K3
      refine wp_cond_false rfl ?_
      refine wp_skip ?_
      refine hK2 _ _ ?_
      clear hK2 K2
      refine wp_seq_k (fun K4 hK4 => ?_)
      refine wp_region_lit ?_
      refine wl_yield (o := ⟨_, _, _, _, _, _⟩) (.pointer (some ⟨b, 0, none⟩)) (yl_move (by rfl) _ rfl _ rfl) ?_
      simp only [Act.put, lzA, lzB, lzC]
      refine wl_yield (o := ⟨_, _, _, _, _, _⟩) (.pointer (some ⟨b, 0, none⟩)) (yt_nil (by rfl) _ rfl _ rfl) ?_
      simp only [Act.put, lzA, lzB, lzC]
      refine wl_yield (o := ⟨_, _, _, _, _, _⟩) (.pointer (some ⟨b, 1, none⟩)) (yt_fRr1 (by rfl) _ rfl b 0 rfl) ?_
      simp only [Act.put, lzA, lzB, lzC]
      refine wl_yield (o := ⟨_, _, _, _, _, _⟩) (.int .i64 (n : Nat)) (yt_ldI (by rfl) _ rfl _ _ rfl (((n : Nat) : Int)) (fun _ h => by subst h; exact cell_heap G 1)) ?_
      simp only [Act.put, lzA, lzB, lzC]
      refine wl_yield (o := ⟨_, _, _, _, _, _⟩) (.string (bs m)) (yl_move (by rfl) _ rfl _ rfl) ?_
      simp only [Act.put, lzA, lzB, lzC]
      refine wl_yield (o := ⟨_, _, _, _, _, _⟩) (.int .i64 (m.length : Nat)) (yt_lenS (by rfl) _ rfl m rfl) ?_
      simp only [Act.put, lzA, lzB, lzC]
      refine wl_yield (o := ⟨_, _, _, _, _, _⟩) (.int .i64 (n + m.length : Nat)) (yt_addI (by rfl) _ _ _ rfl (((n : Nat) : Int)) (((m.length : Nat) : Int)) (((n + m.length : Nat) : Int)) rfl rfl (by omega) (by omega) (by omega)) ?_
      simp only [Act.put, lzA, lzB, lzC]
      refine wl_yield (o := ⟨_, _, _, _, _, _⟩) (.pointer (some ⟨b, 0, none⟩)) (yt_nil (by rfl) _ rfl _ rfl) ?_
      simp only [Act.put, lzA, lzB, lzC]
      refine wl_yield (o := ⟨_, _, _, _, _, _⟩) (.pointer (some ⟨b, 1, none⟩)) (yt_fRr1 (by rfl) _ rfl b 0 rfl) ?_
      simp only [Act.put, lzA, lzB, lzC]
      refine wt_putI (o := ⟨_, _, _, _, _, _⟩) (by rfl) _ _ rfl _ 1 rfl (((n + m.length : Nat) : Int)) rfl G (by simp) (fun v2 X kg => ?_)
      simp only [Act.put, lzA, lzB, lzC]
      replace D := grown_trans D kg
      clear kg
      replace G : v2.heap[b]? = some (.cells #[.string (bs l), .int .i64 (n + m.length : Nat)] 60 (0, 0)) := X
      clear X
      refine wpList_nil ?_
      refine hK4 _ _ ?_
      clear hK4 K4
      refine wp_seq_k (fun K5 hK5 => ?_)
      refine wp_region_lit ?_
      refine wl_yield (o := ⟨_, _, _, _, _, _⟩) (.bool true) (yl_assign (by rfl) _ rfl _ rfl) ?_
      simp only [Act.put, lzA, lzB, lzC]
      refine wpList_nil ?_
      refine hK5 _ _ ?_
      clear hK5 K5
      refine wp_ret ?_
      go_ret
      exact Or.inl ⟨hm, rfl, G, D⟩
    · refine wp_region_late (S := fun w' => w'.heap[b]? = some (.cells #[.string (bs l), .int .i64 (n : Nat)] 60 (0, 0))) (late := fun j => [].contains j) (by kernel_rfl) ?_
      have kb : Below w.heap.size w w.drew := (Below.refl _ w).drew
      replace D := grown_below D kb
      replace G := heap_on G kb
      clear kb
      generalize w.drew = v1 at D G ⊢
      refine wpAnyL_pure (i := 0) (oi := ⟨_, _, _, _, _, _⟩) (v := .pointer (some ⟨b, 0, none⟩)) rfl (by kernel_rfl) (by kernel_rfl) (by kernel_rfl) (fun _ _ _ h => h) (yl_move (by rfl) _ rfl _ rfl) ?_
      simp only [Act.put, lzA, lzB, lzC]
      refine wpAnyL_pure (i := 1) (oi := ⟨_, _, _, _, _, _⟩) (v := .pointer (some ⟨b, 0, none⟩)) rfl (by kernel_rfl) (by kernel_rfl) (by kernel_rfl) (fun _ _ _ h => h) (yt_nil (by rfl) _ rfl _ rfl) ?_
      simp only [Act.put, lzA, lzB, lzC]
      refine wpAnyL_pure (i := 2) (oi := ⟨_, _, _, _, _, _⟩) (v := .pointer (some ⟨b, 1, none⟩)) rfl (by kernel_rfl) (by kernel_rfl) (by kernel_rfl) (fun _ _ _ h => h) (yt_fRr1 (by rfl) _ rfl b 0 rfl) ?_
      simp only [Act.put, lzA, lzB, lzC]
      refine wpAnyL_load (i := 3) (oi := ⟨_, _, _, _, _, _⟩) (v := .int .i64 (n : Nat)) rfl (by kernel_rfl) (by kernel_rfl) (by kernel_rfl) (by kernel_rfl) (fun _ _ _ h => h) (yt_ldI (by rfl) _ rfl _ _ rfl (((n : Nat) : Int)) (fun _ h => cell_heap h 1)) G ?_
      simp only [Act.put, lzA, lzB, lzC]
      refine wpAnyL_pure (i := 4) (oi := ⟨_, _, _, _, _, _⟩) (v := .string (bs m)) rfl (by kernel_rfl) (by kernel_rfl) (by kernel_rfl) (fun _ _ _ h => h) (yl_move (by rfl) _ rfl _ rfl) ?_
      simp only [Act.put, lzA, lzB, lzC]
      refine wpAnyL_pure (i := 5) (oi := ⟨_, _, _, _, _, _⟩) (v := .int .i64 (m.length : Nat)) rfl (by kernel_rfl) (by kernel_rfl) (by kernel_rfl) (fun _ _ _ h => h) (yt_lenS (by rfl) _ rfl m rfl) ?_
      simp only [Act.put, lzA, lzB, lzC]
      refine wpAnyL_pure (i := 6) (oi := ⟨_, _, _, _, _, _⟩) (v := .int .i64 (n + m.length : Nat)) rfl (by kernel_rfl) (by kernel_rfl) (by kernel_rfl) (fun _ _ _ h => h) (yt_addI (by rfl) _ _ _ rfl (((n : Nat) : Int)) (((m.length : Nat) : Int)) (((n + m.length : Nat) : Int)) rfl rfl (by omega) (by omega) (by omega)) ?_
      simp only [Act.put, lzA, lzB, lzC]
      refine wpAnyL_pure (i := 7) (oi := ⟨_, _, _, _, _, _⟩) (v := .pointer (some ⟨b, 0, none⟩)) rfl (by kernel_rfl) (by kernel_rfl) (by kernel_rfl) (fun _ _ _ h => h) (yl_move (by rfl) _ rfl _ rfl) ?_
      simp only [Act.put, lzA, lzB, lzC]
      refine wpAnyL_pure (i := 8) (oi := ⟨_, _, _, _, _, _⟩) (v := .pointer (some ⟨b, 0, none⟩)) rfl (by kernel_rfl) (by kernel_rfl) (by kernel_rfl) (fun _ _ _ h => h) (yt_nil (by rfl) _ rfl _ rfl) ?_
      simp only [Act.put, lzA, lzB, lzC]
      refine wpAnyL_pure (i := 9) (oi := ⟨_, _, _, _, _, _⟩) (v := .pointer (some ⟨b, 0, none⟩)) rfl (by kernel_rfl) (by kernel_rfl) (by kernel_rfl) (fun _ _ _ h => h) (yt_fRr0 (by rfl) _ rfl b 0 rfl) ?_
      simp only [Act.put, lzA, lzB, lzC]
      refine wpAnyL_load (i := 10) (oi := ⟨_, _, _, _, _, _⟩) (v := .string (bs l)) rfl (by kernel_rfl) (by kernel_rfl) (by kernel_rfl) (by kernel_rfl) (fun _ _ _ h => h) (yt_ldS (by rfl) _ rfl _ _ rfl (bs l) (fun _ h => cell_heap h 0)) G ?_
      simp only [Act.put, lzA, lzB, lzC]
      refine wpAnyL_pure (i := 11) (oi := ⟨_, _, _, _, _, _⟩) (v := .int .i64 (l.length : Nat)) rfl (by kernel_rfl) (by kernel_rfl) (by kernel_rfl) (fun _ _ _ h => h) (yt_lenS (by rfl) _ rfl l rfl) ?_
      simp only [Act.put, lzA, lzB, lzC]
      refine wpAnyL_pure (i := 12) (oi := ⟨_, _, _, _, _, _⟩) (v := .bool false) rfl (by kernel_rfl) (by kernel_rfl) (by kernel_rfl) (fun _ _ _ h => h) (yt_gtrI (by rfl) _ _ _ rfl (((n + m.length : Nat) : Int)) (((l.length : Nat) : Int)) false rfl rfl (decide_eq_false (by omega))) ?_
      simp only [Act.put, lzA, lzB, lzC]
      refine wpAnyL_pure (i := 13) (oi := ⟨_, _, _, _, _, _⟩) (v := .bool false) rfl (by kernel_rfl) (by kernel_rfl) (by kernel_rfl) (fun _ _ _ h => h) (yl_move (by rfl) _ rfl _ rfl) ?_
      simp only [Act.put, lzA, lzB, lzC]
      refine wpAnyL_pure (i := 14) (oi := ⟨_, _, _, _, _, _⟩) (v := .pointer (some ⟨b, 0, none⟩)) rfl (by kernel_rfl) (by kernel_rfl) (by kernel_rfl) (fun _ _ _ h => h) (yl_move (by rfl) _ rfl _ rfl) ?_
      simp only [Act.put, lzA, lzB, lzC]
      refine wpAnyL_pure (i := 15) (oi := ⟨_, _, _, _, _, _⟩) (v := .pointer (some ⟨b, 0, none⟩)) rfl (by kernel_rfl) (by kernel_rfl) (by kernel_rfl) (fun _ _ _ h => h) (yt_nil (by rfl) _ rfl _ rfl) ?_
      simp only [Act.put, lzA, lzB, lzC]
      refine wpAnyL_pure (i := 16) (oi := ⟨_, _, _, _, _, _⟩) (v := .pointer (some ⟨b, 0, none⟩)) rfl (by kernel_rfl) (by kernel_rfl) (by kernel_rfl) (fun _ _ _ h => h) (yt_fRr0 (by rfl) _ rfl b 0 rfl) ?_
      simp only [Act.put, lzA, lzB, lzC]
      refine wpAnyL_load (i := 17) (oi := ⟨_, _, _, _, _, _⟩) (v := .string (bs l)) rfl (by kernel_rfl) (by kernel_rfl) (by kernel_rfl) (by kernel_rfl) (fun _ _ _ h => h) (yt_ldS (by rfl) _ rfl _ _ rfl (bs l) (fun _ h => cell_heap h 0)) G ?_
      simp only [Act.put, lzA, lzB, lzC]
      refine wpAnyL_pure (i := 18) (oi := ⟨_, _, _, _, _, _⟩) (v := .pointer (some ⟨b, 0, none⟩)) rfl (by kernel_rfl) (by kernel_rfl) (by kernel_rfl) (fun _ _ _ h => h) (yl_move (by rfl) _ rfl _ rfl) ?_
      simp only [Act.put, lzA, lzB, lzC]
      refine wpAnyL_pure (i := 19) (oi := ⟨_, _, _, _, _, _⟩) (v := .pointer (some ⟨b, 0, none⟩)) rfl (by kernel_rfl) (by kernel_rfl) (by kernel_rfl) (fun _ _ _ h => h) (yt_nil (by rfl) _ rfl _ rfl) ?_
      simp only [Act.put, lzA, lzB, lzC]
      refine wpAnyL_pure (i := 20) (oi := ⟨_, _, _, _, _, _⟩) (v := .pointer (some ⟨b, 1, none⟩)) rfl (by kernel_rfl) (by kernel_rfl) (by kernel_rfl) (fun _ _ _ h => h) (yt_fRr1 (by rfl) _ rfl b 0 rfl) ?_
      simp only [Act.put, lzA, lzB, lzC]
      refine wpAnyL_load (i := 21) (oi := ⟨_, _, _, _, _, _⟩) (v := .int .i64 (n : Nat)) rfl (by kernel_rfl) (by kernel_rfl) (by kernel_rfl) (by kernel_rfl) (fun _ _ _ h => h) (yt_ldI (by rfl) _ rfl _ _ rfl (((n : Nat) : Int)) (fun _ h => cell_heap h 1)) G ?_
      simp only [Act.put, lzA, lzB, lzC]
      refine wpAnyL_pure (i := 22) (oi := ⟨_, _, _, _, _, _⟩) (v := .pointer (some ⟨b, 0, none⟩)) rfl (by kernel_rfl) (by kernel_rfl) (by kernel_rfl) (fun _ _ _ h => h) (yl_move (by rfl) _ rfl _ rfl) ?_
      simp only [Act.put, lzA, lzB, lzC]
      refine wpAnyL_pure (i := 23) (oi := ⟨_, _, _, _, _, _⟩) (v := .pointer (some ⟨b, 0, none⟩)) rfl (by kernel_rfl) (by kernel_rfl) (by kernel_rfl) (fun _ _ _ h => h) (yt_nil (by rfl) _ rfl _ rfl) ?_
      simp only [Act.put, lzA, lzB, lzC]
      refine wpAnyL_pure (i := 24) (oi := ⟨_, _, _, _, _, _⟩) (v := .pointer (some ⟨b, 1, none⟩)) rfl (by kernel_rfl) (by kernel_rfl) (by kernel_rfl) (fun _ _ _ h => h) (yt_fRr1 (by rfl) _ rfl b 0 rfl) ?_
      simp only [Act.put, lzA, lzB, lzC]
      refine wpAnyL_load (i := 25) (oi := ⟨_, _, _, _, _, _⟩) (v := .int .i64 (n : Nat)) rfl (by kernel_rfl) (by kernel_rfl) (by kernel_rfl) (by kernel_rfl) (fun _ _ _ h => h) (yt_ldI (by rfl) _ rfl _ _ rfl (((n : Nat) : Int)) (fun _ h => cell_heap h 1)) G ?_
      simp only [Act.put, lzA, lzB, lzC]
      refine wpAnyL_pure (i := 26) (oi := ⟨_, _, _, _, _, _⟩) (v := .string (bs m)) rfl (by kernel_rfl) (by kernel_rfl) (by kernel_rfl) (fun _ _ _ h => h) (yl_move (by rfl) _ rfl _ rfl) ?_
      simp only [Act.put, lzA, lzB, lzC]
      refine wpAnyL_pure (i := 27) (oi := ⟨_, _, _, _, _, _⟩) (v := .int .i64 (m.length : Nat)) rfl (by kernel_rfl) (by kernel_rfl) (by kernel_rfl) (fun _ _ _ h => h) (yt_lenS (by rfl) _ rfl m rfl) ?_
      simp only [Act.put, lzA, lzB, lzC]
      refine wpAnyL_pure (i := 28) (oi := ⟨_, _, _, _, _, _⟩) (v := .int .i64 (n + m.length : Nat)) rfl (by kernel_rfl) (by kernel_rfl) (by kernel_rfl) (fun _ _ _ h => h) (yt_addI (by rfl) _ _ _ rfl (((n : Nat) : Int)) (((m.length : Nat) : Int)) (((n + m.length : Nat) : Int)) rfl rfl (by omega) (by omega) (by omega)) ?_
      simp only [Act.put, lzA, lzB, lzC]
      refine wpAnyL_pure (i := 29) (oi := ⟨_, _, _, _, _, _⟩) (v := .string (bs ((l.drop n).take (n + m.length - n)))) rfl (by kernel_rfl) (by kernel_rfl) (by kernel_rfl) (fun _ _ _ h => h) (yt_subS (by rfl) _ _ _ rfl l n (n + m.length) rfl rfl rfl (by omega) (by omega)) ?_
      simp only [Act.put, lzA, lzB, lzC]
      refine wpAnyL_pure (i := 30) (oi := ⟨_, _, _, _, _, _⟩) (v := .string (bs m)) rfl (by kernel_rfl) (by kernel_rfl) (by kernel_rfl) (fun _ _ _ h => h) (yl_move (by rfl) _ rfl _ rfl) ?_
      simp only [Act.put, lzA, lzB, lzC]
      refine wpAnyL_pure (i := 31) (oi := ⟨_, _, _, _, _, _⟩) (v := .bool true) rfl (by kernel_rfl) (by kernel_rfl) (by kernel_rfl) (fun _ _ _ h => h) (yt_neqS (by rfl) _ _ _ rfl ((l.drop n).take (n + m.length - n)) m true rfl rfl (by rw [ht]; simpa using hm)) ?_
      simp only [Act.put, lzA, lzB, lzC]
      refine wpAnyL_pure (i := 32) (oi := ⟨_, _, _, _, _, _⟩) (v := .bool true) rfl (by kernel_rfl) (by kernel_rfl) (by kernel_rfl) (fun _ _ _ h => h) (yl_pickF (by rfl) _ _ _ rfl rfl _ rfl) ?_
      simp only [Act.put, lzA, lzB, lzC]
      refine wpAnyL_done (by kernel_rfl) ?_ _
      refine hK3 _ _ ?_
      clear hK3 K3
      refine wp_cond_true rfl ?_
      refine wp_seq_k (fun K4 hK4 => ?_)
      refine wp_region_lit ?_
      refine wl_yield (o := ⟨_, _, _, _, _, _⟩) (.bool false) (yl_assign (by rfl) _ rfl _ rfl) ?_
      simp only [Act.put, lzA, lzB, lzC]
      refine wpList_nil ?_
      refine hK4 _ _ ?_
      clear hK4 K4
      refine wp_ret ?_
      go_ret
      exact Or.inr ⟨hm, rfl, G, D⟩
end Go.Proofs.YtlmdcaemjaldfaaGreatDoor
namespace Go.Proofs.YtlmdcaemjaldfaaGreatDoor
open Go.RowKit
theorem ev_cells3 {w : World} {g : Nat} {e : EvV} (h : w.heap[g]? = some (evObj e)) (k : Nat) (hk : k < 4) : w.cell? ⟨g, k * 3, none⟩ = some (.int .i64 (e.get k).1) ∧ w.cell? ⟨g, k * 3 + 1, none⟩ = some (.int .i64 (e.get k).2.1) ∧ w.cell? ⟨g, k * 3 + 2, none⟩ = some (.string (e.get k).2.2) := by
  match k, hk with
  | 0, _ => exact ⟨cell_heap h 0, cell_heap h 1, cell_heap h 2⟩
  | 1, _ => exact ⟨cell_heap h 3, cell_heap h 4, cell_heap h 5⟩
  | 2, _ => exact ⟨cell_heap h 6, cell_heap h 7, cell_heap h 8⟩
  | 3, _ => exact ⟨cell_heap h 9, cell_heap h 10, cell_heap h 11⟩
theorem c_refText (v : Va) (w : World) (h : rightB v.1 v.2.1 v.2.2 = true) (h0 : -9223372036854775808 ≤ v.2.1) (h1 : v.2.1 ≤ 9223372036854775807) (hs : v.2.2.size ≤ maxLen) : Calls Tryz.prog 35 #[vVal v] w fun e w' => e = .returned (.string (bs (vaTxt v))) ∧ Below w.heap.size w w' := by
  have := refText_any v.1 v.2.1 v.2.2 w h0 h1 hs
  rw [vaTxt_right h] at this
  exact this
set_option maxHeartbeats 1000000 in
set_option maxRecDepth 100000 in
theorem refEvent7 (e0 : EvV) (w : World) (HE : Env w) (hf : evFit e0) (hi : inE e0) (hr : rightE e0 = true) :
    Calls Tryz.prog 14 #[evVal e0] w fun e w' => e = .returned (.string (bs (evTxt e0))) ∧ Below w.heap.size w w' := by
  have w6 : 6 ≤ w.heap.size := HE.big
  have D : w.grownBy w none := grown_refl _ _
  have hjj := evTxt_le hr hi
  go_enter Tryz.func14, Tryz.ntmps14
  refine wp_seq_k (fun K1 hK1 => ?_)
  refine wp_region_lit ?_
  refine wt_boxEv (o := ⟨_, _, _, _, _, _⟩) (by rfl) _ rfl (e0) rfl (fun v1 g1 hg G1 kb => ?_)
  simp only [Act.put, lzA, lzB, lzC]
  have ge_g1 : w.heap.size ≤ g1 := Nat.le_trans D.size hg
  have six_g1 : 6 ≤ g1 := Nat.le_trans w6 ge_g1
  clear hg
  replace D := grown_below D kb
  replace HE := HE.on kb
  clear kb
  replace G1 : v1.heap[g1]? = some (.cells #[.int .i64 (e0.v0.1), .int .i64 (e0.v0.2.1), .string e0.v0.2.2, .int .i64 (e0.v1.1), .int .i64 (e0.v1.2.1), .string e0.v1.2.2, .int .i64 (e0.v2.1), .int .i64 (e0.v2.2.1), .string e0.v2.2.2, .int .i64 (e0.v3.1), .int .i64 (e0.v3.2.1), .string e0.v3.2.2] 42 (0, 0)) := G1
  refine wl_yield (o := ⟨_, _, _, _, _, _⟩) (.string (bs ([]))) (yl_assign (by rfl) _ rfl _ rfl) ?_
  simp only [Act.put, lzA, lzB, lzC]
  refine wpList_nil ?_
  refine hK1 _ _ ?_
  clear hK1 K1
  refine wp_seq_k (fun K2 hK2 => ?_)
  have RP : RowS v1 w.heap.size (.slice none (evI e0 0).length 0) (evI e0 0) := RowS.nil _ _
  refine wp_region_lit ?_
  refine wl_yield (o := ⟨_, _, _, _, _, _⟩) (.slice none 0 0) (yl_assign (by rfl) _ rfl _ rfl) ?_
  simp only [Act.put, lzA, lzB, lzC]
  refine wpList_nil ?_
  refine hK2 _ _ ?_
  clear hK2 K2
  refine wp_seq_k (fun K3 hK3 => ?_)
  refine wp_seq_k (fun K4 hK4 => ?_)
  refine wp_region_lit ?_
  refine wl_yield (o := ⟨_, _, _, _, _, _⟩) (.int .i64 0) (yl_assign (by rfl) _ rfl _ rfl) ?_
  simp only [Act.put, lzA, lzB, lzC]
  refine wpList_nil ?_
  refine hK4 _ _ ?_
  clear hK4 K4
  refine wp_block ?_
  go_loopw [3, 4] (fun u i wr => ∃ (k : Nat) (q : Option Addr) (cq : Nat), i = .int .i64 k ∧ k ≤ 4 ∧ u = .slice q (evI e0 k).length cq ∧ RowS wr w.heap.size (.slice q (evI e0 k).length cq) (evI e0 k) ∧ wr.heap[g1]? = some (evObj e0) ∧ Env wr ∧ w.grownBy wr none) (fun _ i _ => 4 - (intOf i).toNat)
  case atStart => exact ⟨0, none, 0, rfl, by omega, rfl, RP, G1, HE, D⟩
  case round =>
    clear D HE RP G1
    obtain ⟨k, q, cq, rfl, hk, rfl, RP, G1, HE, D⟩ := hrel
    by_cases hlt : k < 4
    · by_cases h0 : (e0.get k).1 = 0
      · have hst : evI e0 (k + 1) = evI e0 k := by rw [evI_step e0 k hlt, if_pos h0]
        refine wp_seq_k (fun K5 hK5 => ?_)
        refine wp_seq_k (fun K6 hK6 => ?_)
        refine wp_region_lit ?_
        refine wl_yield (o := ⟨_, _, _, _, _, _⟩) (.int .i64 (k : Nat)) (yl_move (by rfl) _ rfl _ rfl) ?_
        simp only [Act.put, lzA, lzB, lzC]
        refine wl_yield (o := ⟨_, _, _, _, _, _⟩) (.bool true) (yt_lssI (by rfl) _ _ _ rfl (((k : Nat) : Int)) 4 true rfl rfl (decide_eq_true (by omega))) ?_
        simp only [Act.put, lzA, lzB, lzC]
        refine wpList_nil ?_
        refine hK6 _ _ ?_
        clear hK6 K6
        refine wp_cond_true rfl ?_
        refine wp_skip ?_
        refine hK5 _ _ ?_
        clear hK5 K5
        refine wp_seq_k (fun K7 hK7 => ?_)
        refine wp_block ?_
        refine wp_seq_k (fun K8 hK8 => ?_)
        refine wp_region_lit ?_
        refine wl_yield (o := ⟨_, _, _, _, _, _⟩) (.int .i64 (k : Nat)) (yl_move (by rfl) _ rfl _ rfl) ?_
        simp only [Act.put, lzA, lzB, lzC]
        refine wl_yield (o := ⟨_, _, _, _, _, _⟩) (.pointer (some ⟨g1, k * 3, none⟩)) (yl_atEv (by rfl) _ _ rfl g1 k rfl rfl (by omega)) ?_
        simp only [Act.put, lzA, lzB, lzC]
        refine wl_yield (o := ⟨_, _, _, _, _, _⟩) (.pointer (some ⟨g1, k * 3 + 0, none⟩)) (yt_fVa0 (by rfl) _ rfl g1 (k * 3) rfl) ?_
        simp only [Act.put, lzA, lzB, lzC]
        refine wl_yield (o := ⟨_, _, _, _, _, _⟩) (.int .i64 ((e0.get k).1)) (yt_ldI (by rfl) _ rfl _ _ rfl (e0.get k).1 (fun _ h => by subst h; exact (ev_cells3 G1 k hlt).1)) ?_
        simp only [Act.put, lzA, lzB, lzC]
        refine wl_yield (o := ⟨_, _, _, _, _, _⟩) (.bool false) (yt_neqI (by rfl) _ _ _ rfl ((e0.get k).1) 0 false rfl rfl (decide_eq_false (by omega))) ?_
        simp only [Act.put, lzA, lzB, lzC]
        refine wpList_nil ?_
        refine hK8 _ _ ?_
        clear hK8 K8
        refine wp_cond_false rfl ?_
        refine wp_skip ?_
        refine hK7 _ _ ?_
        clear hK7 K7
        refine wp_region_lit ?_
        refine wl_yield (o := ⟨_, _, _, _, _, _⟩) (.int .i64 (k : Nat)) (yl_move (by rfl) _ rfl _ rfl) ?_
        simp only [Act.put, lzA, lzB, lzC]
        refine wl_yield (o := ⟨_, _, _, _, _, _⟩) (.int .i64 (k + 1 : Nat)) (yt_addI (by rfl) _ _ _ rfl (((k : Nat) : Int)) 1 (((k + 1 : Nat) : Int)) rfl rfl (by omega) (by omega) (by omega)) ?_
        simp only [Act.put, lzA, lzB, lzC]
        refine wl_yield (o := ⟨_, _, _, _, _, _⟩) (.int .i64 (k + 1 : Nat)) (yl_assign (by rfl) _ rfl _ rfl) ?_
        simp only [Act.put, lzA, lzB, lzC]
        refine wpList_nil ?_
        show _ ∧ _
        go_roundw
        case rel =>
          refine ⟨k + 1, q, cq, rfl, by omega, ?_, ?_, G1, HE, D⟩
          · rw [hst]
          · rw [hst]; exact RP
        case measure => simp [intOf]; omega
      · have hst : evI e0 (k + 1) = evI e0 k ++ [bs ((nameL (k : Nat) ++ [61]) ++ vaTxt (e0.get k))] := by rw [evI_step e0 k hlt, if_neg h0]; simp [evItem]
        refine wp_seq_k (fun K5 hK5 => ?_)
        refine wp_seq_k (fun K6 hK6 => ?_)
        refine wp_region_lit ?_
        refine wl_yield (o := ⟨_, _, _, _, _, _⟩) (.int .i64 (k : Nat)) (yl_move (by rfl) _ rfl _ rfl) ?_
        simp only [Act.put, lzA, lzB, lzC]
        refine wl_yield (o := ⟨_, _, _, _, _, _⟩) (.bool true) (yt_lssI (by rfl) _ _ _ rfl (((k : Nat) : Int)) 4 true rfl rfl (decide_eq_true (by omega))) ?_
        simp only [Act.put, lzA, lzB, lzC]
        refine wpList_nil ?_
        refine hK6 _ _ ?_
        clear hK6 K6
        refine wp_cond_true rfl ?_
        refine wp_skip ?_
        refine hK5 _ _ ?_
        clear hK5 K5
        refine wp_seq_k (fun K7 hK7 => ?_)
        refine wp_block ?_
        refine wp_seq_k (fun K8 hK8 => ?_)
        refine wp_region_lit ?_
        refine wl_yield (o := ⟨_, _, _, _, _, _⟩) (.int .i64 (k : Nat)) (yl_move (by rfl) _ rfl _ rfl) ?_
        simp only [Act.put, lzA, lzB, lzC]
        refine wl_yield (o := ⟨_, _, _, _, _, _⟩) (.pointer (some ⟨g1, k * 3, none⟩)) (yl_atEv (by rfl) _ _ rfl g1 k rfl rfl (by omega)) ?_
        simp only [Act.put, lzA, lzB, lzC]
        refine wl_yield (o := ⟨_, _, _, _, _, _⟩) (.pointer (some ⟨g1, k * 3 + 0, none⟩)) (yt_fVa0 (by rfl) _ rfl g1 (k * 3) rfl) ?_
        simp only [Act.put, lzA, lzB, lzC]
        refine wl_yield (o := ⟨_, _, _, _, _, _⟩) (.int .i64 ((e0.get k).1)) (yt_ldI (by rfl) _ rfl _ _ rfl (e0.get k).1 (fun _ h => by subst h; exact (ev_cells3 G1 k hlt).1)) ?_
        simp only [Act.put, lzA, lzB, lzC]
        refine wl_yield (o := ⟨_, _, _, _, _, _⟩) (.bool true) (yt_neqI (by rfl) _ _ _ rfl ((e0.get k).1) 0 true rfl rfl (decide_eq_true h0)) ?_
        simp only [Act.put, lzA, lzB, lzC]
        refine wpList_nil ?_
        refine hK8 _ _ ?_
        clear hK8 K8
        refine wp_cond_true rfl ?_
        refine wp_region_late (S := fun w' => w'.heap[g1]? = some (.cells #[.int .i64 (e0.v0.1), .int .i64 (e0.v0.2.1), .string e0.v0.2.2, .int .i64 (e0.v1.1), .int .i64 (e0.v1.2.1), .string e0.v1.2.2, .int .i64 (e0.v2.1), .int .i64 (e0.v2.2.1), .string e0.v2.2.2, .int .i64 (e0.v3.1), .int .i64 (e0.v3.2.1), .string e0.v3.2.2] 42 (0, 0))) (late := fun j => [].contains j) (by kernel_rfl) ?_
        have kb : Below wr.heap.size wr wr.drew := (Below.refl _ wr).drew
        replace D := grown_below D kb
        replace RP := ownsRow_on RP kb
        replace HE := HE.on kb
        replace G1 := heap_on G1 kb
        clear kb
        generalize wr.drew = v2 at D HE G1 RP ⊢
        refine wpAnyL_pure (i := 0) (oi := ⟨_, _, _, _, _, _⟩) (v := .slice q ((evI e0 k).length) cq) rfl (by kernel_rfl) (by kernel_rfl) (by kernel_rfl) (fun _ _ _ h => h) (yl_move (by rfl) _ rfl _ rfl) ?_
        simp only [Act.put, lzA, lzB, lzC]
        refine wpAnyL_pure (i := 1) (oi := ⟨_, _, _, _, _, _⟩) (v := .int .i64 (k : Nat)) rfl (by kernel_rfl) (by kernel_rfl) (by kernel_rfl) (fun _ _ _ h => h) (yl_move (by rfl) _ rfl _ rfl) ?_
        simp only [Act.put, lzA, lzB, lzC]
        refine wpAnyL_pure (i := 4) (oi := ⟨_, _, _, _, _, _⟩) (v := .int .i64 (k : Nat)) rfl (by kernel_rfl) (by kernel_rfl) (by kernel_rfl) (fun _ _ _ h => h) (yl_move (by rfl) _ rfl _ rfl) ?_
        simp only [Act.put, lzA, lzB, lzC]
        refine wpAnyL_pure (i := 5) (oi := ⟨_, _, _, _, _, _⟩) (v := .pointer (some ⟨g1, k * 3, none⟩)) rfl (by kernel_rfl) (by kernel_rfl) (by kernel_rfl) (fun _ _ _ h => h) (yl_atEv (by rfl) _ _ rfl g1 k rfl rfl (by omega)) ?_
        simp only [Act.put, lzA, lzB, lzC]
        refine wpAnyL_load (i := 6) (oi := ⟨_, _, _, _, _, _⟩) (v := vVal ((e0.get k))) rfl (by kernel_rfl) (by kernel_rfl) (by kernel_rfl) (by kernel_rfl) (fun _ _ _ h => h) (yl_val (by rfl) _ rfl _ (k * 3) rfl _ _ _ (fun _ h => ev_cells3 h k hlt)) G1 ?_
        simp only [Act.put, lzA, lzB, lzC]
        refine wpAnyL_all (rs := [2]) (by kernel_rfl) (by simp) ?_
        intro j hj
        have hj := List.mem_singleton.1 hj
        subst hj
        refine ot_call (o := ⟨_, _, _, _, _, _⟩) rfl (by rfl) 28 _ _ rfl #[.int .i64 (k : Nat)] rfl (run_call Tryz.func28 (by kernel_rfl) (by kernel_rfl)) ?_
        refine (refName7 (k : Nat) (by omega) (by omega) _).mono ?_
        rintro r v3 (⟨rfl, kb⟩)
        replace D := grown_below D kb
        replace RP := ownsRow_on RP kb
        replace HE := HE.on kb
        replace G1 := heap_on G1 kb
        clear kb
        refine Or.inl ⟨.string (bs (nameL (k : Nat))), rfl, ⟨fun _ _ => G1, ?_⟩⟩
        simp only [Act.put, lzA, lzB, lzC]
        refine wpAnyL_pure (i := 3) (oi := ⟨_, _, _, _, _, _⟩) (v := .string (bs ((nameL (k : Nat)) ++ ([61])))) rfl (by kernel_rfl) (by kernel_rfl) (by kernel_rfl) (fun _ _ _ h => h) (yt_cat (by rfl) _ _ _ rfl (nameL (k : Nat)) ([61]) rfl rfl (by first | (have h1 := evItem_le hr hi k hlt; unfold evItem at h1; simp only [List.length_cons, List.length_append, List.length_nil] at *; omega) | (rw [evI_all]; simp only [List.length_cons, List.length_append, List.length_nil]; omega) | (simp only [List.length_cons, List.length_append, List.length_nil, evI_all]; omega))) ?_
        simp only [Act.put, lzA, lzB, lzC]
        refine wpAnyL_all (rs := [7]) (by kernel_rfl) (by simp) ?_
        intro j hj
        have hj := List.mem_singleton.1 hj
        subst hj
        refine ot_call (o := ⟨_, _, _, _, _, _⟩) rfl (by rfl) 35 _ _ rfl #[vVal ((e0.get k))] rfl (run_call Tryz.func35 (by kernel_rfl) (by kernel_rfl)) ?_
        refine (c_refText (e0.get k) _ (rightE_get hr k hlt) (hi k hlt).1 (hi k hlt).2 (evFit_get hf k hlt)).mono ?_
        rintro r v4 (⟨rfl, kb⟩)
        replace D := grown_below D kb
        replace RP := ownsRow_on RP kb
        replace HE := HE.on kb
        replace G1 := heap_on G1 kb
        clear kb
        refine Or.inl ⟨.string (bs (vaTxt (e0.get k))), rfl, ⟨fun _ _ => G1, ?_⟩⟩
        simp only [Act.put, lzA, lzB, lzC]
        refine wpAnyL_pure (i := 8) (oi := ⟨_, _, _, _, _, _⟩) (v := .string (bs (((nameL (k : Nat)) ++ ([61])) ++ (vaTxt (e0.get k))))) rfl (by kernel_rfl) (by kernel_rfl) (by kernel_rfl) (fun _ _ _ h => h) (yt_cat (by rfl) _ _ _ rfl ((nameL (k : Nat)) ++ ([61])) (vaTxt (e0.get k)) rfl rfl (by first | (have h1 := evItem_le hr hi k hlt; unfold evItem at h1; simp only [List.length_cons, List.length_append, List.length_nil] at *; omega) | (rw [evI_all]; simp only [List.length_cons, List.length_append, List.length_nil]; omega) | (simp only [List.length_cons, List.length_append, List.length_nil, evI_all]; omega))) ?_
        simp only [Act.put, lzA, lzB, lzC]
        refine wpAnyL_all (rs := [9]) (by kernel_rfl) (by simp) ?_
        intro j hj
        have hj := List.mem_singleton.1 hj
        subst hj
        refine ot_row1S (o := ⟨_, _, _, _, _, _⟩) rfl (by rfl) _ rfl (bs (((nameL (k : Nat)) ++ ([61])) ++ (vaTxt (e0.get k)))) rfl (fun v5 g5 hg G5 kb => ?_)
        have n_g1_g5 : g1 ≠ g5 := by have := lt_heap G1; omega
        have ge_g5 : w.heap.size ≤ g5 := Nat.le_trans D.size hg
        have six_g5 : 6 ≤ g5 := Nat.le_trans w6 ge_g5
        clear hg
        replace D := grown_below D kb
        replace RP := ownsRow_on RP kb
        replace HE := HE.on kb
        replace G1 := heap_on G1 kb
        clear kb
        refine ⟨fun _ _ => G1, ?_⟩
        simp only [Act.put, lzA, lzB, lzC]
        refine wpAnyL_all (rs := [10]) (by kernel_rfl) (by simp) ?_
        intro j hj
        have hj := List.mem_singleton.1 hj
        subst hj
        refine ot_appS (o := ⟨_, _, _, _, _, _⟩) rfl (by rfl) _ _ rfl w.heap.size _ (evI e0 k) rfl RP _ (bs (((nameL (k : Nat)) ++ ([61])) ++ (vaTxt (e0.get k)))) rfl G5 ((by have := evI_len e0 k; omega)) (D.size) (fun v6' v6 hrow kg hown => ?_)
        clear G5
        replace HE := Env.gro HE RP kg w6
        replace G1 := heap_gro G1 kg (own_ne RP G1 (by decide))
        replace D := gr_own D (fun g hg => Nat.le_trans (Nat.le_refl _) (World.ownsRow.lt RP g hg).1) kg
        clear kg hown
        replace RP := hrow
        clear hrow
        obtain ⟨p6, c6, rfl, -, -, -⟩ := ownsRow_form RP
        refine ⟨fun _ _ => G1, ?_⟩
        simp only [Act.put, lzA, lzB, lzC]
        refine wpAnyL_pure (i := 11) (oi := ⟨_, _, _, _, _, _⟩) (v := .slice p6 ((evI e0 k ++ [(bs (((nameL (k : Nat)) ++ ([61])) ++ (vaTxt (e0.get k))))]).length) c6) rfl (by kernel_rfl) (by kernel_rfl) (by kernel_rfl) (fun _ _ _ h => h) (yl_assign (by rfl) _ rfl _ rfl) ?_
        simp only [Act.put, lzA, lzB, lzC]
        refine wpAnyL_done (by kernel_rfl) ?_ _
        refine hK7 _ _ ?_
        clear hK7 K7
        refine wp_region_lit ?_
        refine wl_yield (o := ⟨_, _, _, _, _, _⟩) (.int .i64 (k : Nat)) (yl_move (by rfl) _ rfl _ rfl) ?_
        simp only [Act.put, lzA, lzB, lzC]
        refine wl_yield (o := ⟨_, _, _, _, _, _⟩) (.int .i64 (k + 1 : Nat)) (yt_addI (by rfl) _ _ _ rfl (((k : Nat) : Int)) 1 (((k + 1 : Nat) : Int)) rfl rfl (by omega) (by omega) (by omega)) ?_
        simp only [Act.put, lzA, lzB, lzC]
        refine wl_yield (o := ⟨_, _, _, _, _, _⟩) (.int .i64 (k + 1 : Nat)) (yl_assign (by rfl) _ rfl _ rfl) ?_
        simp only [Act.put, lzA, lzB, lzC]
        refine wpList_nil ?_
        show _ ∧ _
        go_roundw
        case rel =>
          refine ⟨k + 1, p6, c6, rfl, by omega, ?_, ?_, G1, HE, D⟩
          · rw [hst]
          · rw [hst]; exact RP
        case measure => simp [intOf]; omega
    · obtain rfl : k = 4 := by omega
      refine wp_seq_k (fun K5 hK5 => ?_)
      refine wp_seq_k (fun K6 hK6 => ?_)
      refine wp_region_lit ?_
      refine wl_yield (o := ⟨_, _, _, _, _, _⟩) (.int .i64 (4 : Nat)) (yl_move (by rfl) _ rfl _ rfl) ?_
      simp only [Act.put, lzA, lzB, lzC]
      refine wl_yield (o := ⟨_, _, _, _, _, _⟩) (.bool false) (yt_lssI (by rfl) _ _ _ rfl (((4 : Nat) : Int)) 4 false rfl rfl (decide_eq_false (by omega))) ?_
      simp only [Act.put, lzA, lzB, lzC]
      refine wpList_nil ?_
      refine hK6 _ _ ?_
      clear hK6 K6
      refine wp_cond_false rfl ?_
      refine wp_exit ?_
      refine hK3 _ _ ?_
      clear hK5 K5 hK3 K3
      refine wp_seq_k (fun K7 hK7 => ?_)
      refine wp_region_lit ?_
      refine wl_yield (o := ⟨_, _, _, _, _, _⟩) (.slice q ((evI e0 4).length) cq) (yl_move (by rfl) _ rfl _ rfl) ?_
      simp only [Act.put, lzA, lzB, lzC]
      refine wt_call (o := ⟨_, _, _, _, _, _⟩) (by rfl) 36 _ _ rfl #[.slice q ((evI e0 4).length) cq] rfl (run_call Tryz.func36 (by kernel_rfl) (by kernel_rfl)) ?_
      refine (refJoin7 _ RP (by have := evI_len e0 4; omega) (by rw [evI_all]; omega)).mono ?_
      rintro r v2 ⟨rfl, kb⟩
      replace D := grown_below D kb
      replace RP := ownsRow_on RP kb
      replace HE := HE.on kb
      replace G1 := heap_on G1 kb
      clear kb
      refine Or.inl ⟨.string (bs (joinL ((evI e0 4).map (·.data.toList)))), rfl, ?_⟩
      simp only [Act.put, lzA, lzB, lzC]
      refine wl_yield (o := ⟨_, _, _, _, _, _⟩) (.string (bs (([123]) ++ (joinL ((evI e0 4).map (·.data.toList)))))) (yt_cat (by rfl) _ _ _ rfl ([123]) (joinL ((evI e0 4).map (·.data.toList))) rfl rfl (by first | (have h1 := evItem_le hr hi k hlt; unfold evItem at h1; simp only [List.length_cons, List.length_append, List.length_nil] at *; omega) | (rw [evI_all]; simp only [List.length_cons, List.length_append, List.length_nil]; omega) | (simp only [List.length_cons, List.length_append, List.length_nil, evI_all]; omega))) ?_
      simp only [Act.put, lzA, lzB, lzC]
      refine wl_yield (o := ⟨_, _, _, _, _, _⟩) (.string (bs ((([123]) ++ (joinL ((evI e0 4).map (·.data.toList)))) ++ ([125])))) (yt_cat (by rfl) _ _ _ rfl (([123]) ++ (joinL ((evI e0 4).map (·.data.toList)))) ([125]) rfl rfl (by first | (have h1 := evItem_le hr hi k hlt; unfold evItem at h1; simp only [List.length_cons, List.length_append, List.length_nil] at *; omega) | (rw [evI_all]; simp only [List.length_cons, List.length_append, List.length_nil]; omega) | (simp only [List.length_cons, List.length_append, List.length_nil, evI_all]; omega))) ?_
      simp only [Act.put, lzA, lzB, lzC]
      refine wl_yield (o := ⟨_, _, _, _, _, _⟩) (.string (bs ((([123]) ++ (joinL ((evI e0 4).map (·.data.toList)))) ++ ([125])))) (yl_assign (by rfl) _ rfl _ rfl) ?_
      simp only [Act.put, lzA, lzB, lzC]
      refine wpList_nil ?_
      refine hK7 _ _ ?_
      clear hK7 K7
      refine wp_ret ?_
      have hj : bs ([123] ++ joinL ((evI e0 4).map (·.data.toList)) ++ [125]) = bs (evTxt e0) := by rw [evI_all]; rfl
      go_ret
      exact ⟨ret_str hj, below_none D⟩
end Go.Proofs.YtlmdcaemjaldfaaGreatDoor
namespace Go.Proofs.YtlmdcaemjaldfaaGreatDoor
open Go.RowKit
theorem digit_nat (k : Nat) (h : k < 16) (w : World) :
    Calls Tryz.prog 87 #[.int .i64 (k : Int)] w fun e w' => e = .returned (.int .u8 ((hexD k).toNat : Int)) ∧ w' = w := by
  have := digit_any (k : Int) (by omega) (by omega) w
  simpa using this
theorem hex_hit (c : UInt8) (k : Nat) (h : k < 16) (e : (hexD k).toNat = c.toNat) : hexI c = (k : Int) := by
  rw [← UInt8.toNat_inj.1 e, hexI_hexD k h]
theorem hex_miss (c : UInt8) (h : ∀ j, j < 16 → (hexD j).toNat ≠ c.toNat) : hexI c = -1 := by
  have hb := hexI_bd c
  by_cases hn : 0 ≤ hexI c
  · exact absurd (by rw [hexD_hexI c hn]) (h (hexI c).toNat (by omega))
  · omega
set_option maxHeartbeats 1000000 in
set_option maxRecDepth 100000 in
theorem refHex_any (c : UInt8) (w : World) :
    Calls Tryz.prog 96 #[.int .u8 (c.toNat : Int)] w fun e w' => e = .returned (.int .i64 (hexI c)) ∧ w' = w := by
  go_enter Tryz.func96, Tryz.ntmps96
  go_wp2
  go_loop [3] (fun i => ∃ k : Nat, i = .int .i64 k ∧ k ≤ 16 ∧ Hid (∀ j, j < k → (hexD j).toNat ≠ c.toNat)) (fun i => 16 - (intOf i).toNat)
  case atStart => exact ⟨0, rfl, by omega, hide (fun j h => by omega)⟩
  case round =>
    obtain ⟨k, rfl, hk, hj⟩ := hrel
    by_cases hlt : k < 16
    · have HD := fun (W : World) => hide (digit_nat k hlt W)
      have hst := hide (fun (h : ¬ (hexD k).toNat = c.toNat) (j : Nat) (h2 : j < k + 1) => (if e : j = k then by rw [e]; exact h else hj.out j (by omega) : (hexD j).toNat ≠ c.toNat))
      have hit := hide (hex_hit c k hlt)
      generalize hexD k = d at *
      by_cases e : d.toNat = c.toNat
      · have E := hide (hit.out e)
        have eb : ((d.toNat : Int) == (c.toNat : Int)) = true := by rw [e]; simp
        clear e
        go_wp2_with (go_at_call 87; refine (unhide (HD _)).mono ?_; rintro e w' ⟨rfl, rfl⟩)
        go_ret
        exact ⟨ret_int E.out.symm, rfl⟩
      · have N := hide (hst.out e)
        have eb : ((d.toNat : Int) == (c.toNat : Int)) = false := beq_eq_false_iff_ne.2 (by omega)
        clear e
        go_wp2_with (go_at_call 87; refine (unhide (HD _)).mono ?_; rintro e w' ⟨rfl, rfl⟩)
        exact ⟨⟨k + 1, by go_num, by omega, N⟩, by simp [intOf]; omega⟩
    · have E := hide (hex_miss c (fun j h => hj.out j (by omega)))
      go_wp2
      go_ret
      exact ⟨ret_int E.out.symm, rfl⟩
end Go.Proofs.YtlmdcaemjaldfaaGreatDoor
namespace Go.Proofs.YtlmdcaemjaldfaaGreatDoor
open Go.RowKit
theorem step_hex {ops : Array Oper} {o : Oper} {a : Act} {K : Act → World → Prop} {Q : Exit → Act → World → Prop} {E : Prop} (w : World) (hgd : o.guard = none) (x : Operand)
    (ho : o.op = .call { callee := .value (.func 96), args := #[x], argTypes := #[5] }) (c : UInt8) (hx : a.eval x = .int .u8 (c.toNat : Int)) (h : K (a.put o.dst (.int .i64 (hexI c))) w) :
    if Region.wanted o (yielded ops a.tmps) = true then Oper.wp Tryz.prog o a w K Q else E := by
  rw [if_pos (by simp [Region.wanted, hgd])]
  have hrun : (execOp a.eval o).run Tryz.prog w = .ok (.enter 96 #[.int .u8 (c.toNat : Int)]) w := by
    have he : a.eval (.func 96) = .func (.func 96) #[] #[] := rfl
    simp [execOp, ho, resolve, invoke, hx, he, Tryz.func96]
    simp [go_sem, Tryz.func96]
  unfold Oper.wp
  rw [hrun, Oper.upon_enter]
  refine (refHex_any c w).mono ?_
  rintro e w' ⟨rfl, rfl⟩
  exact h
def Rq (s : ByteArray) (acc : List UInt8) (k : Nat) : Prop := ∃ f, s.size - k ≤ f ∧ rqL f (s.data.toList.drop k) acc k = rqL s.size (s.data.toList.drop 1) [] 1
theorem rq_start (s : ByteArray) : Rq s [] 1 := ⟨s.size, by omega, rfl⟩
theorem rq_end (s : ByteArray) (acc : List UInt8) (k : Nat) (h : Rq s acc k) (hk : k = s.size) : rqL s.size (s.data.toList.drop 1) [] 1 = none := by
  obtain ⟨f, _, e⟩ := h
  rw [← e, drop_end s k hk]
  cases f <;> rfl
theorem rq_quote (s : ByteArray) (acc : List UInt8) (k : Nat) (h : Rq s acc k) (hk : k < s.size) (hq : s[k].toNat = 39) : rqL s.size (s.data.toList.drop 1) [] 1 = some (acc, k + 1) := by
  obtain ⟨f, hf, e⟩ := h
  rw [← e, drop_at s k hk]
  cases f with
  | zero => omega
  | succ f => simp [rqL, hq]
theorem rq_plain (s : ByteArray) (acc : List UInt8) (k : Nat) (h : Rq s acc k) (hk : k < s.size) (hq : ¬ s[k].toNat = 39) (h9 : ¬ s[k].toNat = 92) : Rq s (acc ++ [s[k]]) (k + 1) := by
  obtain ⟨f, hf, e⟩ := h
  rw [drop_at s k hk] at e
  cases f with
  | zero => omega
  | succ f =>
    refine ⟨f, by omega, ?_⟩
    rw [← e, rqL, if_neg hq, if_neg h9]
theorem rq_short (s : ByteArray) (acc : List UInt8) (k : Nat) (h : Rq s acc k) (hk : k < s.size) (h9 : s[k].toNat = 92) (h2 : s.size ≤ k + 2) : rqL s.size (s.data.toList.drop 1) [] 1 = none := by
  obtain ⟨f, hf, e⟩ := h
  rw [drop_at s k hk] at e
  rw [← e]
  cases f with
  | zero => omega
  | succ f =>
    rw [rqL, if_neg (by omega), if_pos h9, if_pos]
    rw [List.length_drop, ← Lib.size_eq]; omega
theorem w_two_at (s : ByteArray) (k : Nat) (h2 : k + 2 < s.size) : (s.data.toList.drop (k + 1)).getD 0 0 = s[k + 1] ∧ (s.data.toList.drop (k + 1)).getD 1 0 = s[k + 2] ∧ ¬ (s.data.toList.drop (k + 1)).length < 2 := by
  rw [drop_at s (k + 1) (by omega), drop_at s (k + 1 + 1) (by omega)]
  exact ⟨rfl, rfl, by simp⟩
theorem rq_hex1 (s : ByteArray) (acc : List UInt8) (k : Nat) (h : Rq s acc k) (h2 : k + 2 < s.size) (h9 : s[k].toNat = 92) (hh : hexI s[k + 1] < 0) : rqL s.size (s.data.toList.drop 1) [] 1 = none := by
  obtain ⟨f, hf, e⟩ := h
  rw [drop_at s k (by omega)] at e
  rw [← e]
  obtain ⟨t1, t2, t3⟩ := w_two_at s k h2
  cases f with
  | zero => omega
  | succ f => rw [rqL, if_neg (by omega), if_pos h9, if_neg t3, t1, if_pos hh]
theorem rq_hex2 (s : ByteArray) (acc : List UInt8) (k : Nat) (h : Rq s acc k) (h2 : k + 2 < s.size) (h9 : s[k].toNat = 92) (hh : ¬ hexI s[k + 1] < 0) (hh2 : hexI s[k + 2] < 0) : rqL s.size (s.data.toList.drop 1) [] 1 = none := by
  obtain ⟨f, hf, e⟩ := h
  rw [drop_at s k (by omega)] at e
  rw [← e]
  obtain ⟨t1, t2, t3⟩ := w_two_at s k h2
  cases f with
  | zero => omega
  | succ f => rw [rqL, if_neg (by omega), if_pos h9, if_neg t3, t1, t2, if_neg hh, if_pos hh2]
theorem rq_esc (s : ByteArray) (acc : List UInt8) (k : Nat) (h : Rq s acc k) (h2 : k + 2 < s.size) (h9 : s[k].toNat = 92) (hh : ¬ hexI s[k + 1] < 0) (hh2 : ¬ hexI s[k + 2] < 0) : Rq s (acc ++ [hx s[k + 1] s[k + 2]]) (k + 3) := by
  obtain ⟨f, hf, e⟩ := h
  rw [drop_at s k (by omega)] at e
  obtain ⟨t1, t2, t3⟩ := w_two_at s k h2
  cases f with
  | zero => omega
  | succ f =>
    refine ⟨f, by omega, ?_⟩
    rw [← e, rqL, if_neg (by omega), if_pos h9, if_neg t3, t1, t2, if_neg hh, if_neg hh2, List.drop_drop]
def retQ : Option (List UInt8 × Nat) → Value
  | none => .tuple #[.string ⟨#[]⟩, .int .i64 0, .bool false]
  | some (t, n) => .tuple #[.string ⟨t.toArray⟩, .int .i64 (n : Nat), .bool true]
theorem qd_none (s : ByteArray) (h : rqL s.size (s.data.toList.drop 1) [] 1 = none) : qdL s.data.toList = none := by
  unfold qdL; rw [← Lib.size_eq, h]
theorem qd_some (s : ByteArray) (t : List UInt8) (k : Nat) (h : rqL s.size (s.data.toList.drop 1) [] 1 = some (t, k + 1)) (hk : k < s.size) : qdL s.data.toList = if t.length ≤ 8 ∧ quoteL t = s.data.toList.take (k + 1) then some (t, k + 1) else none := by
  unfold qdL
  rw [← Lib.size_eq, h]
  simp only
  by_cases hc : t.length ≤ 8 ∧ quoteL t = s.data.toList.take (k + 1)
  · rw [if_pos hc, if_pos ⟨hc.1, hc.2, by omega⟩]
  · rw [if_neg hc, if_neg (fun h => hc ⟨h.1, h.2.1⟩)]
theorem refQuote_acc (acc : List UInt8) (w : World) (hs : acc.length ≤ 1048576) :
    Calls Tryz.prog 64 #[.string ⟨acc.toArray⟩] w fun e w' => e = .returned (.string ⟨(quoteL acc).toArray⟩) ∧ Below w.heap.size w w' := by
  have := refQuote_any ⟨acc.toArray⟩ w (by rw [Lib.size_eq]; simpa using hs)
  simpa using this
end Go.Proofs.YtlmdcaemjaldfaaGreatDoor
namespace Go.Proofs.YtlmdcaemjaldfaaGreatDoor
open Go.RowKit
theorem quoteL_len (a : List UInt8) : a.length + 2 ≤ (quoteL a).length ∧ (quoteL a).length ≤ 3 * a.length + 2 := by
  have := qBytes_len a
  simp [quoteL]; omega
theorem cut_take (s : ByteArray) (k : Nat) (hk : k < s.size) : (s.extract 0 (k + 1)).toList = s.data.toList.take (k + 1) := by
  rw [ByteArray.toList_eq, Lib.extract_data]; simp
theorem quote_beq (acc : List UInt8) (s : ByteArray) (k : Nat) (hk : k < s.size) : ((⟨(quoteL acc).toArray⟩ : ByteArray).toList = (s.extract 0 (k + 1)).toList) ↔ quoteL acc = s.data.toList.take (k + 1) := by
  rw [cut_take s k hk, ByteArray.toList_eq]
set_option maxHeartbeats 2000000 in
set_option maxRecDepth 100000 in
theorem quoted_any (s : ByteArray) (w : World) (h0 : 0 < s.size) (hs : s.size ≤ 1000) :
    Calls Tryz.prog 80 #[.string s] w fun e w' => e = .returned (retQ (qdL s.data.toList)) ∧ Below w.heap.size w w' := by
  go_enter Tryz.func80, Tryz.ntmps80
  go_wp2
  have hO0 : Hid (Own (w.alloc (.cells #[] 5)) w.heap.size (.slice (some ⟨w.heap.size, 0, none⟩) 0 0) []) := hide (own_new w #[] [] rfl (by simp))
  have hB0 : Hid (Below w.heap.size w (w.alloc (.cells #[] 5))) := hide ((Below.refl _ _).alloc (Nat.le_refl _) _)
  go_loopw [5, 6] (fun v i wr => ∃ (k g n cap : Nat) (acc : List UInt8), 1 ≤ k ∧ k ≤ s.size ∧ i = .int .i64 k ∧ v = .slice (some ⟨g, 0, none⟩) n cap ∧ n ≤ k ∧ Hid (n = acc.length) ∧ Hid (Own wr w.heap.size (.slice (some ⟨g, 0, none⟩) n cap) acc) ∧ Hid (Rq s acc k) ∧ Hid (Below w.heap.size w wr)) (fun _ i _ => s.size - (intOf i).toNat)
  case atStart => exact ⟨1, w.heap.size, 0, 0, [], by omega, by omega, rfl, rfl, by omega, rfl, hO0, rq_start s, hB0⟩
  case round =>
    obtain ⟨k, g, n, cap, acc, hk1, hk, rfl, rfl, hnk, hn, hO, hR, hB⟩ := hrel
    clear hO0 hB0
    have hsz : w.heap.size ≤ wr.heap.size := hB.out.size
    by_cases hlt : k < s.size
    · by_cases hq : s[k].toNat = 39
      · have hqb : ((s[k].toNat : Int) == 39) = true := by rw [hq]; rfl
        have E := hide (qd_some s acc k (rq_quote s acc k hR.out hlt hq) hlt)
        have hcv := conv_own hO.out
        have X := fun (d : Nat) (os : Array Obj) => hide (Calls.regrown_of (refQuote_acc acc (Sort.grow (redrawn wr d) os) (by have := hn.out; omega)))
        have hTs := hide (show ((⟨acc.toArray⟩ : ByteArray).size) = acc.length by rw [Lib.size_eq])
        have hQs := hide (show ((⟨(quoteL acc).toArray⟩ : ByteArray).size) = (quoteL acc).length by rw [Lib.size_eq])
        have hbe := hide (quote_beq acc s k hlt)
        have hwk : IntKind.i64.wrap ((k : Int) + 1) = (k : Int) + 1 := by rw [IntKind.wrap_i64]; omega
        have hsl : ∀ W, (Instr.slice 9 (.string s) none (some (.int .i64 ((k : Int) + 1))) none).run Tryz.prog W = .ok (.string (s.extract 0 (k + 1))) W := fun W => by
          rw [run_slice_string_h (ht := Tryz.underlying9) (h0 := by omega) (h2 := by omega)]; rfl
        have HT : Hid (retQ (some (acc, k + 1)) = .tuple #[.string ⟨acc.toArray⟩, .int .i64 ((k + 1 : Nat) : Int), .bool true]) := hide rfl
        generalize (⟨acc.toArray⟩ : ByteArray) = T at *
        generalize (⟨(quoteL acc).toArray⟩ : ByteArray) = QT at *
        have hT8 : T.size ≤ 1000 := by have := hTs.out; have := hn.out; omega
        have hQ8 : QT.size ≤ 3002 := by have := hTs.out; have := hn.out; have := hQs.out; have := quoteL_len acc; omega
        clear hq hR hO
        by_cases c8 : 8 < (T.size : Int)
        · have E2 := hide (E.out.trans (if_neg (fun h => by have := h.1; have := hTs.out; omega)))
          clear E hbe HT
          go_wp2
          refine wp_region_quiet_below mixed (by kernel_rfl) ?_
          repeat (first | go_big_quiet_step ((exact unhide (X _ _))) | quiet_step ((exact unhide (X _ _))))
          refine wpQuiet_nil ?_
          intro _ hw'
          obtain ⟨⟨dq, osq⟩, hw''⟩ := hw'
          subst hw''
          go_wp2
          refine bodyPost_ret (v := retQ none) (by simp [results, Tryz.results80, go_sem, retQ]) rfl ⟨by rw [E2.out], hB.out.trans ((below_regrown wr dq osq).mono hsz)⟩
        by_cases c9 : (QT.size : Int) < (k : Int) + 1
        · have E2 := hide (E.out.trans (if_neg (fun h => by have := congrArg List.length h.2; rw [List.length_take, ← Lib.size_eq, ← hQs.out] at this; omega)))
          clear E hbe HT
          go_wp2
          refine wp_region_quiet_below mixed (by kernel_rfl) ?_
          repeat (first | go_big_quiet_step ((exact unhide (X _ _))) | quiet_step ((exact unhide (X _ _))))
          refine wpQuiet_nil ?_
          intro _ hw'
          obtain ⟨⟨dq, osq⟩, hw''⟩ := hw'
          subst hw''
          go_wp2
          refine bodyPost_ret (v := retQ none) (by simp [results, Tryz.results80, go_sem, retQ]) rfl ⟨by rw [E2.out], hB.out.trans ((below_regrown wr dq osq).mono hsz)⟩
        by_cases ce : QT.toList = (s.extract 0 (k + 1)).toList
        · have E2 := hide (E.out.trans (if_pos ⟨by have := hTs.out; omega, hbe.out.1 ce⟩))
          have ceb : (QT.toList == (s.extract 0 (k + 1)).toList) = true := beq_iff_eq.2 ce
          clear E hbe ce
          go_wp2
          refine wp_region_quiet_below mixed (by kernel_rfl) ?_
          repeat (first | go_big_quiet_step ((exact unhide (X _ _))) | quiet_step ((exact unhide (X _ _))))
          refine wpQuiet_nil ?_
          intro _ hw'
          obtain ⟨⟨dq, osq⟩, hw''⟩ := hw'
          subst hw''
          go_wp2
          refine bodyPost_ret (v := retQ (some (acc, k + 1))) (by rw [HT.out]; simp [results, Tryz.results80, go_sem]) rfl ⟨by rw [E2.out], hB.out.trans ((below_regrown wr dq osq).mono hsz)⟩
        · have E2 := hide (E.out.trans (if_neg (fun h => ce (hbe.out.2 h.2))))
          have ceb : (QT.toList == (s.extract 0 (k + 1)).toList) = false := beq_eq_false_iff_ne.2 ce
          clear E hbe ce HT
          go_wp2
          refine wp_region_quiet_below mixed (by kernel_rfl) ?_
          repeat (first | go_big_quiet_step ((exact unhide (X _ _))) | quiet_step ((exact unhide (X _ _))))
          refine wpQuiet_nil ?_
          intro _ hw'
          obtain ⟨⟨dq, osq⟩, hw''⟩ := hw'
          subst hw''
          go_wp2
          refine bodyPost_ret (v := retQ none) (by simp [results, Tryz.results80, go_sem, retQ]) rfl ⟨by rw [E2.out], hB.out.trans ((below_regrown wr dq osq).mono hsz)⟩
      · have hqb : ((s[k].toNat : Int) == 39) = false := beq_eq_false_iff_ne.2 (by omega)
        have hnl : acc.length ≤ 1000 := by have := hn.out; omega
        by_cases h9 : s[k].toNat = 92
        · have h9b : ((s[k].toNat : Int) == 92) = true := by rw [h9]; rfl
          by_cases h2 : k + 2 < s.size
          · have g1 : (k : Int) + 1 < (s.size : Int) := by omega
            have g2 : (k : Int) + 2 < (s.size : Int) := by omega
            have i1 : ∀ W, (Instr.index 9 (.string s) (.int .i64 ((k : Int) + 1))).run Tryz.prog W = .ok (.int .u8 (s[k + 1].toNat : Int)) W := fun W => by
              rw [run_index_string (h := Tryz.underlying9), dif_pos (by omega)]; rfl
            have i2 : ∀ W, (Instr.index 9 (.string s) (.int .i64 ((k : Int) + 2))).run Tryz.prog W = .ok (.int .u8 (s[k + 2].toNat : Int)) W := fun W => by
              rw [run_index_string (h := Tryz.underlying9), dif_pos (by omega)]; rfl
            have hw1 : IntKind.i64.wrap ((k : Int) + 1) = (k : Int) + 1 := by rw [IntKind.wrap_i64]; omega
            have hw2 : IntKind.i64.wrap ((k : Int) + 2) = (k : Int) + 2 := by rw [IntKind.wrap_i64]; omega
            have b1 := hexI_bd s[k + 1]
            have b2 := hexI_bd s[k + 2]
            by_cases x1 : hexI s[k + 1] < 0
            · have E := hide (qd_none s (rq_hex1 s acc k hR.out h2 h9 x1))
              clear hq h9
              go_wp2_with (go_at_call 96; refine (refHex_any _ _).mono ?_; rintro e w' ⟨rfl, rfl⟩)
              refine bodyPost_ret (v := retQ none) (by simp [results, Tryz.results80, go_sem, retQ]) rfl ⟨by rw [E.out], hB.out⟩
            by_cases x2 : hexI s[k + 2] < 0
            · have E := hide (qd_none s (rq_hex2 s acc k hR.out h2 h9 x1 x2))
              clear hq h9
              go_wp2_with (go_at_call 96; refine (refHex_any _ _).mono ?_; rintro e w' ⟨rfl, rfl⟩)
              refine bodyPost_ret (v := retQ none) (by simp [results, Tryz.results80, go_sem, retQ]) rfl ⟨by rw [E.out], hB.out⟩
            have hR2 := hide (rq_esc s acc k hR.out h2 h9 x1 x2)
            have hv := hx_val s[k + 1] s[k + 2] (by omega) (by omega)
            have hw8 : IntKind.u8.wrap ((16 : Int) * hexI s[k + 1] + hexI s[k + 2]) = ((hx s[k + 1] s[k + 2]).toNat : Int) := by rw [IntKind.wrap_u8]; omega
            have hm1 : IntKind.i64.wrap ((16 : Int) * hexI s[k + 1]) = (16 : Int) * hexI s[k + 1] := by rw [IntKind.wrap_i64]; omega
            have hm2 : IntKind.i64.wrap ((16 : Int) * hexI s[k + 1] + hexI s[k + 2]) = (16 : Int) * hexI s[k + 1] + hexI s[k + 2] := by rw [IntKind.wrap_i64]; omega
            generalize hx s[k + 1] s[k + 2] = c at *
            clear hq h9 hv
            go_wp2_with (go_at_call 96; refine (refHex_any _ _).mono ?_; rintro e w' ⟨rfl, rfl⟩)
            go_region_law ((first | (refine step_hex _ rfl _ rfl _ rfl ?_) | (refine step_app _ rfl _ _ rfl w.heap.size _ acc rfl (by exact (hO.out.alloc _).drew) _ 1 1 _ [c] rfl (by omega) rfl (by exact heap_top _ _) rfl (by omega) (by simp; omega) ?_; intro v2 w2 hO2 hb2)))
            all_goals
              obtain ⟨g2, n2, cap2, rfl⟩ := own_form hO2 (by simp)
              have hn2 := own_len hO2
              have hn2' : n2 = n + 1 := by rw [hn2, List.length_append, ← hn.out]; rfl
              have Hn2 := hide hn2
              have hn28 : n2 ≤ k + 3 := by omega
              have HO2 := hide hO2
              have HB2 := hide ((hB.out.alloc hsz _).drew.trans hb2)
              clear hn2 hn2' hO2 hb2
              go_wp2
              exact ⟨⟨k + 3, g2, n2, cap2, acc ++ [c], by omega, by omega, by go_num, rfl, hn28, Hn2, HO2, hR2, HB2⟩, by simp [intOf]; omega⟩
          · have E := hide (qd_none s (rq_short s acc k hR.out hlt h9 (by omega)))
            have g2 : (s.size : Int) ≤ (k : Int) + 2 := by omega
            clear hq h9
            go_wp2
            refine bodyPost_ret (v := retQ none) (by simp [results, Tryz.results80, go_sem, retQ]) rfl ⟨by rw [E.out], hB.out⟩
        · have h9b : ((s[k].toNat : Int) == 92) = false := beq_eq_false_iff_ne.2 (by omega)
          have hR2 := hide (rq_plain s acc k hR.out hlt hq h9)
          have hl8 : acc.length + 1 ≤ 1001 := by omega
          clear hq h9
          go_wp2_with (at_builtin; refine wpList_app _ rfl _ _ rfl w.heap.size _ acc rfl (hO.out.alloc _) _ 1 1 _ [s[k]] rfl rfl (heap_top _ _) rfl (by omega) (by simp; omega) ?_; intro v2 w2 hO2 hb2; refine Hid.out ?_)
          refine hide ?_
          obtain ⟨g2, n2, cap2, rfl⟩ := own_form hO2 (by simp)
          have hn2 := own_len hO2
          have hn2' : n2 = n + 1 := by rw [hn2, List.length_append, ← hn.out]; rfl
          have Hn2 := hide hn2
          have hn28 : n2 ≤ k + 1 := by omega
          have HO2 := hide hO2
          have HB2 := hide ((hB.out.alloc hsz _).trans hb2)
          clear hn2 hn2' hO2 hb2
          go_wp2
          exact ⟨⟨k + 1, g2, n2, cap2, acc ++ [s[k]], by omega, by omega, by go_num, rfl, hn28, Hn2, HO2, hR2, HB2⟩, by simp [intOf]; omega⟩
    · have E := hide (qd_none s (rq_end s acc k hR.out (by omega)))
      go_wp2
      refine bodyPost_ret (v := retQ none) (by simp [results, Tryz.results80, go_sem, retQ]) rfl ⟨by rw [E.out], hB.out⟩
end Go.Proofs.YtlmdcaemjaldfaaGreatDoor
namespace Go.Proofs.YtlmdcaemjaldfaaGreatDoor
def numAt (s : ByteArray) (a j : Nat) : Nat := foldV 0 ((s.data.toList.drop a).take (j - a))
theorem numAt_start (s : ByteArray) (a : Nat) : numAt s a a = 0 := by unfold numAt; simp [foldV_nil]
theorem numAt_step (s : ByteArray) (a j : Nat) (ha : a ≤ j) (hj : j < s.size) : numAt s a (j + 1) = numAt s a j * 10 + (s[j].toNat - 48) := by
  unfold numAt
  have e : j + 1 - a = (j - a) + 1 := by omega
  have hl : j - a < (s.data.toList.drop a).length := by rw [List.length_drop, ← Lib.size_eq]; omega
  rw [e, List.take_succ_eq_append_getElem hl, foldV_append, foldV_cons, foldV_nil]
  have e2 : (s.data.toList.drop a)[j - a] = s[j] := by
    rw [List.getElem_drop]
    have : a + (j - a) = j := by omega
    simp only [this]; rfl
  rw [e2]
theorem seg_digs (s : ByteArray) (a j k : Nat) (hj : j ≤ k) (hk : k ≤ s.size) (h : digsTo s.data.toList a k) : ∀ c ∈ (s.data.toList.drop a).take (j - a), isDig c = true := by
  intro c hc
  obtain ⟨i, hi, rfl⟩ := List.getElem_of_mem hc
  rw [List.length_take, List.length_drop] at hi
  rw [List.getElem_take, List.getElem_drop]
  have := h (a + i) (by omega) (by omega)
  rw [List.getD_eq_getElem?_getD, List.getElem?_eq_getElem (by omega)] at this
  exact this
theorem numAt_small (s : ByteArray) (a j k : Nat) (hj : j < k) (hk : k ≤ s.size) (h : digsTo s.data.toList a k) (h19 : k - a ≤ 19) : numAt s a j ≤ 999999999999999999 := by
  unfold numAt
  refine foldV_small _ (seg_digs s a j k (by omega) hk h) ?_
  rw [List.length_take]; omega
theorem dig_at' (s : ByteArray) (a k j : Nat) (h : digsTo s.data.toList a k) (ha : a ≤ j) (hj : j < k) (hk : k ≤ s.size) : 48 ≤ s[j].toNat ∧ s[j].toNat ≤ 57 := by
  have := h j ha hj
  rw [← at_getD s j (by omega)] at this
  exact (isDig_iff _).1 this
theorem seg_len (s : ByteArray) (a k : Nat) (hk : k ≤ s.size) : ((s.data.toList.drop a).take (k - a)).length = k - a := by
  rw [List.length_take, List.length_drop, ← Lib.size_eq]; omega
theorem seg_head (s : ByteArray) (a k : Nat) (ha : a < k) (hk : k ≤ s.size) : ((s.data.toList.drop a).take (k - a)).getD 0 0 = s[a] := by
  rw [drop_at s a (by omega)]
  obtain ⟨m, hm⟩ : ∃ m, k - a = m + 1 := ⟨k - a - 1, by omega⟩
  rw [hm]; rfl
theorem refN_seg (s : ByteArray) (a k : Nat) (ha : a < k) (hk : k ≤ s.size) : refN a ((s.data.toList.drop a).take (k - a)) = if s[a].toNat = 48 ∧ 1 < k then none else if 19 < k - a then none else if (a = 0 ∧ 9223372036854775807 < numAt s a k) ∨ 9223372036854775808 < numAt s a k then none else some (1, if a = 1 then -(numAt s a k : Int) else numAt s a k, [], k) := by
  unfold refN
  rw [seg_head s a k ha hk, seg_len s a k hk]
  have e : a + (k - a) = k := by omega
  rw [e]; rfl
theorem read_seg1 (s : ByteArray) (k : Nat) (c0 : 0 < s.size) (hm : s[0].toNat = 45) (hk1 : 1 < k) (hk : k ≤ s.size) (hd : digsTo s.data.toList 1 k) (hc : digCount (s.data.toList.drop 1) = k - 1) : readL s.data.toList = refN 1 ((s.data.toList.drop 1).take (k - 1)) := by
  have hne : (s.data.toList.drop 1).take (k - 1) ≠ [] := by
    intro h
    have := seg_len s 1 k hk
    rw [h] at this; simp at this; omega
  rw [← rn_neg _ hne (seg_digs s 1 k k (Nat.le_refl _) hk hd)]
  have hN : numEnd s.data.toList = k := by rw [numEnd_minus s c0 hm, hc, if_neg (by omega)]; omega
  unfold readL
  rw [if_neg (by rw [← Lib.size_eq]; omega), ← at_getD s 0 c0, if_neg (by omega), hN, if_pos (by omega)]
  congr 1
  have h0 := drop_at s 0 c0
  rw [List.drop_zero] at h0
  have e45 : s[0] = 45 := UInt8.toNat_inj.1 hm
  rw [e45] at h0
  obtain ⟨m, rfl⟩ : ∃ m, k = m + 1 := ⟨k - 1, by omega⟩
  have : List.take (m + 1) s.data.toList = List.take (m + 1) (45 :: s.data.toList.drop (0 + 1)) := by rw [← h0]
  rw [this]; rfl
theorem read_seg0 (s : ByteArray) (k : Nat) (c0 : 0 < s.size) (hm : ¬ s[0].toNat = 45) (hq : ¬ s[0].toNat = 39) (hk1 : 0 < k) (hk : k ≤ s.size) (hd : digsTo s.data.toList 0 k) (hc : digCount (s.data.toList.drop 0) = k - 0) : readL s.data.toList = refN 0 ((s.data.toList.drop 0).take (k - 0)) := by
  have hne : (s.data.toList.drop 0).take (k - 0) ≠ [] := by
    intro h
    have := seg_len s 0 k hk
    rw [h] at this; simp at this; omega
  rw [← rn_plain _ hne (seg_digs s 0 k k (Nat.le_refl _) hk hd)]
  have hN : numEnd s.data.toList = k := by rw [numEnd_plain s c0 hm, hc]; omega
  unfold readL
  rw [if_neg (by rw [← Lib.size_eq]; omega), ← at_getD s 0 c0, if_neg hq, hN, if_pos hk1]
  rfl
theorem read_none1 (s : ByteArray) (c0 : 0 < s.size) (hm : s[0].toNat = 45) (hc : digCount (s.data.toList.drop 1) = 0) : readL s.data.toList = some (0, 0, [], 1) := by
  have hN : numEnd s.data.toList = 0 := by rw [numEnd_minus s c0 hm, hc]; rfl
  unfold readL
  rw [if_neg (by rw [← Lib.size_eq]; omega), ← at_getD s 0 c0, if_neg (by omega), hN, if_neg (by omega), if_pos hm]
theorem read_none0 (s : ByteArray) (c0 : 0 < s.size) (hm : ¬ s[0].toNat = 45) (hq : ¬ s[0].toNat = 39) (hc : digCount (s.data.toList.drop 0) = 0) : readL s.data.toList = none := by
  have hN : numEnd s.data.toList = 0 := by rw [numEnd_plain s c0 hm, hc]
  unfold readL
  rw [if_neg (by rw [← Lib.size_eq]; omega), ← at_getD s 0 c0, if_neg hq, hN, if_neg (by omega), if_neg hm]
theorem read_str (s : ByteArray) (c0 : 0 < s.size) (hq : s[0].toNat = 39) : readL s.data.toList = (qdL s.data.toList).map (fun x => (2, 0, x.1, x.2)) := by
  have h0 := drop_at s 0 c0
  rw [List.drop_zero, UInt8.toNat_inj.1 (show s[0].toNat = (39 : UInt8).toNat from hq)] at h0
  rw [h0]
  unfold readL
  rw [if_neg (by simp), if_pos (by rfl)]
  exact rs_eq _
theorem numAt_pos (s : ByteArray) (k : Nat) (hk1 : 1 < k) (hk : k ≤ s.size) (hd : digsTo s.data.toList 1 k) (hz : ¬ s[1].toNat = 48) : 1 ≤ numAt s 1 k := by
  rcases Nat.eq_zero_or_pos (numAt s 1 k) with h | h
  · refine absurd ?_ hz
    have hne : (s.data.toList.drop 1).take (k - 1) ≠ [] := by
      intro h
      have := seg_len s 1 k hk
      rw [h] at this; simp at this; omega
    have := foldV_zero _ hne (seg_digs s 1 k k (Nat.le_refl _) hk hd) h
    rw [seg_head s 1 k hk1 hk] at this
    exact this
  · exact h
end Go.Proofs.YtlmdcaemjaldfaaGreatDoor
namespace Go.Proofs.YtlmdcaemjaldfaaGreatDoor
open Go.RowKit
theorem out_or (s : ByteArray) (k : Nat) (h : ¬ ∃ h : k < s.size, 48 ≤ (s[k].toNat : Int) ∧ (s[k].toNat : Int) ≤ 57) : (¬ k < s.size) ∨ (∃ h : k < s.size, ¬ 48 ≤ (s[k].toNat : Int)) ∨ (∃ h : k < s.size, 48 ≤ (s[k].toNat : Int) ∧ ¬ (s[k].toNat : Int) ≤ 57) := by
  by_cases hlt : k < s.size
  · by_cases d1 : 48 ≤ (s[k].toNat : Int)
    · exact Or.inr (Or.inr ⟨hlt, d1, fun d2 => h ⟨hlt, d1, d2⟩⟩)
    · exact Or.inr (Or.inl ⟨hlt, d1⟩)
  · exact Or.inl hlt
theorem out_dig (s : ByteArray) (k : Nat) (hk : k ≤ s.size) (h : ¬ ∃ h : k < s.size, 48 ≤ (s[k].toNat : Int) ∧ (s[k].toNat : Int) ≤ 57) : k = s.size ∨ isDig (s.data.toList.getD k 0) = false := by
  by_cases hlt : k < s.size
  · refine Or.inr (notDig s k hlt ?_)
    by_cases d1 : 48 ≤ (s[k].toNat : Int)
    · exact Or.inr (by have : ¬ (s[k].toNat : Int) ≤ 57 := fun d2 => h ⟨hlt, d1, d2⟩; omega)
    · exact Or.inl (by omega)
  · exact Or.inl (by omega)
set_option maxHeartbeats 4000000 in
set_option maxRecDepth 100000 in
theorem refRead_minus (s : ByteArray) (w : World) (hs : s.size ≤ 1000) (h0 : 0 < s.size) (c0 : s[0].toNat = 45) :
    Calls Tryz.prog 56 #[.string s] w fun e w' => e = .returned (retR (readL s.data.toList)) ∧ Below w.heap.size w w' := by
  have cq : ((s[0].toNat : Int) == 39) = false := by rw [c0]; rfl
  have cm : ((s[0].toNat : Int) == 45) = true := by rw [c0]; rfl
  have HC := hide c0
  clear c0
  go_enter Tryz.func56, Tryz.ntmps56
  go_wp2
  go_loop [9] (fun t => ∃ k : Nat, 1 ≤ k ∧ k ≤ s.size ∧ t = .int .i64 k ∧ Hid (digsTo s.data.toList 1 k)) (fun t => s.size - (intOf t).toNat)
  case atStart => exact ⟨1, by omega, by omega, rfl, digsTo_start _ _⟩
  case round =>
    obtain ⟨k, hk1, hk, rfl, hd⟩ := hrel
    by_cases hin : ∃ h : k < s.size, 48 ≤ (s[k].toNat : Int) ∧ (s[k].toNat : Int) ≤ 57
    · obtain ⟨hlt, d1, d2⟩ := hin
      go_wp2
      exact ⟨⟨k + 1, by omega, by omega, by go_num, hide (digsTo_step s 1 k hd.out hlt d1 d2)⟩, by simp [intOf]; omega⟩
    have hout := out_or s k hin
    have Hdc := hide (digCount_loop s 1 k hk1 hk hd.out (out_dig s k hk hin))
    clear hin
    by_cases k1 : k = 1
    · have E := hide (read_none1 s h0 HC.out (Hdc.out.trans (by omega)))
      have kb : ((k : Int) == 1) = true := by rw [k1]; rfl
      clear k1 Hdc
      rcases hout with hlt | ⟨hlt, d1⟩ | ⟨hlt, d1, d2⟩
      all_goals
        go_wp2
        refine bodyPost_ret (v := retR (some (0, 0, [], 1))) (by simp [results, Tryz.results56, go_sem, retR]) rfl ⟨by rw [E.out], (Below.refl _ _).alloc (Nat.le_refl _) _⟩
    have kb : ((k : Int) == 1) = false := beq_eq_false_iff_ne.2 (by omega)
    have E := hide ((read_seg1 s k h0 HC.out (by omega) hk hd.out Hdc.out).trans (refN_seg s 1 k (by omega) hk))
    have g1 : (1 : Int) < (s.size : Int) := by omega
    clear Hdc
    by_cases z : s[1].toNat = 48 ∧ 1 < k
    · have E2 := hide (E.out.trans (if_pos z))
      have zb : ((s[1].toNat : Int) == 48) = true := by rw [z.1]; rfl
      have z2 : (1 : Int) < (k : Int) := by omega
      clear z E
      rcases hout with hlt | ⟨hlt, d1⟩ | ⟨hlt, d1, d2⟩
      all_goals
        go_wp2
        refine bodyPost_ret (v := retR (none)) (by simp [results, Tryz.results56, go_sem, retR]) rfl ⟨by rw [E2.out], (Below.refl _ _).alloc (Nat.le_refl _) _⟩
    have E1 := hide (E.out.trans (if_neg z))
    clear E
    by_cases l19 : 19 < k - 1
    · have E2 := hide (E1.out.trans (if_pos l19))
      have l19' : (19 : Int) < (k : Int) - 1 := by omega
      clear E1
      by_cases z1 : s[1].toNat = 48
      · exact absurd ⟨z1, by omega⟩ z
      have zb : ((s[1].toNat : Int) == 48) = false := beq_eq_false_iff_ne.2 (by omega)
      clear z z1
      rcases hout with hlt | ⟨hlt, d1⟩ | ⟨hlt, d1, d2⟩
      all_goals
        go_wp2
        refine bodyPost_ret (v := retR (none)) (by simp [results, Tryz.results56, go_sem, retR]) rfl ⟨by rw [E2.out], (Below.refl _ _).alloc (Nat.le_refl _) _⟩
    have E2 := hide (E1.out.trans (if_neg l19))
    have l19' : (k : Int) - 1 ≤ 19 := by omega
    clear E1
    have hz1 : ¬ s[1].toNat = 48 := fun h => z ⟨h, by omega⟩
    have zb : ((s[1].toNat : Int) == 48) = false := beq_eq_false_iff_ne.2 (by omega)
    have hpos := hide (numAt_pos s k (by omega) hk hd.out hz1)
    clear z hz1
    rcases hout with hlt | ⟨hlt, d1⟩ | ⟨hlt, d1, d2⟩
    all_goals
      go_wp2
      go_loop [10, 11] (fun u i => ∃ j : Nat, 1 ≤ j ∧ j ≤ k ∧ i = .int .i64 j ∧ u = .int .u64 (numAt s 1 j : Nat)) (fun _ i => k - (intOf i).toNat)
      case atStart => exact ⟨1, by omega, by omega, rfl, by rw [numAt_start]; rfl⟩
      case round =>
        obtain ⟨j, hj1, hj, rfl, rfl⟩ := hrel
        by_cases hjk : j < k
        · obtain ⟨e1, e2⟩ := dig_at' s 1 k j hd.out hj1 hjk hk
          have sm := numAt_small s 1 j k hjk hk hd.out (by omega)
          have st := hide (numAt_step s 1 j hj1 (by omega))
          have f1 : (48 : Int) ≤ (s[j].toNat : Int) := by omega
          have f2 : (s[j].toNat : Int) ≤ 57 := by omega
          have f3 : (j : Int) < (s.size : Int) := by omega
          have hJ := hide (hjk)
          generalize numAt s 1 j = V at *
          clear e1 e2
          go_wp2
          exact ⟨⟨j + 1, by omega, by have := hJ.out; omega, by go_num, by rw [st.out]; congr 1; omega⟩, by have := hJ.out; simp [intOf]; omega⟩
        · obtain rfl : j = k := by omega
          have hle : numAt s 1 j < 18446744073709551616 := by
            by_cases hb : j = 1
            · rw [hb, numAt_start]; omega
            · obtain ⟨i, rfl⟩ : ∃ i, j = i + 1 := ⟨j - 1, by omega⟩
              have := numAt_small s 1 i (i + 1) (by omega) hk hd.out (by omega)
              have e := numAt_step s 1 i (by omega) (by omega)
              have := (dig_at' s 1 (i + 1) i hd.out (by omega) (by omega) hk).2
              omega
          generalize numAt s 1 j = V at *
          by_cases big : 9223372036854775808 < V
          · have E3 := hide (E2.out.trans (if_pos (Or.inr big)))
            have big' : (9223372036854775808 : Int) < (V : Int) := by omega
            go_wp2
            refine bodyPost_ret (v := retR (none)) (by simp [results, Tryz.results56, go_sem, retR]) rfl ⟨by rw [E3.out], (Below.refl _ _).alloc (Nat.le_refl _) _⟩
          · have E3 := hide (E2.out.trans (if_neg (fun h => by omega)))
            have p1 : (1 : Int) ≤ (V : Int) := by have := hpos.out; omega
            have big' : (V : Int) ≤ 9223372036854775808 := by omega
            have hw1 : IntKind.u64.wrap ((V : Int) - 1) = (V : Int) - 1 := by rw [IntKind.wrap_u64]; omega
            have hw2 : IntKind.i64.wrap ((V : Int) - 1) = (V : Int) - 1 := by rw [IntKind.wrap_i64]; omega
            have hw3 : IntKind.i64.wrap (-((V : Int) - 1)) = -((V : Int) - 1) := by rw [IntKind.wrap_i64]; omega
            have hw4 : IntKind.i64.wrap (-((V : Int) - 1) - 1) = -((V : Int) - 1) - 1 := by rw [IntKind.wrap_i64]; omega
            have hn : Hid (-(V : Int) = -((V : Int) - 1) - 1) := hide (by omega)
            go_wp2
            refine bodyPost_ret (v := retR (some (1, -((V : Int) - 1) - 1, [], j))) (by simp [results, Tryz.results56, go_sem, retR]) rfl ⟨by rw [E3.out, if_pos (by trivial), hn.out], (Below.refl _ _).alloc (Nat.le_refl _) _⟩
set_option maxHeartbeats 4000000 in
set_option maxRecDepth 100000 in
theorem refRead_plain (s : ByteArray) (w : World) (hs : s.size ≤ 1000) (h0 : 0 < s.size) (c0 : ¬ s[0].toNat = 45) (cq0 : ¬ s[0].toNat = 39) :
    Calls Tryz.prog 56 #[.string s] w fun e w' => e = .returned (retR (readL s.data.toList)) ∧ Below w.heap.size w w' := by
  have cq : ((s[0].toNat : Int) == 39) = false := beq_eq_false_iff_ne.2 (by omega)
  have cm : ((s[0].toNat : Int) == 45) = false := beq_eq_false_iff_ne.2 (by omega)
  have HC := hide c0
  have HQ := hide cq0
  clear c0 cq0
  go_enter Tryz.func56, Tryz.ntmps56
  go_wp2
  go_loop [9] (fun t => ∃ k : Nat, 0 ≤ k ∧ k ≤ s.size ∧ t = .int .i64 k ∧ Hid (digsTo s.data.toList 0 k)) (fun t => s.size - (intOf t).toNat)
  case atStart => exact ⟨0, by omega, by omega, rfl, digsTo_start _ _⟩
  case round =>
    obtain ⟨k, hk1, hk, rfl, hd⟩ := hrel
    by_cases hin : ∃ h : k < s.size, 48 ≤ (s[k].toNat : Int) ∧ (s[k].toNat : Int) ≤ 57
    · obtain ⟨hlt, d1, d2⟩ := hin
      go_wp2
      exact ⟨⟨k + 1, by omega, by omega, by go_num, hide (digsTo_step s 0 k hd.out hlt d1 d2)⟩, by simp [intOf]; omega⟩
    have hout := out_or s k hin
    have Hdc := hide (digCount_loop s 0 k hk1 hk hd.out (out_dig s k hk hin))
    clear hin
    by_cases k1 : k = 0
    · have E := hide (read_none0 s h0 HC.out HQ.out (Hdc.out.trans (by omega)))
      have kb : ((k : Int) == 0) = true := by rw [k1]; rfl
      clear k1 Hdc
      rcases hout with hlt | ⟨hlt, d1⟩ | ⟨hlt, d1, d2⟩
      all_goals
        go_wp2
        refine bodyPost_ret (v := retR (none)) (by simp [results, Tryz.results56, go_sem, retR]) rfl ⟨by rw [E.out], (Below.refl _ _).alloc (Nat.le_refl _) _⟩
    have kb : ((k : Int) == 0) = false := beq_eq_false_iff_ne.2 (by omega)
    have E := hide ((read_seg0 s k h0 HC.out HQ.out (by omega) hk hd.out Hdc.out).trans (refN_seg s 0 k (by omega) hk))
    have g1 : (0 : Int) < (s.size : Int) := by omega
    clear Hdc
    by_cases z : s[0].toNat = 48 ∧ 1 < k
    · have E2 := hide (E.out.trans (if_pos z))
      have zb : ((s[0].toNat : Int) == 48) = true := by rw [z.1]; rfl
      have z2 : (1 : Int) < (k : Int) := by omega
      clear z E
      rcases hout with hlt | ⟨hlt, d1⟩ | ⟨hlt, d1, d2⟩
      all_goals
        go_wp2
        refine bodyPost_ret (v := retR (none)) (by simp [results, Tryz.results56, go_sem, retR]) rfl ⟨by rw [E2.out], (Below.refl _ _).alloc (Nat.le_refl _) _⟩
    have E1 := hide (E.out.trans (if_neg z))
    clear E
    by_cases l19 : 19 < k - 0
    · have E2 := hide (E1.out.trans (if_pos l19))
      have l19' : (19 : Int) < (k : Int) - 0 := by omega
      clear E1
      by_cases z1 : s[0].toNat = 48
      · exact absurd ⟨z1, by omega⟩ z
      have zb : ((s[0].toNat : Int) == 48) = false := beq_eq_false_iff_ne.2 (by omega)
      clear z z1
      rcases hout with hlt | ⟨hlt, d1⟩ | ⟨hlt, d1, d2⟩
      all_goals
        go_wp2
        refine bodyPost_ret (v := retR (none)) (by simp [results, Tryz.results56, go_sem, retR]) rfl ⟨by rw [E2.out], (Below.refl _ _).alloc (Nat.le_refl _) _⟩
    have E2 := hide (E1.out.trans (if_neg l19))
    have l19' : (k : Int) - 0 ≤ 19 := by omega
    clear E1
    by_cases z1 : s[0].toNat = 48
    · have zb : ((s[0].toNat : Int) == 48) = true := by rw [z1]; rfl
      have zk : (k : Int) ≤ 1 := by have : ¬ 1 < k := fun h => z ⟨z1, h⟩; omega
      clear z z1
      rcases hout with hlt | ⟨hlt, d1⟩ | ⟨hlt, d1, d2⟩
      all_goals
        go_wp2
        go_loop [10, 11] (fun u i => ∃ j : Nat, 0 ≤ j ∧ j ≤ k ∧ i = .int .i64 j ∧ u = .int .u64 (numAt s 0 j : Nat)) (fun _ i => k - (intOf i).toNat)
        case atStart => exact ⟨0, by omega, by omega, rfl, by rw [numAt_start]; rfl⟩
        case round =>
          obtain ⟨j, hj1, hj, rfl, rfl⟩ := hrel
          by_cases hjk : j < k
          · obtain ⟨e1, e2⟩ := dig_at' s 0 k j hd.out hj1 hjk hk
            have sm := numAt_small s 0 j k hjk hk hd.out (by omega)
            have st := hide (numAt_step s 0 j hj1 (by omega))
            have f1 : (48 : Int) ≤ (s[j].toNat : Int) := by omega
            have f2 : (s[j].toNat : Int) ≤ 57 := by omega
            have f3 : (j : Int) < (s.size : Int) := by omega
            have hJ := hide (hjk)
            generalize numAt s 0 j = V at *
            clear e1 e2
            go_wp2
            exact ⟨⟨j + 1, by omega, by have := hJ.out; omega, by go_num, by rw [st.out]; congr 1; omega⟩, by have := hJ.out; simp [intOf]; omega⟩
          · obtain rfl : j = k := by omega
            have hle : numAt s 0 j < 18446744073709551616 := by
              by_cases hb : j = 0
              · rw [hb, numAt_start]; omega
              · obtain ⟨i, rfl⟩ : ∃ i, j = i + 1 := ⟨j - 1, by omega⟩
                have := numAt_small s 0 i (i + 1) (by omega) hk hd.out (by omega)
                have e := numAt_step s 0 i (by omega) (by omega)
                have := (dig_at' s 0 (i + 1) i hd.out (by omega) (by omega) hk).2
                omega
            generalize numAt s 0 j = V at *
            by_cases big : 9223372036854775807 < V
            · have E3 := hide (E2.out.trans (if_pos (Or.inl (by refine ⟨?_, big⟩; trivial))))
              have big' : (9223372036854775807 : Int) < (V : Int) := by omega
              go_wp2
              refine bodyPost_ret (v := retR (none)) (by simp [results, Tryz.results56, go_sem, retR]) rfl ⟨by rw [E3.out], (Below.refl _ _).alloc (Nat.le_refl _) _⟩
            · have E3 := hide (E2.out.trans (if_neg (fun h => by omega)))
              have big' : (V : Int) ≤ 9223372036854775807 := by omega
              have hw2 : IntKind.i64.wrap (V : Int) = (V : Int) := by rw [IntKind.wrap_i64]; omega
              go_wp2
              refine bodyPost_ret (v := retR (some (1, (V : Int), [], j))) (by simp [results, Tryz.results56, go_sem, retR]) rfl ⟨by rw [E3.out, if_neg (by decide)], (Below.refl _ _).alloc (Nat.le_refl _) _⟩
    have zb : ((s[0].toNat : Int) == 48) = false := beq_eq_false_iff_ne.2 (by omega)
    clear z z1
    rcases hout with hlt | ⟨hlt, d1⟩ | ⟨hlt, d1, d2⟩
    all_goals
      go_wp2
      go_loop [10, 11] (fun u i => ∃ j : Nat, 0 ≤ j ∧ j ≤ k ∧ i = .int .i64 j ∧ u = .int .u64 (numAt s 0 j : Nat)) (fun _ i => k - (intOf i).toNat)
      case atStart => exact ⟨0, by omega, by omega, rfl, by rw [numAt_start]; rfl⟩
      case round =>
        obtain ⟨j, hj1, hj, rfl, rfl⟩ := hrel
        by_cases hjk : j < k
        · obtain ⟨e1, e2⟩ := dig_at' s 0 k j hd.out hj1 hjk hk
          have sm := numAt_small s 0 j k hjk hk hd.out (by omega)
          have st := hide (numAt_step s 0 j hj1 (by omega))
          have f1 : (48 : Int) ≤ (s[j].toNat : Int) := by omega
          have f2 : (s[j].toNat : Int) ≤ 57 := by omega
          have f3 : (j : Int) < (s.size : Int) := by omega
          have hJ := hide (hjk)
          generalize numAt s 0 j = V at *
          clear e1 e2
          go_wp2
          exact ⟨⟨j + 1, by omega, by have := hJ.out; omega, by go_num, by rw [st.out]; congr 1; omega⟩, by have := hJ.out; simp [intOf]; omega⟩
        · obtain rfl : j = k := by omega
          have hle : numAt s 0 j < 18446744073709551616 := by
            by_cases hb : j = 0
            · rw [hb, numAt_start]; omega
            · obtain ⟨i, rfl⟩ : ∃ i, j = i + 1 := ⟨j - 1, by omega⟩
              have := numAt_small s 0 i (i + 1) (by omega) hk hd.out (by omega)
              have e := numAt_step s 0 i (by omega) (by omega)
              have := (dig_at' s 0 (i + 1) i hd.out (by omega) (by omega) hk).2
              omega
          generalize numAt s 0 j = V at *
          by_cases big : 9223372036854775807 < V
          · have E3 := hide (E2.out.trans (if_pos (Or.inl (by refine ⟨?_, big⟩; trivial))))
            have big' : (9223372036854775807 : Int) < (V : Int) := by omega
            go_wp2
            refine bodyPost_ret (v := retR (none)) (by simp [results, Tryz.results56, go_sem, retR]) rfl ⟨by rw [E3.out], (Below.refl _ _).alloc (Nat.le_refl _) _⟩
          · have E3 := hide (E2.out.trans (if_neg (fun h => by omega)))
            have big' : (V : Int) ≤ 9223372036854775807 := by omega
            have hw2 : IntKind.i64.wrap (V : Int) = (V : Int) := by rw [IntKind.wrap_i64]; omega
            go_wp2
            refine bodyPost_ret (v := retR (some (1, (V : Int), [], j))) (by simp [results, Tryz.results56, go_sem, retR]) rfl ⟨by rw [E3.out, if_neg (by decide)], (Below.refl _ _).alloc (Nat.le_refl _) _⟩
end Go.Proofs.YtlmdcaemjaldfaaGreatDoor
namespace Go.Proofs.YtlmdcaemjaldfaaGreatDoor
open Go.RowKit
set_option maxHeartbeats 1000000 in
set_option maxRecDepth 100000 in
theorem refRead_empty (s : ByteArray) (w : World) (h0 : s.size = 0) :
    Calls Tryz.prog 56 #[.string s] w fun e w' => e = .returned (retR (readL s.data.toList)) ∧ Below w.heap.size w w' := by
  have E := hide (read_empty s h0)
  have z : (s.size : Int) = 0 := by omega
  clear h0
  go_enter Tryz.func56, Tryz.ntmps56
  go_wp2
  go_loop [9] (fun t => t = .int .i64 0) (fun t => 0)
  case atStart => rfl
  case round =>
    subst hrel
    go_wp2
    refine bodyPost_ret (v := retR (none)) (by simp [results, Tryz.results56, go_sem, retR]) rfl ⟨by rw [E.out], (Below.refl _ _).alloc (Nat.le_refl _) _⟩
set_option maxHeartbeats 1000000 in
set_option maxRecDepth 100000 in
theorem refRead_string (s : ByteArray) (w : World) (hs : s.size ≤ 1000) (h0 : 0 < s.size) (c : s[0].toNat = 39) :
    Calls Tryz.prog 56 #[.string s] w fun e w' => e = .returned (retR (readL s.data.toList)) ∧ Below w.heap.size w w' := by
  have cb : ((s[0].toNat : Int) == 39) = true := by rw [c]; rfl
  have E := read_str s h0 c
  have HC := fun (W : World) => quoted_any s W h0 hs
  clear c
  cases hR : qdL s.data.toList with
  | none =>
    rw [hR] at HC E
    unfold retQ at HC
    have HE := hide (E.trans (show Option.map _ none = none from rfl))
    have HH := fun W => hide (HC W)
    clear HC E
    go_enter Tryz.func56, Tryz.ntmps56
    go_wp2_with (go_at_call 80; refine (unhide (HH _)).mono ?_; rintro e w1 ⟨rfl, hb1⟩; refine Hid.out ?_)
    refine hide ?_
    obtain ⟨hc, hf⟩ := bcell hb1
    have hB := hide (below_alloc hb1)
    have hz : w.heap.size < w1.heap.size := by have := hb1.size; simp at this; omega
    clear hb1
    have r0 : w1.cell? ⟨w.heap.size, 0, none⟩ = some (.int .i64 0) := by rw [hc _ _ (by simp)]; simp
    have r1 : w1.cell? ⟨w.heap.size, 1, none⟩ = some (.int .i64 0) := by rw [hc _ _ (by simp)]; simp
    have r2 : w1.cell? ⟨w.heap.size, 2, none⟩ = some (.string ⟨#[]⟩) := by rw [hc _ _ (by simp)]; simp
    have Hq := hide (three_stores (.int .i64 0) (.int .i64 0) (.string ⟨#[]⟩) r0 r1 r2)
    go_wp2
    obtain ⟨q0, q1, q2⟩ := Hq.out
    refine bodyPost_ret (v := retR (none)) (by simp [results, Tryz.results56, go_sem, retR, q0, q1, q2]) rfl ⟨by rw [HE.out], below_three _ _ _ hB.out⟩
  | some x =>
    obtain ⟨t, n⟩ := x
    rw [hR] at HC E
    unfold retQ at HC
    have HE : Hid (readL s.data.toList = some (2, 0, t, n)) := hide E
    have HH := fun W => hide (HC W)
    clear HC E
    go_enter Tryz.func56, Tryz.ntmps56
    go_wp2_with (go_at_call 80; refine (unhide (HH _)).mono ?_; rintro e w1 ⟨rfl, hb1⟩; refine Hid.out ?_)
    refine hide ?_
    obtain ⟨hc, hf⟩ := bcell hb1
    have hB := hide (below_alloc hb1)
    have hz : w.heap.size < w1.heap.size := by have := hb1.size; simp at this; omega
    clear hb1
    have r0 : w1.cell? ⟨w.heap.size, 0, none⟩ = some (.int .i64 0) := by rw [hc _ _ (by simp)]; simp
    have r1 : w1.cell? ⟨w.heap.size, 1, none⟩ = some (.int .i64 0) := by rw [hc _ _ (by simp)]; simp
    have r2 : w1.cell? ⟨w.heap.size, 2, none⟩ = some (.string ⟨#[]⟩) := by rw [hc _ _ (by simp)]; simp
    have Hq := hide (three_stores (.int .i64 2) (.int .i64 0) (.string ⟨t.toArray⟩) r0 r1 r2)
    go_wp2
    obtain ⟨q0, q1, q2⟩ := Hq.out
    refine bodyPost_ret (v := retR (some (2, 0, t, n))) (by simp [results, Tryz.results56, go_sem, retR, q0, q1, q2]) rfl ⟨by rw [HE.out], below_three _ _ _ hB.out⟩
theorem refRead_any (s : ByteArray) (w : World) (hs : s.size ≤ 1000) :
    Calls Tryz.prog 56 #[.string s] w fun e w' => e = .returned (retR (readL s.data.toList)) ∧ Below w.heap.size w w' := by
  by_cases h0 : 0 < s.size
  · by_cases c : s[0].toNat = 39
    · exact refRead_string s w hs h0 c
    · by_cases m : s[0].toNat = 45
      · exact refRead_minus s w hs h0 m
      · exact refRead_plain s w hs h0 m c
  · exact refRead_empty s w (by omega)
end Go.Proofs.YtlmdcaemjaldfaaGreatDoor
namespace Go.Proofs.YtlmdcaemjaldfaaGreatDoor
open Go.RowKit
section
variable {ops : Array Oper} {Q : Exit → Act → World → Prop} {o : Oper} {a : Act} {i : Nat} {K : Act → World → Prop} {w : World}
theorem ot_allocVa (hi : ops[i]? = some o) (hw : Region.wanted o (yielded ops a.tmps) = true) (ho : o.op = .alloc 40)
    (h : ∀ W g, w.heap.size ≤ g → W.heap[g]? = some (vObj vZ) → Below w.heap.size w W → K (a.put o.dst (.pointer (some ⟨g, 0, none⟩))) W) : wpOp Tryz.prog ops Q i K a w := by
  refine ot_run hi hw (.pointer (some ⟨w.heap.size, 0, none⟩)) (w.alloc (vObj vZ)) ?_ (h _ _ (Nat.le_refl _) (heap_new _ _) ((Below.refl _ w).alloc (Nat.le_refl _) _))
  simp only [execOp, ho, vObj, vZ]
  go_simp
theorem ot_putVa (hi : ops[i]? = some o) (hw : Region.wanted o (yielded ops a.tmps) = true) (x y : Operand) (ho : o.op = .store 40 x y) (g : Nat) (hx : a.eval x = .pointer (some ⟨g, 0, none⟩)) (v : Va) (hy : a.eval y = vVal v) {cs : Array Value} (hc : w.heap[g]? = some (.cells cs 40 (0, 0))) (hk : cs.size = 3)
    (h : ∀ W, W.heap[g]? = some (vObj v) → w.grownBy W (some g) → K (a.put o.dst undef) W) : wpOp Tryz.prog ops Q i K a w := by
  have ht : w.there g 0 3 := fun j hj => ⟨by rw [cell_heap hc, Nat.zero_add, Array.getElem?_eq_getElem (by omega)]; rfl, frozen_heap hc _⟩
  obtain ⟨h1, h2⟩ := put_whole [Value.int .i64 v.1, .int .i64 v.2.1, .string v.2.2] hc (by rw [hk]; rfl)
  refine ot_skip hi hw _ ?_ (h _ h1 h2)
  have hr := run_storeVar_mid (P := Tryz.prog) w g 0 40 #[Value.int .i64 v.1, .int .i64 v.2.1, .string v.2.2] ht (by rw [infoV]; rfl) (by simp [Value.oneCell'])
  have hy' : a.eval y = .agg #[Value.int .i64 v.1, .int .i64 v.2.1, .string v.2.2] := hy
  unfold execOp
  simp only [ho, hx, hy', Instr.storeAt, Instr.sureAddr, Sem.run_bind, Sem.run_pure, Result.andThen_ok, hr]
end
def rdV : R → Va
  | none => (0, 0, ⟨#[]⟩)
  | some (k, z, s, _) => (k, z, ⟨s.toArray⟩)
def rdN : R → Nat
  | none => 0
  | some (_, _, _, j) => j
theorem retR_eq (r : R) : retR r = .tuple #[vVal (rdV r), .int .i64 (rdN r), .bool r.isSome] := by
  cases r with
  | none => rfl
  | some q => rfl
set_option maxHeartbeats 1000000 in
set_option maxRecDepth 100000 in
theorem refVal7 (b n : Nat) (l : List UInt8) (w : World) (G : w.heap[b]? = some (rfObj l n)) (hn : n ≤ l.length) (hl : l.length ≤ 1000) (hj : rdN (readL (l.drop n)) ≤ 1000000) :
    Calls Tryz.prog 29 #[.pointer (some ⟨b, 0, none⟩)] w fun e w' => e = .returned (.tuple #[vVal (rdV (readL (l.drop n))), .bool (readL (l.drop n)).isSome]) ∧ w'.heap[b]? = some (rfObj l (n + rdN (readL (l.drop n)))) ∧ w.grownBy w' (some b) := by
  have D : w.grownBy w (some b) := grown_refl _ _
  go_enter Tryz.func29, Tryz.ntmps29
  refine wp_seq_k (fun K1 hK1 => ?_)
  refine wp_region_lit ?_
  refine wt_allocVa (o := ⟨_, _, _, _, _, _⟩) (by rfl) rfl (fun v1 g1 hg G1 kb => ?_)
  simp only [Act.put, lzA, lzB, lzC]
  have n_b_g1 : b ≠ g1 := by have := lt_heap G; omega
  have ge_g1 : w.heap.size ≤ g1 := Nat.le_trans D.size hg
  clear hg
  replace D := grown_below D kb
  replace G := heap_on G kb
  clear kb
  replace G1 : v1.heap[g1]? = some (.cells #[.int .i64 0, .int .i64 0, .string (bs ([]))] 40 (0, 0)) := G1
  refine wl_yield (o := ⟨_, _, _, _, _, _⟩) (.bool false) (yl_assign (by rfl) _ rfl _ rfl) ?_
  simp only [Act.put, lzA, lzB, lzC]
  refine wpList_nil ?_
  refine hK1 _ _ ?_
  clear hK1 K1
  refine wp_seq_k (fun K2 hK2 => ?_)
  refine wp_region_late (S := fun w' => w'.heap[b]? = some (.cells #[.string (bs l), .int .i64 (n : Nat)] 60 (0, 0))) (late := fun j => [].contains j) (by kernel_rfl) ?_
  have kb : Below v1.heap.size v1 v1.drew := (Below.refl _ v1).drew
  replace D := grown_below D kb
  replace G := heap_on G kb
  replace G1 := heap_on G1 kb
  clear kb
  generalize v1.drew = v2 at D G G1 ⊢
  refine wpAnyL_pure (i := 0) (oi := ⟨_, _, _, _, _, _⟩) (v := .pointer (some ⟨b, 0, none⟩)) rfl (by kernel_rfl) (by kernel_rfl) (by kernel_rfl) (fun _ _ _ h => h) (yl_move (by rfl) _ rfl _ rfl) ?_
  simp only [Act.put, lzA, lzB, lzC]
  refine wpAnyL_pure (i := 1) (oi := ⟨_, _, _, _, _, _⟩) (v := .pointer (some ⟨b, 0, none⟩)) rfl (by kernel_rfl) (by kernel_rfl) (by kernel_rfl) (fun _ _ _ h => h) (yt_nil (by rfl) _ rfl _ rfl) ?_
  simp only [Act.put, lzA, lzB, lzC]
  refine wpAnyL_pure (i := 2) (oi := ⟨_, _, _, _, _, _⟩) (v := .pointer (some ⟨b, 0, none⟩)) rfl (by kernel_rfl) (by kernel_rfl) (by kernel_rfl) (fun _ _ _ h => h) (yt_fRr0 (by rfl) _ rfl b 0 rfl) ?_
  simp only [Act.put, lzA, lzB, lzC]
  refine wpAnyL_load (i := 3) (oi := ⟨_, _, _, _, _, _⟩) (v := .string (bs l)) rfl (by kernel_rfl) (by kernel_rfl) (by kernel_rfl) (by kernel_rfl) (fun _ _ _ h => h) (yt_ldS (by rfl) _ rfl _ _ rfl (bs l) (fun _ h => cell_heap h 0)) G ?_
  simp only [Act.put, lzA, lzB, lzC]
  refine wpAnyL_pure (i := 4) (oi := ⟨_, _, _, _, _, _⟩) (v := .pointer (some ⟨b, 0, none⟩)) rfl (by kernel_rfl) (by kernel_rfl) (by kernel_rfl) (fun _ _ _ h => h) (yl_move (by rfl) _ rfl _ rfl) ?_
  simp only [Act.put, lzA, lzB, lzC]
  refine wpAnyL_pure (i := 5) (oi := ⟨_, _, _, _, _, _⟩) (v := .pointer (some ⟨b, 0, none⟩)) rfl (by kernel_rfl) (by kernel_rfl) (by kernel_rfl) (fun _ _ _ h => h) (yt_nil (by rfl) _ rfl _ rfl) ?_
  simp only [Act.put, lzA, lzB, lzC]
  refine wpAnyL_pure (i := 6) (oi := ⟨_, _, _, _, _, _⟩) (v := .pointer (some ⟨b, 1, none⟩)) rfl (by kernel_rfl) (by kernel_rfl) (by kernel_rfl) (fun _ _ _ h => h) (yt_fRr1 (by rfl) _ rfl b 0 rfl) ?_
  simp only [Act.put, lzA, lzB, lzC]
  refine wpAnyL_load (i := 7) (oi := ⟨_, _, _, _, _, _⟩) (v := .int .i64 (n : Nat)) rfl (by kernel_rfl) (by kernel_rfl) (by kernel_rfl) (by kernel_rfl) (fun _ _ _ h => h) (yt_ldI (by rfl) _ rfl _ _ rfl (((n : Nat) : Int)) (fun _ h => cell_heap h 1)) G ?_
  simp only [Act.put, lzA, lzB, lzC]
  refine wpAnyL_pure (i := 8) (oi := ⟨_, _, _, _, _, _⟩) (v := .string (bs (l.drop n))) rfl (by kernel_rfl) (by kernel_rfl) (by kernel_rfl) (fun _ _ _ h => h) (yt_fromS (by rfl) _ _ rfl l n rfl rfl (by omega)) ?_
  simp only [Act.put, lzA, lzB, lzC]
  refine wpAnyL_all (rs := [9, 14]) (by kernel_rfl) (by simp) ?_
  intro j hj
  simp only [List.mem_cons, List.not_mem_nil, or_false] at hj
  rcases hj with rfl | rfl
  · refine ot_call (o := ⟨_, _, _, _, _, _⟩) rfl (by rfl) 56 _ _ rfl #[.string (bs (l.drop n))] rfl (run_call Tryz.func56 (by kernel_rfl) (by kernel_rfl)) ?_
    refine (refRead_any (bs (l.drop n)) _ (by rw [bs_size, List.length_drop]; omega)).mono ?_
    rintro r v3 (⟨rfl, kb⟩)
    replace D := grown_below D kb
    replace G := heap_on G kb
    replace G1 := heap_on G1 kb
    clear kb
    refine Or.inl ⟨.tuple #[vVal ((rdV (readL (l.drop n)))), .int .i64 (rdN (readL (l.drop n)) : Nat), .bool ((readL (l.drop n)).isSome)], by rw [bs_list, retR_eq], ⟨fun _ _ => G, ?_⟩⟩
    simp only [Act.put, lzA, lzB, lzC]
    refine wpAnyL_pure (i := 10) (oi := ⟨_, _, _, _, _, _⟩) (v := .tuple #[vVal ((rdV (readL (l.drop n)))), .int .i64 (rdN (readL (l.drop n)) : Nat), .bool ((readL (l.drop n)).isSome)]) rfl (by kernel_rfl) (by kernel_rfl) (by kernel_rfl) (fun _ _ _ h => h) (yl_move (by rfl) _ rfl _ rfl) ?_
    simp only [Act.put, lzA, lzB, lzC]
    refine wpAnyL_pure (i := 11) (oi := ⟨_, _, _, _, _, _⟩) (v := vVal ((rdV (readL (l.drop n))))) rfl (by kernel_rfl) (by kernel_rfl) (by kernel_rfl) (fun _ _ _ h => h) (yt_ext3_0 (by rfl) _ rfl _ _ _ rfl) ?_
    simp only [Act.put, lzA, lzB, lzC]
    refine wpAnyL_pure (i := 12) (oi := ⟨_, _, _, _, _, _⟩) (v := .int .i64 (rdN (readL (l.drop n)) : Nat)) rfl (by kernel_rfl) (by kernel_rfl) (by kernel_rfl) (fun _ _ _ h => h) (yt_ext3_1 (by rfl) _ rfl _ _ _ rfl) ?_
    simp only [Act.put, lzA, lzB, lzC]
    refine wpAnyL_pure (i := 13) (oi := ⟨_, _, _, _, _, _⟩) (v := .bool ((readL (l.drop n)).isSome)) rfl (by kernel_rfl) (by kernel_rfl) (by kernel_rfl) (fun _ _ _ h => h) (yt_ext3_2 (by rfl) _ rfl _ _ _ rfl) ?_
    simp only [Act.put, lzA, lzB, lzC]
    refine wpAnyL_all (rs := [14]) (by kernel_rfl) (by simp) ?_
    intro j hj
    have hj := List.mem_singleton.1 hj
    subst hj
    refine ot_allocVa (o := ⟨_, _, _, _, _, _⟩) rfl (by rfl) rfl (fun v4 g4 hg G4 kb => ?_)
    have n_b_g4 : b ≠ g4 := by have := lt_heap G; omega
    have n_g1_g4 : g1 ≠ g4 := by have := lt_heap G1; omega
    have ge_g4 : w.heap.size ≤ g4 := Nat.le_trans D.size hg
    clear hg
    replace D := grown_below D kb
    replace G := heap_on G kb
    replace G1 := heap_on G1 kb
    clear kb
    refine ⟨fun _ _ => G, ?_⟩
    simp only [Act.put, lzA, lzB, lzC]
    refine wpAnyL_all (rs := [15]) (by kernel_rfl) (by simp) ?_
    intro j hj
    have hj := List.mem_singleton.1 hj
    subst hj
    refine ot_putVa (o := ⟨_, _, _, _, _, _⟩) rfl (by rfl) _ _ rfl g4 rfl ((rdV (readL (l.drop n)))) rfl G4 rfl (fun v5 X kg => ?_)
    replace D := gr_new D ge_g4 kg
    replace G := heap_gr G kg n_b_g4
    replace G1 := heap_gr G1 kg n_g1_g4
    clear kg
    replace G4 : v5.heap[g4]? = some (vObj ((rdV (readL (l.drop n))))) := X
    clear X
    refine ⟨fun _ _ => G, ?_⟩
    simp only [Act.put, lzA, lzB, lzC]
    refine wpAnyL_pure (i := 16) (oi := ⟨_, _, _, _, _, _⟩) (v := .int .i64 (rdN (readL (l.drop n)) : Nat)) rfl (by kernel_rfl) (by kernel_rfl) (by kernel_rfl) (fun _ _ _ h => h) (yl_assign (by rfl) _ rfl _ rfl) ?_
    simp only [Act.put, lzA, lzB, lzC]
    refine wpAnyL_pure (i := 17) (oi := ⟨_, _, _, _, _, _⟩) (v := .bool ((readL (l.drop n)).isSome)) rfl (by kernel_rfl) (by kernel_rfl) (by kernel_rfl) (fun _ _ _ h => h) (yl_assign (by rfl) _ rfl _ rfl) ?_
    simp only [Act.put, lzA, lzB, lzC]
    refine wpAnyL_done (by kernel_rfl) ?_ _
    refine hK2 _ _ ?_
    clear hK2 K2
    refine wp_seq_k (fun K3 hK3 => ?_)
    refine wp_region_lit ?_
    refine wl_yield (o := ⟨_, _, _, _, _, _⟩) (.pointer (some ⟨b, 0, none⟩)) (yl_move (by rfl) _ rfl _ rfl) ?_
    simp only [Act.put, lzA, lzB, lzC]
    refine wl_yield (o := ⟨_, _, _, _, _, _⟩) (.pointer (some ⟨b, 0, none⟩)) (yt_nil (by rfl) _ rfl _ rfl) ?_
    simp only [Act.put, lzA, lzB, lzC]
    refine wl_yield (o := ⟨_, _, _, _, _, _⟩) (.pointer (some ⟨b, 1, none⟩)) (yt_fRr1 (by rfl) _ rfl b 0 rfl) ?_
    simp only [Act.put, lzA, lzB, lzC]
    refine wl_yield (o := ⟨_, _, _, _, _, _⟩) (.int .i64 (n : Nat)) (yt_ldI (by rfl) _ rfl _ _ rfl (((n : Nat) : Int)) (fun _ h => by subst h; exact cell_heap G 1)) ?_
    simp only [Act.put, lzA, lzB, lzC]
    refine wl_yield (o := ⟨_, _, _, _, _, _⟩) (.int .i64 (rdN (readL (l.drop n)) : Nat)) (yl_move (by rfl) _ rfl _ rfl) ?_
    simp only [Act.put, lzA, lzB, lzC]
    refine wl_yield (o := ⟨_, _, _, _, _, _⟩) (.int .i64 (n + rdN (readL (l.drop n)) : Nat)) (yt_addI (by rfl) _ _ _ rfl (((n : Nat) : Int)) (((rdN (readL (l.drop n)) : Nat) : Int)) (((n + rdN (readL (l.drop n)) : Nat) : Int)) rfl rfl (by omega) (by omega) (by omega)) ?_
    simp only [Act.put, lzA, lzB, lzC]
    refine wl_yield (o := ⟨_, _, _, _, _, _⟩) (.pointer (some ⟨b, 0, none⟩)) (yt_nil (by rfl) _ rfl _ rfl) ?_
    simp only [Act.put, lzA, lzB, lzC]
    refine wl_yield (o := ⟨_, _, _, _, _, _⟩) (.pointer (some ⟨b, 1, none⟩)) (yt_fRr1 (by rfl) _ rfl b 0 rfl) ?_
    simp only [Act.put, lzA, lzB, lzC]
    refine wt_putI (o := ⟨_, _, _, _, _, _⟩) (by rfl) _ _ rfl _ 1 rfl (((n + rdN (readL (l.drop n)) : Nat) : Int)) rfl G (by simp) (fun v6 X kg => ?_)
    simp only [Act.put, lzA, lzB, lzC]
    replace D := grown_trans D kg
    replace G1 := heap_gr G1 kg (Ne.symm n_b_g1)
    replace G4 := heap_gr G4 kg (Ne.symm n_b_g4)
    clear kg
    replace G : v6.heap[b]? = some (.cells #[.string (bs l), .int .i64 (n + rdN (readL (l.drop n)) : Nat)] 60 (0, 0)) := X
    clear X
    refine wpList_nil ?_
    refine hK3 _ _ ?_
    clear hK3 K3
    refine wp_seq_k (fun K4 hK4 => ?_)
    refine wp_region_lit ?_
    refine wl_yield (o := ⟨_, _, _, _, _, _⟩) (.agg #[.int .i64 (((rdV (readL (l.drop n)))).1), .int .i64 (((rdV (readL (l.drop n)))).2.1), .string ((rdV (readL (l.drop n)))).2.2]) (yl_val (by rfl) _ rfl _ 0 rfl _ _ _ (fun _ h => by subst h; exact ⟨cell_heap G4 0, cell_heap G4 1, cell_heap G4 2⟩)) ?_
    simp only [Act.put, lzA, lzB, lzC]
    refine wl_yield (o := ⟨_, _, _, _, _, _⟩) (.bool ((readL (l.drop n)).isSome)) (yl_move (by rfl) _ rfl _ rfl) ?_
    simp only [Act.put, lzA, lzB, lzC]
    refine wt_putVa (o := ⟨_, _, _, _, _, _⟩) rfl _ _ rfl _ rfl ((((rdV (readL (l.drop n)))).1, ((rdV (readL (l.drop n)))).2.1, ((rdV (readL (l.drop n)))).2.2)) rfl G1 rfl (fun v7 X kg => ?_)
    simp only [Act.put, lzA, lzB, lzC]
    replace D := gr_new D ge_g1 kg
    replace G := heap_gr G kg n_b_g1
    replace G4 := heap_gr G4 kg (Ne.symm n_g1_g4)
    clear kg
    replace G1 : v7.heap[g1]? = some (.cells #[.int .i64 (((rdV (readL (l.drop n)))).1), .int .i64 (((rdV (readL (l.drop n)))).2.1), .string ((rdV (readL (l.drop n)))).2.2] 40 (0, 0)) := X
    clear X
    refine wl_yield (o := ⟨_, _, _, _, _, _⟩) (.bool ((readL (l.drop n)).isSome)) (yl_assign (by rfl) _ rfl _ rfl) ?_
    simp only [Act.put, lzA, lzB, lzC]
    refine wpList_nil ?_
    refine hK4 _ _ ?_
    clear hK4 K4
    refine wp_ret ?_
    try simp only [Exit.inBlock, Exit.then]
    refine bodyPost_ret (results_cs rfl _ _ g1 _ (.bool ((readL (l.drop n)).isSome)) rfl rfl (run_loadVar_row _ _ _ _ _ _ _ G1 Tryz.underlying40 rfl (by rw [infoV]; rfl))) rfl ⟨rfl, G, D⟩
  · refine ot_allocVa (o := ⟨_, _, _, _, _, _⟩) rfl (by rfl) rfl (fun v3 g3 hg G3 kb => ?_)
    have n_b_g3 : b ≠ g3 := by have := lt_heap G; omega
    have n_g1_g3 : g1 ≠ g3 := by have := lt_heap G1; omega
    have ge_g3 : w.heap.size ≤ g3 := Nat.le_trans D.size hg
    clear hg
    replace D := grown_below D kb
    replace G := heap_on G kb
    replace G1 := heap_on G1 kb
    clear kb
    refine ⟨fun _ _ => G, ?_⟩
    simp only [Act.put, lzA, lzB, lzC]
    refine wpAnyL_all (rs := [9]) (by kernel_rfl) (by simp) ?_
    intro j hj
    have hj := List.mem_singleton.1 hj
    subst hj
    refine ot_call (o := ⟨_, _, _, _, _, _⟩) rfl (by rfl) 56 _ _ rfl #[.string (bs (l.drop n))] rfl (run_call Tryz.func56 (by kernel_rfl) (by kernel_rfl)) ?_
    refine (refRead_any (bs (l.drop n)) _ (by rw [bs_size, List.length_drop]; omega)).mono ?_
    rintro r v4 (⟨rfl, kb⟩)
    replace D := grown_below D kb
    replace G := heap_on G kb
    replace G1 := heap_on G1 kb
    replace G3 := heap_on G3 kb
    clear kb
    refine Or.inl ⟨.tuple #[vVal ((rdV (readL (l.drop n)))), .int .i64 (rdN (readL (l.drop n)) : Nat), .bool ((readL (l.drop n)).isSome)], by rw [bs_list, retR_eq], ⟨fun _ _ => G, ?_⟩⟩
    simp only [Act.put, lzA, lzB, lzC]
    refine wpAnyL_pure (i := 10) (oi := ⟨_, _, _, _, _, _⟩) (v := .tuple #[vVal ((rdV (readL (l.drop n)))), .int .i64 (rdN (readL (l.drop n)) : Nat), .bool ((readL (l.drop n)).isSome)]) rfl (by kernel_rfl) (by kernel_rfl) (by kernel_rfl) (fun _ _ _ h => h) (yl_move (by rfl) _ rfl _ rfl) ?_
    simp only [Act.put, lzA, lzB, lzC]
    refine wpAnyL_pure (i := 11) (oi := ⟨_, _, _, _, _, _⟩) (v := vVal ((rdV (readL (l.drop n))))) rfl (by kernel_rfl) (by kernel_rfl) (by kernel_rfl) (fun _ _ _ h => h) (yt_ext3_0 (by rfl) _ rfl _ _ _ rfl) ?_
    simp only [Act.put, lzA, lzB, lzC]
    refine wpAnyL_pure (i := 12) (oi := ⟨_, _, _, _, _, _⟩) (v := .int .i64 (rdN (readL (l.drop n)) : Nat)) rfl (by kernel_rfl) (by kernel_rfl) (by kernel_rfl) (fun _ _ _ h => h) (yt_ext3_1 (by rfl) _ rfl _ _ _ rfl) ?_
    simp only [Act.put, lzA, lzB, lzC]
    refine wpAnyL_pure (i := 13) (oi := ⟨_, _, _, _, _, _⟩) (v := .bool ((readL (l.drop n)).isSome)) rfl (by kernel_rfl) (by kernel_rfl) (by kernel_rfl) (fun _ _ _ h => h) (yt_ext3_2 (by rfl) _ rfl _ _ _ rfl) ?_
    simp only [Act.put, lzA, lzB, lzC]
    refine wpAnyL_all (rs := [15]) (by kernel_rfl) (by simp) ?_
    intro j hj
    have hj := List.mem_singleton.1 hj
    subst hj
    refine ot_putVa (o := ⟨_, _, _, _, _, _⟩) rfl (by rfl) _ _ rfl g3 rfl ((rdV (readL (l.drop n)))) rfl G3 rfl (fun v5 X kg => ?_)
    replace D := gr_new D ge_g3 kg
    replace G := heap_gr G kg n_b_g3
    replace G1 := heap_gr G1 kg n_g1_g3
    clear kg
    replace G3 : v5.heap[g3]? = some (vObj ((rdV (readL (l.drop n))))) := X
    clear X
    refine ⟨fun _ _ => G, ?_⟩
    simp only [Act.put, lzA, lzB, lzC]
    refine wpAnyL_pure (i := 16) (oi := ⟨_, _, _, _, _, _⟩) (v := .int .i64 (rdN (readL (l.drop n)) : Nat)) rfl (by kernel_rfl) (by kernel_rfl) (by kernel_rfl) (fun _ _ _ h => h) (yl_assign (by rfl) _ rfl _ rfl) ?_
    simp only [Act.put, lzA, lzB, lzC]
    refine wpAnyL_pure (i := 17) (oi := ⟨_, _, _, _, _, _⟩) (v := .bool ((readL (l.drop n)).isSome)) rfl (by kernel_rfl) (by kernel_rfl) (by kernel_rfl) (fun _ _ _ h => h) (yl_assign (by rfl) _ rfl _ rfl) ?_
    simp only [Act.put, lzA, lzB, lzC]
    refine wpAnyL_done (by kernel_rfl) ?_ _
    refine hK2 _ _ ?_
    clear hK2 K2
    refine wp_seq_k (fun K3 hK3 => ?_)
    refine wp_region_lit ?_
    refine wl_yield (o := ⟨_, _, _, _, _, _⟩) (.pointer (some ⟨b, 0, none⟩)) (yl_move (by rfl) _ rfl _ rfl) ?_
    simp only [Act.put, lzA, lzB, lzC]
    refine wl_yield (o := ⟨_, _, _, _, _, _⟩) (.pointer (some ⟨b, 0, none⟩)) (yt_nil (by rfl) _ rfl _ rfl) ?_
    simp only [Act.put, lzA, lzB, lzC]
    refine wl_yield (o := ⟨_, _, _, _, _, _⟩) (.pointer (some ⟨b, 1, none⟩)) (yt_fRr1 (by rfl) _ rfl b 0 rfl) ?_
    simp only [Act.put, lzA, lzB, lzC]
    refine wl_yield (o := ⟨_, _, _, _, _, _⟩) (.int .i64 (n : Nat)) (yt_ldI (by rfl) _ rfl _ _ rfl (((n : Nat) : Int)) (fun _ h => by subst h; exact cell_heap G 1)) ?_
    simp only [Act.put, lzA, lzB, lzC]
    refine wl_yield (o := ⟨_, _, _, _, _, _⟩) (.int .i64 (rdN (readL (l.drop n)) : Nat)) (yl_move (by rfl) _ rfl _ rfl) ?_
    simp only [Act.put, lzA, lzB, lzC]
    refine wl_yield (o := ⟨_, _, _, _, _, _⟩) (.int .i64 (n + rdN (readL (l.drop n)) : Nat)) (yt_addI (by rfl) _ _ _ rfl (((n : Nat) : Int)) (((rdN (readL (l.drop n)) : Nat) : Int)) (((n + rdN (readL (l.drop n)) : Nat) : Int)) rfl rfl (by omega) (by omega) (by omega)) ?_
    simp only [Act.put, lzA, lzB, lzC]
    refine wl_yield (o := ⟨_, _, _, _, _, _⟩) (.pointer (some ⟨b, 0, none⟩)) (yt_nil (by rfl) _ rfl _ rfl) ?_
    simp only [Act.put, lzA, lzB, lzC]
    refine wl_yield (o := ⟨_, _, _, _, _, _⟩) (.pointer (some ⟨b, 1, none⟩)) (yt_fRr1 (by rfl) _ rfl b 0 rfl) ?_
    simp only [Act.put, lzA, lzB, lzC]
    refine wt_putI (o := ⟨_, _, _, _, _, _⟩) (by rfl) _ _ rfl _ 1 rfl (((n + rdN (readL (l.drop n)) : Nat) : Int)) rfl G (by simp) (fun v6 X kg => ?_)
    simp only [Act.put, lzA, lzB, lzC]
    replace D := grown_trans D kg
    replace G1 := heap_gr G1 kg (Ne.symm n_b_g1)
    replace G3 := heap_gr G3 kg (Ne.symm n_b_g3)
    clear kg
    replace G : v6.heap[b]? = some (.cells #[.string (bs l), .int .i64 (n + rdN (readL (l.drop n)) : Nat)] 60 (0, 0)) := X
    clear X
    refine wpList_nil ?_
    refine hK3 _ _ ?_
    clear hK3 K3
    refine wp_seq_k (fun K4 hK4 => ?_)
    refine wp_region_lit ?_
    refine wl_yield (o := ⟨_, _, _, _, _, _⟩) (.agg #[.int .i64 (((rdV (readL (l.drop n)))).1), .int .i64 (((rdV (readL (l.drop n)))).2.1), .string ((rdV (readL (l.drop n)))).2.2]) (yl_val (by rfl) _ rfl _ 0 rfl _ _ _ (fun _ h => by subst h; exact ⟨cell_heap G3 0, cell_heap G3 1, cell_heap G3 2⟩)) ?_
    simp only [Act.put, lzA, lzB, lzC]
    refine wl_yield (o := ⟨_, _, _, _, _, _⟩) (.bool ((readL (l.drop n)).isSome)) (yl_move (by rfl) _ rfl _ rfl) ?_
    simp only [Act.put, lzA, lzB, lzC]
    refine wt_putVa (o := ⟨_, _, _, _, _, _⟩) rfl _ _ rfl _ rfl ((((rdV (readL (l.drop n)))).1, ((rdV (readL (l.drop n)))).2.1, ((rdV (readL (l.drop n)))).2.2)) rfl G1 rfl (fun v7 X kg => ?_)
    simp only [Act.put, lzA, lzB, lzC]
    replace D := gr_new D ge_g1 kg
    replace G := heap_gr G kg n_b_g1
    replace G3 := heap_gr G3 kg (Ne.symm n_g1_g3)
    clear kg
    replace G1 : v7.heap[g1]? = some (.cells #[.int .i64 (((rdV (readL (l.drop n)))).1), .int .i64 (((rdV (readL (l.drop n)))).2.1), .string ((rdV (readL (l.drop n)))).2.2] 40 (0, 0)) := X
    clear X
    refine wl_yield (o := ⟨_, _, _, _, _, _⟩) (.bool ((readL (l.drop n)).isSome)) (yl_assign (by rfl) _ rfl _ rfl) ?_
    simp only [Act.put, lzA, lzB, lzC]
    refine wpList_nil ?_
    refine hK4 _ _ ?_
    clear hK4 K4
    refine wp_ret ?_
    try simp only [Exit.inBlock, Exit.then]
    refine bodyPost_ret (results_cs rfl _ _ g1 _ (.bool ((readL (l.drop n)).isSome)) rfl rfl (run_loadVar_row _ _ _ _ _ _ _ G1 Tryz.underlying40 rfl (by rw [infoV]; rfl))) rfl ⟨rfl, G, D⟩
end Go.Proofs.YtlmdcaemjaldfaaGreatDoor
