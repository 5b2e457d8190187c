/-
  The law's awake.
-/
import Derived.DeepKeys
import Derived.Test.YtciflobdpenpaaaGreatDoorQ6
set_option linter.unusedSimpArgs false
set_option linter.unusedVariables false
namespace Go.Proofs.YtciflobdpenpaaaGreatDoor
open Go.RowKit

theorem aw_eqz (w : World) : (Op.equalIn 10000 46 (evVal evZ) (evVal evZ)).run Tryz.prog w = .ok true w := by
  have hs : (Tryz.prog.keyLits 5 46 (evVal evZ).cells.toList).isSome = true := by kernel_rfl
  obtain ⟨la, h⟩ := Option.isSome_iff_exists.1 hs
  obtain ⟨r, hr, hi⟩ := run_equalIn_deep (P := Tryz.prog) 9997 3 46 (by kernel_rfl) w 5 5 (evVal evZ) (evVal evZ) la la (by kernel_rfl) (by kernel_rfl) h h
  rw [hi.2 rfl] at hr
  exact hr
def aw1 : ExV := ⟨2, 0, noSet, [⟨1, 0, ⟨false, [(1, 5)], false, [bs [120]]⟩, []⟩, ⟨4, 0, noSet, [⟨1, 1, ⟨true, [], false, []⟩, []⟩]⟩]⟩
def aw2 : EvV := ⟨(1, 1, ⟨#[]⟩), (0, 0, ⟨#[]⟩), (2, 0, bs [120]), (0, 0, ⟨#[]⟩)⟩
def aw3 : SetV := ⟨false, [], true, [bs [113]]⟩
theorem aw_p1 : parseP [38, 40, 97, 58, 91, 49, 46, 46, 53, 32, 39, 120, 39, 93, 32, 33, 98, 58, 91, 45, 93, 41] = some aw1 := by kernel_rfl
theorem aw_p2 : parseP [38, 40, 97, 58, 91, 53, 46, 46, 49, 93, 41] = none := by kernel_rfl
theorem aw_e : parseE [123, 125] = some evZ := by kernel_rfl
theorem aw_r : evR aw2 = ([123, 97, 61, 49, 32, 99, 61, 39, 120, 39, 125], 0) := by kernel_rfl
theorem aw_s : setTxt aw3 = [91, 126, 32, 39, 113, 39, 93] := by kernel_rfl
theorem aw_z1 : (sizeA aw1).1 = 4 := by kernel_rfl
theorem aw_z2 : (sizeA aw1).2 = 3 := by kernel_rfl
theorem aw_y1 {m : Nat} {W : World} {d : EC} {err : Int} (h : ParsedT m W [38, 40, 97, 58, 91, 49, 46, 46, 53, 32, 39, 120, 39, 93, 32, 33, 98, 58, 91, 45, 93, 41] d err) : err = 0 ∧ Xp 31 W d aw1 := by
  unfold ParsedT at h
  rw [if_neg (by decide)] at h
  unfold Parsed at h
  rw [aw_p1] at h
  exact ⟨h.1, h.2 _ (Kept.refl _ _)⟩
theorem aw_y2 {m : Nat} {W : World} {d : EC} {err : Int} (h : ParsedT m W [38, 40, 97, 58, 91, 53, 46, 46, 49, 93, 41] d err) : err = 2 ∧ d = ec0 := by
  unfold ParsedT at h
  rw [if_neg (by decide)] at h
  unfold Parsed at h
  rw [aw_p2] at h
  exact h
theorem aw_fit : evFit aw2 := ⟨by decide, by decide, by decide, by decide⟩
theorem aw_in : inE aw2 := fun i hi => by match i, hi with | 0, _ => decide | 1, _ => decide | 2, _ => decide | 3, _ => decide
theorem aw_ok : okB aw3 := by
  refine ⟨fun r h => ?_, fun s h => ?_⟩
  · cases h
  · rcases List.mem_cons.1 h with rfl | h
    · decide
    · cases h
theorem aw_st {w : World} {g : Nat} (h : w.heap[g]? = some (.cells #[.string (bs [113])] 9 (0, 0))) : StrsAt w (.slice (some ⟨g, 0, none⟩) 1 1) [bs [113]] := by
  refine ⟨fun s hs => ?_, by decide, some ⟨g, 0, none⟩, 0, rfl, fun i hi => ?_⟩
  · rcases List.mem_cons.1 hs with rfl | hs
    · decide
    · cases hs
  · refine ⟨g, 0, rfl, lt_heap h, ?_⟩
    have : i = 0 := by simp at hi; omega
    subst this
    exact cell_heap h 0
theorem ri_nil (w : World) : RngsAt w (.slice none 0 0) [] := ⟨(fun r h => by cases h), by decide, none, 0, rfl, (fun i hi => by cases hi)⟩
section
variable {ops : Array Oper} {S : World → Prop} {o : Oper} {a : Act}
set_option maxRecDepth 100000 in
theorem yt_buildV3 (hw : Region.wanted o (yielded ops a.tmps) = true) (x y : Operand) (ho : o.op = .build 44 #[(0, x), (2, y)]) (k : Int) (s : ByteArray) (hx : a.eval x = .int .i64 k) (hy : a.eval y = .string s) : YieldsIf Tryz.prog ops S o (vVal (k, 0, s)) a :=
  Or.inl ⟨hw, fun w _ => by
    simp only [execOp, ho, List.map_toArray, List.map_cons, List.map_nil, hx, hy, vVal]
    go_simp⟩
set_option maxRecDepth 100000 in
theorem yt_buildE2 (hw : Region.wanted o (yielded ops a.tmps) = true) (x y : Operand) (ho : o.op = .build 46 #[(0, x), (2, y)]) (u v : Va) (hx : a.eval x = vVal u) (hy : a.eval y = vVal v) : YieldsIf Tryz.prog ops S o (evVal ⟨u, (0, 0, ⟨#[]⟩), v, (0, 0, ⟨#[]⟩)⟩) a :=
  Or.inl ⟨hw, fun w _ => by
    simp only [execOp, ho, List.map_toArray, List.map_cons, List.map_nil, hx, hy, vVal, evVal]
    go_simp⟩
set_option maxRecDepth 100000 in
theorem yt_eqEvZ (hw : Region.wanted o (yielded ops a.tmps) = true) (x y : Operand) (t : TypeId) (ho : o.op = .binOp .eql 46 x y t) (hx : a.eval x = evVal evZ) (hy : a.eval y = evVal evZ) : YieldsIf Tryz.prog ops S o (.bool true) a :=
  Or.inl ⟨hw, fun w _ => by
    have h := aw_eqz w
    simp only [evVal, evZ, vaZ] at h
    simp only [execOp, ho, hx, hy, evVal, evZ, vaZ]
    go_simp⟩
theorem wt_newEv {Q : Exit → Act → World → Prop} {o2 : Oper} {rest : List Oper} {w : World} (hw : Region.wanted o (yielded ops a.tmps) = true) (ho : o.op = .alloc 46) (x y : Operand) (ho2 : o2.op = .store 46 x y) (hg2 : o2.guard = none)
    (hx : ∀ v, (a.put o.dst v).eval x = v) {e : EvV} (hy : ∀ v, (a.put o.dst v).eval y = evVal e)
    (h : ∀ W g, W.heap[g]? = some (evObj e) → Below w.heap.size w W → wpList Tryz.prog ops Q rest ((a.put o.dst (.pointer (some ⟨g, 0, none⟩))).put o2.dst undef) W) : wpList Tryz.prog ops Q (o :: o2 :: rest) a w :=
  wt_allocEv hw ho fun v1 g1 hg G1 kb => wt_putEv hg2 x y ho2 g1 (hx _) e (hy _) G1 rfl fun v2 X kg => h v2 g1 X (below_none (gr_new (grown_below (grown_refl _ _) kb) hg kg))
set_option maxRecDepth 100000 in
theorem yt_buildS2 (hw : Region.wanted o (yielded ops a.tmps) = true) (x y : Operand) (ho : o.op = .build 25 #[(2, x), (3, y)]) (b : Bool) (p : Option Addr) (n c : Nat) (hx : a.eval x = .bool b) (hy : a.eval y = .slice p n c) : YieldsIf Tryz.prog ops S o (.agg #[.bool false, .slice none 0 0, .bool b, .slice p n c]) a :=
  Or.inl ⟨hw, fun w _ => by
    simp only [execOp, ho, List.map_toArray, List.map_cons, List.map_nil, hx, hy]
    go_simp⟩
end
set_option maxHeartbeats 1000000 in
set_option maxRecDepth 100000 in
theorem awake7_any (w : World) (HE : Env w) :
    Calls Tryz.prog 8 #[] w fun e w' => e = .returned (.bool true) ∧ Below w.heap.size w w' := by
  have w6 : 6 ≤ w.heap.size := HE.big
  have D : w.grownBy w none := grown_refl _ _
  go_enter Tryz.func8, Tryz.ntmps8
  refine wp_seq_k (fun K1 hK1 => ?_)
  refine wp_region_lit ?_
  refine wl_yield (o := ⟨_, _, _, _, _, _⟩) (.bool false) (yl_assign (by rfl) _ rfl _ rfl) ?_
  simp only [Act.put, List.setIfInBounds_toArray, List.set_cons_zero, List.set_cons_succ]
  refine wpList_nil ?_
  refine hK1 _ _ ?_
  clear hK1 K1
  refine wp_seq_k (fun K2 hK2 => ?_)
  refine wp_region_lit ?_
  refine wt_call (o := ⟨_, _, _, _, _, _⟩) (by rfl) 16 _ _ rfl #[.string (bs ([38, 40, 97, 58, 91, 49, 46, 46, 53, 32, 39, 120, 39, 93, 32, 33, 98, 58, 91, 45, 93, 41]))] rfl (run_call Tryz.func16 (by kernel_rfl) (by kernel_rfl)) ?_
  refine (parse_any _ _ HE (by decide)).mono ?_
  rintro r v1 (⟨⟨d1, err, rfl, PA⟩, kb⟩)
  · obtain ⟨rfl, Pd1⟩ := aw_y1 PA
    clear PA
    replace D := grown_below D kb
    replace HE := HE.on kb
    clear kb
    refine Or.inl ⟨.tuple #[EC.val d1, .int .i64 0], rfl, ?_⟩
    simp only [Act.put, List.setIfInBounds_toArray, List.set_cons_zero, List.set_cons_succ]
    refine wl_yield (o := ⟨_, _, _, _, _, _⟩) (.tuple #[EC.val d1, .int .i64 0]) (yl_move (by rfl) _ rfl _ rfl) ?_
    simp only [Act.put, List.setIfInBounds_toArray, List.set_cons_zero, List.set_cons_succ]
    refine wl_yield (o := ⟨_, _, _, _, _, _⟩) (EC.val d1) (yl_extract0 (by rfl) _ rfl _ _ rfl) ?_
    simp only [Act.put, List.setIfInBounds_toArray, List.set_cons_zero, List.set_cons_succ]
    refine wl_yield (o := ⟨_, _, _, _, _, _⟩) (.int .i64 0) (yl_extract1 (by rfl) _ rfl _ _ rfl) ?_
    simp only [Act.put, List.setIfInBounds_toArray, List.set_cons_zero, List.set_cons_succ]
    refine wl_newEx (o := ⟨_, _, _, _, _, _⟩) (o2 := ⟨_, _, _, _, _, _⟩) (by rfl) rfl _ _ rfl rfl (fun _ => rfl) (c := d1) (fun _ => rfl) (fun v2 g2 G2 kb => ?_)
    simp only [Act.put, List.setIfInBounds_toArray, List.set_cons_zero, List.set_cons_succ]
    replace D := grown_below D kb
    replace HE := HE.on kb
    replace Pd1 := Pd1.on kb
    clear kb
    replace G2 : v2.heap[g2]? = some (.cells #[.int .i64 (d1.k), .int .i64 (d1.t), .bool (d1.s.a), .slice d1.s.p d1.s.n d1.s.c, .bool (d1.s.d), .slice d1.s.q d1.s.m d1.s.e, .slice d1.p d1.n d1.c] 28 (0, 0)) := G2
    refine wl_yield (o := ⟨_, _, _, _, _, _⟩) (.int .i64 0) (yl_assign (by rfl) _ rfl _ rfl) ?_
    simp only [Act.put, List.setIfInBounds_toArray, List.set_cons_zero, List.set_cons_succ]
    refine wpList_nil ?_
    refine hK2 _ _ ?_
    clear hK2 K2
    refine wp_seq_k (fun K3 hK3 => ?_)
    refine wp_region_lit ?_
    refine wt_call (o := ⟨_, _, _, _, _, _⟩) (by rfl) 16 _ _ rfl #[.string (bs ([38, 40, 97, 58, 91, 53, 46, 46, 49, 93, 41]))] rfl (run_call Tryz.func16 (by kernel_rfl) (by kernel_rfl)) ?_
    refine (parse_any _ _ HE (by decide)).mono ?_
    rintro r v3 (⟨⟨d2, err, rfl, PA⟩, kb⟩)
    · obtain ⟨rfl, Pd2⟩ := aw_y2 PA
      clear PA
      subst Pd2
      replace D := grown_below D kb
      replace HE := HE.on kb
      replace Pd1 := Pd1.on kb
      replace G2 := heap_on G2 kb
      clear kb
      refine Or.inl ⟨.tuple #[EC.val ec0, .int .i64 2], rfl, ?_⟩
      simp only [Act.put, List.setIfInBounds_toArray, List.set_cons_zero, List.set_cons_succ]
      refine wl_yield (o := ⟨_, _, _, _, _, _⟩) (.tuple #[EC.val ec0, .int .i64 2]) (yl_move (by rfl) _ rfl _ rfl) ?_
      simp only [Act.put, List.setIfInBounds_toArray, List.set_cons_zero, List.set_cons_succ]
      refine wl_yield (o := ⟨_, _, _, _, _, _⟩) (EC.val ec0) (yl_extract0 (by rfl) _ rfl _ _ rfl) ?_
      simp only [Act.put, List.setIfInBounds_toArray, List.set_cons_zero, List.set_cons_succ]
      refine wl_yield (o := ⟨_, _, _, _, _, _⟩) (.int .i64 2) (yl_extract1 (by rfl) _ rfl _ _ rfl) ?_
      simp only [Act.put, List.setIfInBounds_toArray, List.set_cons_zero, List.set_cons_succ]
      refine wl_newEx (o := ⟨_, _, _, _, _, _⟩) (o2 := ⟨_, _, _, _, _, _⟩) (by rfl) rfl _ _ rfl rfl (fun _ => rfl) (c := ec0) (fun _ => rfl) (fun v4 g4 G4 kb => ?_)
      simp only [Act.put, List.setIfInBounds_toArray, List.set_cons_zero, List.set_cons_succ]
      replace D := grown_below D kb
      replace HE := HE.on kb
      replace Pd1 := Pd1.on kb
      replace G2 := heap_on G2 kb
      clear kb
      replace G4 : v4.heap[g4]? = some (.cells #[.int .i64 (ec0.k), .int .i64 (ec0.t), .bool (ec0.s.a), .slice ec0.s.p ec0.s.n ec0.s.c, .bool (ec0.s.d), .slice ec0.s.q ec0.s.m ec0.s.e, .slice ec0.p ec0.n ec0.c] 28 (0, 0)) := G4
      refine wl_yield (o := ⟨_, _, _, _, _, _⟩) (.int .i64 2) (yl_assign (by rfl) _ rfl _ rfl) ?_
      simp only [Act.put, List.setIfInBounds_toArray, List.set_cons_zero, List.set_cons_succ]
      refine wpList_nil ?_
      refine hK3 _ _ ?_
      clear hK3 K3
      refine wp_seq_k (fun K4 hK4 => ?_)
      refine wp_region_lit ?_
      refine wl_yield (o := ⟨_, _, _, _, _, _⟩) (vVal (((1, 1, ⟨#[]⟩) : Va))) (yt_buildV2 (by rfl) _ _ rfl 1 1 rfl rfl) ?_
      simp only [Act.put, List.setIfInBounds_toArray, List.set_cons_zero, List.set_cons_succ]
      refine wl_yield (o := ⟨_, _, _, _, _, _⟩) (vVal (((2, 0, bs [120]) : Va))) (yt_buildV3 (by rfl) _ _ rfl 2 (bs [120]) rfl rfl) ?_
      simp only [Act.put, List.setIfInBounds_toArray, List.set_cons_zero, List.set_cons_succ]
      refine wl_yield (o := ⟨_, _, _, _, _, _⟩) (evVal aw2) (yt_buildE2 (by rfl) _ _ rfl (1, 1, ⟨#[]⟩) (2, 0, bs [120]) rfl rfl) ?_
      simp only [Act.put, List.setIfInBounds_toArray, List.set_cons_zero, List.set_cons_succ]
      refine wt_call (o := ⟨_, _, _, _, _, _⟩) (by rfl) 21 _ _ rfl #[evVal aw2] rfl (run_call Tryz.func21 (by kernel_rfl) (by kernel_rfl)) ?_
      refine (eventText_any aw2 _ HE aw_fit aw_in).mono ?_
      rintro r v5 ⟨rfl, kb⟩
      replace D := grown_below D kb
      replace HE := HE.on kb
      replace Pd1 := Pd1.on kb
      replace G2 := heap_on G2 kb
      replace G4 := heap_on G4 kb
      clear kb
      refine Or.inl ⟨.tuple #[.string (bs ([123, 97, 61, 49, 32, 99, 61, 39, 120, 39, 125])), .int .i64 0], by rw [aw_r], ?_⟩
      simp only [Act.put, List.setIfInBounds_toArray, List.set_cons_zero, List.set_cons_succ]
      refine wl_yield (o := ⟨_, _, _, _, _, _⟩) (.tuple #[.string (bs ([123, 97, 61, 49, 32, 99, 61, 39, 120, 39, 125])), .int .i64 0]) (yl_move (by rfl) _ rfl _ rfl) ?_
      simp only [Act.put, List.setIfInBounds_toArray, List.set_cons_zero, List.set_cons_succ]
      refine wl_yield (o := ⟨_, _, _, _, _, _⟩) (.string (bs ([123, 97, 61, 49, 32, 99, 61, 39, 120, 39, 125]))) (yl_extract0 (by rfl) _ rfl _ _ rfl) ?_
      simp only [Act.put, List.setIfInBounds_toArray, List.set_cons_zero, List.set_cons_succ]
      refine wl_yield (o := ⟨_, _, _, _, _, _⟩) (.int .i64 0) (yl_extract1 (by rfl) _ rfl _ _ rfl) ?_
      simp only [Act.put, List.setIfInBounds_toArray, List.set_cons_zero, List.set_cons_succ]
      refine wl_yield (o := ⟨_, _, _, _, _, _⟩) (.string (bs ([123, 97, 61, 49, 32, 99, 61, 39, 120, 39, 125]))) (yl_assign (by rfl) _ rfl _ rfl) ?_
      simp only [Act.put, List.setIfInBounds_toArray, List.set_cons_zero, List.set_cons_succ]
      refine wl_yield (o := ⟨_, _, _, _, _, _⟩) (.int .i64 0) (yl_assign (by rfl) _ rfl _ rfl) ?_
      simp only [Act.put, List.setIfInBounds_toArray, List.set_cons_zero, List.set_cons_succ]
      refine wpList_nil ?_
      refine hK4 _ _ ?_
      clear hK4 K4
      refine wp_seq_k (fun K5 hK5 => ?_)
      refine wp_region_lit ?_
      refine wt_call (o := ⟨_, _, _, _, _, _⟩) (by rfl) 19 _ _ rfl #[.string (bs ([123, 125]))] rfl (run_call Tryz.func19 (by kernel_rfl) (by kernel_rfl)) ?_
      refine (readEvent_any [123, 125] _ HE (by decide)).mono ?_
      rintro r v6 (⟨⟨e0, err, rfl, PA⟩, kb⟩)
      · rw [aw_e] at PA
        obtain ⟨rfl, rfl⟩ := PA
        replace D := grown_below D kb
        replace HE := HE.on kb
        replace Pd1 := Pd1.on kb
        replace G2 := heap_on G2 kb
        replace G4 := heap_on G4 kb
        clear kb
        refine Or.inl ⟨.tuple #[evVal evZ, .int .i64 0], rfl, ?_⟩
        simp only [Act.put, List.setIfInBounds_toArray, List.set_cons_zero, List.set_cons_succ]
        refine wl_yield (o := ⟨_, _, _, _, _, _⟩) (.tuple #[evVal evZ, .int .i64 0]) (yl_move (by rfl) _ rfl _ rfl) ?_
        simp only [Act.put, List.setIfInBounds_toArray, List.set_cons_zero, List.set_cons_succ]
        refine wl_yield (o := ⟨_, _, _, _, _, _⟩) (evVal evZ) (yl_extract0 (by rfl) _ rfl _ _ rfl) ?_
        simp only [Act.put, List.setIfInBounds_toArray, List.set_cons_zero, List.set_cons_succ]
        refine wl_yield (o := ⟨_, _, _, _, _, _⟩) (.int .i64 0) (yl_extract1 (by rfl) _ rfl _ _ rfl) ?_
        simp only [Act.put, List.setIfInBounds_toArray, List.set_cons_zero, List.set_cons_succ]
        refine wt_newEv (o := ⟨_, _, _, _, _, _⟩) (o2 := ⟨_, _, _, _, _, _⟩) (by rfl) rfl _ _ rfl rfl (fun _ => rfl) (e := evZ) (fun _ => rfl) (fun v7 g7 G7 kb => ?_)
        simp only [Act.put, List.setIfInBounds_toArray, List.set_cons_zero, List.set_cons_succ]
        replace D := grown_below D kb
        replace HE := HE.on kb
        replace Pd1 := Pd1.on kb
        replace G2 := heap_on G2 kb
        replace G4 := heap_on G4 kb
        clear kb
        replace G7 : v7.heap[g7]? = some (.cells #[.int .i64 (evZ.v0.1), .int .i64 (evZ.v0.2.1), .string evZ.v0.2.2, .int .i64 (evZ.v1.1), .int .i64 (evZ.v1.2.1), .string evZ.v1.2.2, .int .i64 (evZ.v2.1), .int .i64 (evZ.v2.2.1), .string evZ.v2.2.2, .int .i64 (evZ.v3.1), .int .i64 (evZ.v3.2.1), .string evZ.v3.2.2] 46 (0, 0)) := G7
        refine wl_yield (o := ⟨_, _, _, _, _, _⟩) (.int .i64 0) (yl_assign (by rfl) _ rfl _ rfl) ?_
        simp only [Act.put, List.setIfInBounds_toArray, List.set_cons_zero, List.set_cons_succ]
        refine wpList_nil ?_
        refine hK5 _ _ ?_
        clear hK5 K5
        refine wp_seq_k (fun K6 hK6 => ?_)
        refine wp_region_lit ?_
        refine wl_yield (o := ⟨_, _, _, _, _, _⟩) (EC.val d1) (yl_ex (by rfl) _ rfl _ 0 rfl (c := ⟨d1.k, d1.t, ⟨d1.s.a, d1.s.p, d1.s.n, d1.s.c, d1.s.d, d1.s.q, d1.s.m, d1.s.e⟩, d1.p, d1.n, d1.c⟩) (fun _ h => by subst h; exact ⟨cell_heap G2 0, cell_heap G2 1, cell_heap G2 2, cell_heap G2 3, cell_heap G2 4, cell_heap G2 5, cell_heap G2 6⟩)) ?_
        simp only [Act.put, List.setIfInBounds_toArray, List.set_cons_zero, List.set_cons_succ]
        refine wt_call (o := ⟨_, _, _, _, _, _⟩) (by rfl) 26 _ _ rfl #[EC.val d1] rfl (run_call Tryz.func26 (by kernel_rfl) (by kernel_rfl)) ?_
        refine (c_size Pd1 (by omega)).mono ?_
        rintro r v8 ⟨rfl, kb⟩
        replace D := grown_below D kb
        replace HE := HE.on kb
        replace Pd1 := Pd1.on kb
        replace G2 := heap_on G2 kb
        replace G4 := heap_on G4 kb
        replace G7 := heap_on G7 kb
        clear kb
        refine Or.inl ⟨.tuple #[.int .i64 4, .int .i64 3], by rw [aw_z1, aw_z2], ?_⟩
        simp only [Act.put, List.setIfInBounds_toArray, List.set_cons_zero, List.set_cons_succ]
        refine wl_yield (o := ⟨_, _, _, _, _, _⟩) (.tuple #[.int .i64 4, .int .i64 3]) (yl_move (by rfl) _ rfl _ rfl) ?_
        simp only [Act.put, List.setIfInBounds_toArray, List.set_cons_zero, List.set_cons_succ]
        refine wl_yield (o := ⟨_, _, _, _, _, _⟩) (.int .i64 4) (yl_extract0 (by rfl) _ rfl _ _ rfl) ?_
        simp only [Act.put, List.setIfInBounds_toArray, List.set_cons_zero, List.set_cons_succ]
        refine wl_yield (o := ⟨_, _, _, _, _, _⟩) (.int .i64 3) (yl_extract1 (by rfl) _ rfl _ _ rfl) ?_
        simp only [Act.put, List.setIfInBounds_toArray, List.set_cons_zero, List.set_cons_succ]
        refine wl_yield (o := ⟨_, _, _, _, _, _⟩) (.int .i64 4) (yl_assign (by rfl) _ rfl _ rfl) ?_
        simp only [Act.put, List.setIfInBounds_toArray, List.set_cons_zero, List.set_cons_succ]
        refine wl_yield (o := ⟨_, _, _, _, _, _⟩) (.int .i64 3) (yl_assign (by rfl) _ rfl _ rfl) ?_
        simp only [Act.put, List.setIfInBounds_toArray, List.set_cons_zero, List.set_cons_succ]
        refine wpList_nil ?_
        refine hK6 _ _ ?_
        clear hK6 K6
        refine wp_seq_k (fun K7 hK7 => ?_)
        refine wp_region_lit ?_
        refine wl_yield (o := ⟨_, _, _, _, _, _⟩) (.int .i64 0) (yl_move (by rfl) _ rfl _ rfl) ?_
        simp only [Act.put, List.setIfInBounds_toArray, List.set_cons_zero, List.set_cons_succ]
        refine wl_yield (o := ⟨_, _, _, _, _, _⟩) (.bool true) (yt_eqlE (by rfl) _ _ _ rfl 0 0 true rfl rfl (by decide)) ?_
        simp only [Act.put, List.setIfInBounds_toArray, List.set_cons_zero, List.set_cons_succ]
        refine wl_yield (o := ⟨_, _, _, _, _, _⟩) (.bool true) (yl_move (by rfl) _ rfl _ rfl) ?_
        simp only [Act.put, List.setIfInBounds_toArray, List.set_cons_zero, List.set_cons_succ]
        refine wl_yield (o := ⟨_, _, _, _, _, _⟩) (.int .i64 4) (yl_move (by rfl) _ rfl _ rfl) ?_
        simp only [Act.put, List.setIfInBounds_toArray, List.set_cons_zero, List.set_cons_succ]
        refine wl_yield (o := ⟨_, _, _, _, _, _⟩) (.bool true) (yt_eqlI (by rfl) _ _ _ rfl 4 4 true rfl rfl (by decide)) ?_
        simp only [Act.put, List.setIfInBounds_toArray, List.set_cons_zero, List.set_cons_succ]
        refine wl_yield (o := ⟨_, _, _, _, _, _⟩) (.bool true) (yl_pickT (by rfl) _ _ _ rfl rfl _ rfl) ?_
        simp only [Act.put, List.setIfInBounds_toArray, List.set_cons_zero, List.set_cons_succ]
        refine wl_yield (o := ⟨_, _, _, _, _, _⟩) (.bool true) (yl_move (by rfl) _ rfl _ rfl) ?_
        simp only [Act.put, List.setIfInBounds_toArray, List.set_cons_zero, List.set_cons_succ]
        refine wl_yield (o := ⟨_, _, _, _, _, _⟩) (.int .i64 3) (yl_move (by rfl) _ rfl _ rfl) ?_
        simp only [Act.put, List.setIfInBounds_toArray, List.set_cons_zero, List.set_cons_succ]
        refine wl_yield (o := ⟨_, _, _, _, _, _⟩) (.bool true) (yt_eqlI (by rfl) _ _ _ rfl 3 3 true rfl rfl (by decide)) ?_
        simp only [Act.put, List.setIfInBounds_toArray, List.set_cons_zero, List.set_cons_succ]
        refine wl_yield (o := ⟨_, _, _, _, _, _⟩) (.bool true) (yl_pickT (by rfl) _ _ _ rfl rfl _ rfl) ?_
        simp only [Act.put, List.setIfInBounds_toArray, List.set_cons_zero, List.set_cons_succ]
        refine wl_yield (o := ⟨_, _, _, _, _, _⟩) (.bool true) (yl_move (by rfl) _ rfl _ rfl) ?_
        simp only [Act.put, List.setIfInBounds_toArray, List.set_cons_zero, List.set_cons_succ]
        refine wl_yield (o := ⟨_, _, _, _, _, _⟩) (.int .i64 2) (yl_move (by rfl) _ rfl _ rfl) ?_
        simp only [Act.put, List.setIfInBounds_toArray, List.set_cons_zero, List.set_cons_succ]
        refine wl_yield (o := ⟨_, _, _, _, _, _⟩) (.bool true) (yt_eqlE (by rfl) _ _ _ rfl 2 2 true rfl rfl (by decide)) ?_
        simp only [Act.put, List.setIfInBounds_toArray, List.set_cons_zero, List.set_cons_succ]
        refine wl_yield (o := ⟨_, _, _, _, _, _⟩) (.bool true) (yl_pickT (by rfl) _ _ _ rfl rfl _ rfl) ?_
        simp only [Act.put, List.setIfInBounds_toArray, List.set_cons_zero, List.set_cons_succ]
        refine wl_yield (o := ⟨_, _, _, _, _, _⟩) (.bool true) (yl_move (by rfl) _ rfl _ rfl) ?_
        simp only [Act.put, List.setIfInBounds_toArray, List.set_cons_zero, List.set_cons_succ]
        refine wl_yield (o := ⟨_, _, _, _, _, _⟩) (.string (bs ([123, 97, 61, 49, 32, 99, 61, 39, 120, 39, 125]))) (yl_move (by rfl) _ rfl _ rfl) ?_
        simp only [Act.put, List.setIfInBounds_toArray, List.set_cons_zero, List.set_cons_succ]
        refine wl_yield (o := ⟨_, _, _, _, _, _⟩) (.bool true) (yt_eqS (by rfl) _ _ _ rfl ([123, 97, 61, 49, 32, 99, 61, 39, 120, 39, 125]) ([123, 97, 61, 49, 32, 99, 61, 39, 120, 39, 125]) true rfl rfl (by decide)) ?_
        simp only [Act.put, List.setIfInBounds_toArray, List.set_cons_zero, List.set_cons_succ]
        refine wl_yield (o := ⟨_, _, _, _, _, _⟩) (.bool true) (yl_pickT (by rfl) _ _ _ rfl rfl _ rfl) ?_
        simp only [Act.put, List.setIfInBounds_toArray, List.set_cons_zero, List.set_cons_succ]
        refine wl_yield (o := ⟨_, _, _, _, _, _⟩) (.bool true) (yl_move (by rfl) _ rfl _ rfl) ?_
        simp only [Act.put, List.setIfInBounds_toArray, List.set_cons_zero, List.set_cons_succ]
        refine wl_yield (o := ⟨_, _, _, _, _, _⟩) (.int .i64 0) (yl_move (by rfl) _ rfl _ rfl) ?_
        simp only [Act.put, List.setIfInBounds_toArray, List.set_cons_zero, List.set_cons_succ]
        refine wl_yield (o := ⟨_, _, _, _, _, _⟩) (.bool true) (yt_eqlE (by rfl) _ _ _ rfl 0 0 true rfl rfl (by decide)) ?_
        simp only [Act.put, List.setIfInBounds_toArray, List.set_cons_zero, List.set_cons_succ]
        refine wl_yield (o := ⟨_, _, _, _, _, _⟩) (.bool true) (yl_pickT (by rfl) _ _ _ rfl rfl _ rfl) ?_
        simp only [Act.put, List.setIfInBounds_toArray, List.set_cons_zero, List.set_cons_succ]
        refine wl_yield (o := ⟨_, _, _, _, _, _⟩) (.bool true) (yl_move (by rfl) _ rfl _ rfl) ?_
        simp only [Act.put, List.setIfInBounds_toArray, List.set_cons_zero, List.set_cons_succ]
        refine wl_yield (o := ⟨_, _, _, _, _, _⟩) (evVal evZ) (yl_ev (by rfl) _ rfl _ 0 rfl _ _ _ _ _ _ _ _ _ _ _ _ (fun _ h => by subst h; exact ⟨cell_heap G7 0, cell_heap G7 1, cell_heap G7 2, cell_heap G7 3, cell_heap G7 4, cell_heap G7 5, cell_heap G7 6, cell_heap G7 7, cell_heap G7 8, cell_heap G7 9, cell_heap G7 10, cell_heap G7 11⟩)) ?_
        simp only [Act.put, List.setIfInBounds_toArray, List.set_cons_zero, List.set_cons_succ]
        refine wl_yield (o := ⟨_, _, _, _, _, _⟩) (evVal evZ) (yl_zeroE (by rfl) rfl) ?_
        simp only [Act.put, List.setIfInBounds_toArray, List.set_cons_zero, List.set_cons_succ]
        refine wl_yield (o := ⟨_, _, _, _, _, _⟩) (.bool true) (yt_eqEvZ (by rfl) _ _ _ rfl rfl rfl) ?_
        simp only [Act.put, List.setIfInBounds_toArray, List.set_cons_zero, List.set_cons_succ]
        refine wl_yield (o := ⟨_, _, _, _, _, _⟩) (.bool true) (yl_pickT (by rfl) _ _ _ rfl rfl _ rfl) ?_
        simp only [Act.put, List.setIfInBounds_toArray, List.set_cons_zero, List.set_cons_succ]
        refine wl_yield (o := ⟨_, _, _, _, _, _⟩) (.bool true) (yl_move (by rfl) _ rfl _ rfl) ?_
        simp only [Act.put, List.setIfInBounds_toArray, List.set_cons_zero, List.set_cons_succ]
        refine wl_yield (o := ⟨_, _, _, _, _, _⟩) (.int .i64 0) (yl_move (by rfl) _ rfl _ rfl) ?_
        simp only [Act.put, List.setIfInBounds_toArray, List.set_cons_zero, List.set_cons_succ]
        refine wl_yield (o := ⟨_, _, _, _, _, _⟩) (.bool true) (yt_eqlE (by rfl) _ _ _ rfl 0 0 true rfl rfl (by decide)) ?_
        simp only [Act.put, List.setIfInBounds_toArray, List.set_cons_zero, List.set_cons_succ]
        refine wl_yield (o := ⟨_, _, _, _, _, _⟩) (.bool true) (yl_pickT (by rfl) _ _ _ rfl rfl _ rfl) ?_
        simp only [Act.put, List.setIfInBounds_toArray, List.set_cons_zero, List.set_cons_succ]
        refine wl_yield (o := ⟨_, _, _, _, _, _⟩) (.bool true) (yl_move (by rfl) _ rfl _ rfl) ?_
        simp only [Act.put, List.setIfInBounds_toArray, List.set_cons_zero, List.set_cons_succ]
        refine wt_row1S (o := ⟨_, _, _, _, _, _⟩) (by rfl) _ rfl (bs ([113])) rfl (fun v9 g9 hg G9 kb => ?_)
        have n_g2_g9 : g2 ≠ g9 := by have := lt_heap G2; omega
        have n_g4_g9 : g4 ≠ g9 := by have := lt_heap G4; omega
        have n_g7_g9 : g7 ≠ g9 := by have := lt_heap G7; omega
        have ge_g9 : w.heap.size ≤ g9 := Nat.le_trans D.size hg
        have six_g9 : 6 ≤ g9 := Nat.le_trans w6 ge_g9
        clear hg
        replace D := grown_below D kb
        replace HE := HE.on kb
        replace Pd1 := Pd1.on kb
        replace G2 := heap_on G2 kb
        replace G4 := heap_on G4 kb
        replace G7 := heap_on G7 kb
        clear kb
        simp only [Act.put, List.setIfInBounds_toArray, List.set_cons_zero, List.set_cons_succ]
        refine wl_yield (o := ⟨_, _, _, _, _, _⟩) (.agg #[.bool false, .slice none 0 0, .bool true, .slice (some ⟨g9, 0, none⟩) 1 1]) (yt_buildS2 (by rfl) _ _ rfl true _ _ _ rfl rfl) ?_
        simp only [Act.put, List.setIfInBounds_toArray, List.set_cons_zero, List.set_cons_succ]
        refine wt_call (o := ⟨_, _, _, _, _, _⟩) (by rfl) 11 _ _ rfl #[.agg #[.bool false, .slice none 0 0, .bool true, .slice (some ⟨g9, 0, none⟩) 1 1]] rfl (run_call Tryz.func11 (by kernel_rfl) (by kernel_rfl)) ?_
        refine (setText_any aw3 none (some ⟨g9, 0, none⟩) 0 1 _ HE (ri_nil _) (aw_st G9) aw_ok (by decide) (by decide)).mono ?_
        rintro r v10 ⟨rfl, kb⟩
        replace D := grown_below D kb
        replace HE := HE.on kb
        replace Pd1 := Pd1.on kb
        replace G2 := heap_on G2 kb
        replace G4 := heap_on G4 kb
        replace G7 := heap_on G7 kb
        replace G9 := heap_on G9 kb
        clear kb
        refine Or.inl ⟨.string (bs ([91, 126, 32, 39, 113, 39, 93])), by rw [aw_s], ?_⟩
        simp only [Act.put, List.setIfInBounds_toArray, List.set_cons_zero, List.set_cons_succ]
        refine wl_yield (o := ⟨_, _, _, _, _, _⟩) (.bool true) (yt_eqS (by rfl) _ _ _ rfl ([91, 126, 32, 39, 113, 39, 93]) ([91, 126, 32, 39, 113, 39, 93]) true rfl rfl (by decide)) ?_
        simp only [Act.put, List.setIfInBounds_toArray, List.set_cons_zero, List.set_cons_succ]
        refine wl_yield (o := ⟨_, _, _, _, _, _⟩) (.bool true) (yl_pickT (by rfl) _ _ _ rfl rfl _ rfl) ?_
        simp only [Act.put, List.setIfInBounds_toArray, List.set_cons_zero, List.set_cons_succ]
        refine wl_yield (o := ⟨_, _, _, _, _, _⟩) (.bool true) (yl_assign (by rfl) _ rfl _ rfl) ?_
        simp only [Act.put, List.setIfInBounds_toArray, List.set_cons_zero, List.set_cons_succ]
        refine wpList_nil ?_
        refine hK7 _ _ ?_
        clear hK7 K7
        refine wp_ret ?_
        go_ret
        exact ⟨rfl, below_none D⟩

end Go.Proofs.YtciflobdpenpaaaGreatDoor
/-
  The law TextMeans.
-/
set_option linter.unusedSimpArgs false
set_option linter.unusedVariables false
namespace Go.Proofs.YtciflobdpenpaaaGreatDoor
open Go.RowKit

theorem print_cases {n : Nat} {w : World} {c : EC} {x : ExV} (hx : Xp n w c x) : (printR x = (exTxt 8 x, 0) ∧ rightX x = true ∧ parseP (exTxt 8 x) = some x ∧ (exTxt 8 x).length ≤ 1024) ∨ ∃ z, printR x = ([], z) ∧ ¬ z = 0 ∧ (rightX x = false ∧ z = 1 ∨ rightX x = true ∧ z = 9 ∧ 1024 < (exTxt 8 x).length) := by
  cases hr : rightX x
  · exact Or.inr ⟨1, by unfold printR; rw [hr]; rfl, by decide, Or.inl ⟨rfl, rfl⟩⟩
  · by_cases hl : (exTxt 8 x).length ≤ 1024
    · refine Or.inl ⟨by unfold printR; rw [hr, if_pos rfl, if_pos hl], rfl, ?_, hl⟩
      have h8 := ExAt.shrink n 8 hx (rightX_low hr)
      exact parse_txt hr (okI_okX 8 x (rightX_each hr) (exAt_okI 8 h8)) hl
    · exact Or.inr ⟨9, by unfold printR; rw [hr, if_pos rfl, if_neg hl], by decide, Or.inr ⟨rfl, rfl, by omega⟩⟩
theorem parsed_yes {m : Nat} {W : World} {d : EC} {err : Int} {x : ExV} (hy : parseP (exTxt 8 x) = some x) (hl : (exTxt 8 x).length ≤ 1024) (h : ParsedT m W (exTxt 8 x) d err) : err = 0 ∧ Xp 1033 W d x := by
  unfold ParsedT at h
  rw [if_neg (by omega)] at h
  unfold Parsed at h
  rw [hy] at h
  exact ⟨h.1, ExAt.more _ _ (by omega) (h.2 _ (Kept.refl _ _))⟩
section
variable {ops : Array Oper} {S : World → Prop} {o : Oper} {a : Act}
theorem yt_eqBr (hw : Region.wanted o (yielded ops a.tmps) = true) (x y : Operand) (t : TypeId) (ho : o.op = .binOp .eql 4 x y t) (p q r : Bool) (hx : a.eval x = .bool p) (hy : a.eval y = .bool q) (hr : (p == q) = r) : YieldsIf Tryz.prog ops S o (.bool r) a := by
  subst hr
  exact yl_eqB hw x y t ho p q hx hy
end
set_option maxHeartbeats 1000000 in
set_option maxRecDepth 100000 in
theorem textMeans_walk (n : Nat) (c : EC) (x : ExV) (e : EvV) (w : World) (HE : Env w) (HX : Xp n w c x) (hf : evFit e) :
    Calls Tryz.prog 6 #[c.val, evVal e] w fun r w' => r = .returned (.bool true) ∧ Below w.heap.size w w' := by
  have w6 : 6 ≤ w.heap.size := HE.big
  have D : w.grownBy w none := grown_refl _ _
  go_enter Tryz.func6, Tryz.ntmps6
  refine wp_seq_k (fun K1 hK1 => ?_)
  refine wp_region_lit ?_
  refine wt_boxEx (o := ⟨_, _, _, _, _, _⟩) (by rfl) _ rfl (c) rfl (fun v1 g1 hg G1 kb => ?_)
  simp only [Act.put, List.setIfInBounds_toArray, List.set_cons_zero, List.set_cons_succ]
  have ge_g1 : w.heap.size ≤ g1 := Nat.le_trans D.size hg
  have six_g1 : 6 ≤ g1 := Nat.le_trans w6 ge_g1
  clear hg
  replace D := grown_below D kb
  replace HE := HE.on kb
  replace HX := HX.on kb
  clear kb
  replace G1 : v1.heap[g1]? = some (.cells #[.int .i64 (c.k), .int .i64 (c.t), .bool (c.s.a), .slice c.s.p c.s.n c.s.c, .bool (c.s.d), .slice c.s.q c.s.m c.s.e, .slice c.p c.n c.c] 28 (0, 0)) := G1
  refine wt_boxEv (o := ⟨_, _, _, _, _, _⟩) (by rfl) _ rfl (e) rfl (fun v2 g2 hg G2 kb => ?_)
  simp only [Act.put, List.setIfInBounds_toArray, List.set_cons_zero, List.set_cons_succ]
  have n_g1_g2 : g1 ≠ g2 := by have := lt_heap G1; omega
  have ge_g2 : w.heap.size ≤ g2 := Nat.le_trans D.size hg
  have six_g2 : 6 ≤ g2 := Nat.le_trans w6 ge_g2
  clear hg
  replace D := grown_below D kb
  replace HE := HE.on kb
  replace HX := HX.on kb
  replace G1 := heap_on G1 kb
  clear kb
  replace G2 : v2.heap[g2]? = some (.cells #[.int .i64 (e.v0.1), .int .i64 (e.v0.2.1), .string e.v0.2.2, .int .i64 (e.v1.1), .int .i64 (e.v1.2.1), .string e.v1.2.2, .int .i64 (e.v2.1), .int .i64 (e.v2.2.1), .string e.v2.2.2, .int .i64 (e.v3.1), .int .i64 (e.v3.2.1), .string e.v3.2.2] 46 (0, 0)) := G2
  refine wl_yield (o := ⟨_, _, _, _, _, _⟩) (.bool false) (yl_assign (by rfl) _ rfl _ rfl) ?_
  simp only [Act.put, List.setIfInBounds_toArray, List.set_cons_zero, List.set_cons_succ]
  refine wpList_nil ?_
  refine hK1 _ _ ?_
  clear hK1 K1
  refine wp_seq_k (fun K2 hK2 => ?_)
  refine wp_seq_k (fun K3 hK3 => ?_)
  refine wp_region_lit ?_
  refine wt_call (o := ⟨_, _, _, _, _, _⟩) (by rfl) 8 _ _ rfl #[] rfl (run_call Tryz.func8 (by kernel_rfl) (by kernel_rfl)) ?_
  refine (awake7_any _ HE).mono ?_
  rintro r v3 ⟨rfl, kb⟩
  replace D := grown_below D kb
  replace HE := HE.on kb
  replace HX := HX.on kb
  replace G1 := heap_on G1 kb
  replace G2 := heap_on G2 kb
  clear kb
  refine Or.inl ⟨.bool true, rfl, ?_⟩
  simp only [Act.put, List.setIfInBounds_toArray, List.set_cons_zero, List.set_cons_succ]
  refine wl_yield (o := ⟨_, _, _, _, _, _⟩) (.bool false) (yl_not (by rfl) _ _ rfl true rfl) ?_
  simp only [Act.put, List.setIfInBounds_toArray, List.set_cons_zero, List.set_cons_succ]
  refine wl_yield (o := ⟨_, _, _, _, _, _⟩) (.bool false) (yl_move (by rfl) _ rfl _ rfl) ?_
  simp only [Act.put, List.setIfInBounds_toArray, List.set_cons_zero, List.set_cons_succ]
  refine wl_yield (o := ⟨_, _, _, _, _, _⟩) (EC.val c) (yl_ex (by rfl) _ rfl _ 0 rfl (c := ⟨c.k, c.t, ⟨c.s.a, c.s.p, c.s.n, c.s.c, c.s.d, c.s.q, c.s.m, c.s.e⟩, c.p, c.n, c.c⟩) (fun _ h => by subst h; exact ⟨cell_heap G1 0, cell_heap G1 1, cell_heap G1 2, cell_heap G1 3, cell_heap G1 4, cell_heap G1 5, cell_heap G1 6⟩)) ?_
  simp only [Act.put, List.setIfInBounds_toArray, List.set_cons_zero, List.set_cons_succ]
  cases hFx : fewX n x
  · refine wt_call (o := ⟨_, _, _, _, _, _⟩) (by rfl) 9 _ _ rfl #[EC.val c] rfl (run_call Tryz.func9 (by kernel_rfl) (by kernel_rfl)) ?_
    refine (c_refFew HX).mono ?_
    rintro r v4 ⟨rfl, kb⟩
    replace D := grown_below D kb
    replace HE := HE.on kb
    replace HX := HX.on kb
    replace G1 := heap_on G1 kb
    replace G2 := heap_on G2 kb
    clear kb
    refine Or.inl ⟨.bool false, by rw [hFx], ?_⟩
    simp only [Act.put, List.setIfInBounds_toArray, List.set_cons_zero, List.set_cons_succ]
    refine wl_yield (o := ⟨_, _, _, _, _, _⟩) (.bool true) (yl_not (by rfl) _ _ rfl false rfl) ?_
    simp only [Act.put, List.setIfInBounds_toArray, List.set_cons_zero, List.set_cons_succ]
    refine wl_yield (o := ⟨_, _, _, _, _, _⟩) (.bool true) (yl_pickF (by rfl) _ _ _ rfl rfl _ rfl) ?_
    simp only [Act.put, List.setIfInBounds_toArray, List.set_cons_zero, List.set_cons_succ]
    refine wpList_nil ?_
    refine hK3 _ _ ?_
    clear hK3 K3
    refine wp_cond_true rfl ?_
    refine wp_seq_k (fun K4 hK4 => ?_)
    refine wp_region_lit ?_
    refine wt_call (o := ⟨_, _, _, _, _, _⟩) (by rfl) 8 _ _ rfl #[] rfl (run_call Tryz.func8 (by kernel_rfl) (by kernel_rfl)) ?_
    refine (awake7_any _ HE).mono ?_
    rintro r v5 ⟨rfl, kb⟩
    replace D := grown_below D kb
    replace HE := HE.on kb
    replace HX := HX.on kb
    replace G1 := heap_on G1 kb
    replace G2 := heap_on G2 kb
    clear kb
    refine Or.inl ⟨.bool true, rfl, ?_⟩
    simp only [Act.put, List.setIfInBounds_toArray, List.set_cons_zero, List.set_cons_succ]
    refine wl_yield (o := ⟨_, _, _, _, _, _⟩) (.bool true) (yl_assign (by rfl) _ rfl _ rfl) ?_
    simp only [Act.put, List.setIfInBounds_toArray, List.set_cons_zero, List.set_cons_succ]
    refine wpList_nil ?_
    refine hK4 _ _ ?_
    clear hK4 K4
    refine wp_ret ?_
    go_ret
    exact ⟨rfl, below_none D⟩
  · refine wt_call (o := ⟨_, _, _, _, _, _⟩) (by rfl) 9 _ _ rfl #[EC.val c] rfl (run_call Tryz.func9 (by kernel_rfl) (by kernel_rfl)) ?_
    refine (c_refFew HX).mono ?_
    rintro r v4 ⟨rfl, kb⟩
    replace D := grown_below D kb
    replace HE := HE.on kb
    replace HX := HX.on kb
    replace G1 := heap_on G1 kb
    replace G2 := heap_on G2 kb
    clear kb
    replace HX : Xp 19 _ _ _ := ExAt.shrink _ 19 HX (few_low hFx)
    refine Or.inl ⟨.bool true, by rw [hFx], ?_⟩
    simp only [Act.put, List.setIfInBounds_toArray, List.set_cons_zero, List.set_cons_succ]
    refine wl_yield (o := ⟨_, _, _, _, _, _⟩) (.bool false) (yl_not (by rfl) _ _ rfl true rfl) ?_
    simp only [Act.put, List.setIfInBounds_toArray, List.set_cons_zero, List.set_cons_succ]
    refine wl_yield (o := ⟨_, _, _, _, _, _⟩) (.bool false) (yl_pickF (by rfl) _ _ _ rfl rfl _ rfl) ?_
    simp only [Act.put, List.setIfInBounds_toArray, List.set_cons_zero, List.set_cons_succ]
    refine wpList_nil ?_
    refine hK3 _ _ ?_
    clear hK3 K3
    refine wp_cond_false rfl ?_
    refine wp_skip ?_
    refine hK2 _ _ ?_
    clear hK2 K2
    refine wp_seq_k (fun K4 hK4 => ?_)
    refine wp_region_lit ?_
    refine wl_yield (o := ⟨_, _, _, _, _, _⟩) (EC.val c) (yl_ex (by rfl) _ rfl _ 0 rfl (c := ⟨c.k, c.t, ⟨c.s.a, c.s.p, c.s.n, c.s.c, c.s.d, c.s.q, c.s.m, c.s.e⟩, c.p, c.n, c.c⟩) (fun _ h => by subst h; exact ⟨cell_heap G1 0, cell_heap G1 1, cell_heap G1 2, cell_heap G1 3, cell_heap G1 4, cell_heap G1 5, cell_heap G1 6⟩)) ?_
    simp only [Act.put, List.setIfInBounds_toArray, List.set_cons_zero, List.set_cons_succ]
    rcases print_cases HX with ⟨hq, hr, hy, hl⟩ | ⟨z, hq, hz, hw⟩
    · refine wt_call (o := ⟨_, _, _, _, _, _⟩) (by rfl) 13 _ _ rfl #[EC.val c] rfl (run_call Tryz.func13 (by kernel_rfl) (by kernel_rfl)) ?_
      refine (print_any 19 c x _ HE HX (by omega)).mono ?_
      rintro r v5 ⟨rfl, kb⟩
      replace D := grown_below D kb
      replace HE := HE.on kb
      replace HX := HX.on kb
      replace G1 := heap_on G1 kb
      replace G2 := heap_on G2 kb
      clear kb
      refine Or.inl ⟨.tuple #[.string (bs (exTxt 8 x)), .int .i64 0], by rw [hq], ?_⟩
      simp only [Act.put, List.setIfInBounds_toArray, List.set_cons_zero, List.set_cons_succ]
      refine wl_yield (o := ⟨_, _, _, _, _, _⟩) (.tuple #[.string (bs (exTxt 8 x)), .int .i64 0]) (yl_move (by rfl) _ rfl _ rfl) ?_
      simp only [Act.put, List.setIfInBounds_toArray, List.set_cons_zero, List.set_cons_succ]
      refine wl_yield (o := ⟨_, _, _, _, _, _⟩) (.string (bs (exTxt 8 x))) (yl_extract0 (by rfl) _ rfl _ _ rfl) ?_
      simp only [Act.put, List.setIfInBounds_toArray, List.set_cons_zero, List.set_cons_succ]
      refine wl_yield (o := ⟨_, _, _, _, _, _⟩) (.int .i64 0) (yl_extract1 (by rfl) _ rfl _ _ rfl) ?_
      simp only [Act.put, List.setIfInBounds_toArray, List.set_cons_zero, List.set_cons_succ]
      refine wl_yield (o := ⟨_, _, _, _, _, _⟩) (.string (bs (exTxt 8 x))) (yl_assign (by rfl) _ rfl _ rfl) ?_
      simp only [Act.put, List.setIfInBounds_toArray, List.set_cons_zero, List.set_cons_succ]
      refine wl_yield (o := ⟨_, _, _, _, _, _⟩) (.int .i64 0) (yl_assign (by rfl) _ rfl _ rfl) ?_
      simp only [Act.put, List.setIfInBounds_toArray, List.set_cons_zero, List.set_cons_succ]
      refine wpList_nil ?_
      refine hK4 _ _ ?_
      clear hK4 K4
      refine wp_seq_k (fun K5 hK5 => ?_)
      refine wp_seq_k (fun K6 hK6 => ?_)
      refine wp_region_lit ?_
      refine wl_yield (o := ⟨_, _, _, _, _, _⟩) (.int .i64 0) (yl_move (by rfl) _ rfl _ rfl) ?_
      simp only [Act.put, List.setIfInBounds_toArray, List.set_cons_zero, List.set_cons_succ]
      refine wl_yield (o := ⟨_, _, _, _, _, _⟩) (.bool false) (yt_neqE (by rfl) _ _ _ rfl 0 0 false rfl rfl (by decide)) ?_
      simp only [Act.put, List.setIfInBounds_toArray, List.set_cons_zero, List.set_cons_succ]
      refine wpList_nil ?_
      refine hK6 _ _ ?_
      clear hK6 K6
      refine wp_cond_false rfl ?_
      refine wp_skip ?_
      refine hK5 _ _ ?_
      clear hK5 K5
      refine wp_seq_k (fun K7 hK7 => ?_)
      refine wp_region_lit ?_
      refine wl_yield (o := ⟨_, _, _, _, _, _⟩) (.string (bs (exTxt 8 x))) (yl_move (by rfl) _ rfl _ rfl) ?_
      simp only [Act.put, List.setIfInBounds_toArray, List.set_cons_zero, List.set_cons_succ]
      refine wt_call (o := ⟨_, _, _, _, _, _⟩) (by rfl) 16 _ _ rfl #[.string (bs (exTxt 8 x))] rfl (run_call Tryz.func16 (by kernel_rfl) (by kernel_rfl)) ?_
      refine (parse_any (exTxt 8 x) _ HE (by omega)).mono ?_
      rintro r v6 (⟨⟨d, err, rfl, PA⟩, kb⟩)
      · obtain ⟨rfl, PX⟩ := parsed_yes hy hl PA
        clear PA
        replace D := grown_below D kb
        replace HE := HE.on kb
        replace HX := HX.on kb
        replace G1 := heap_on G1 kb
        replace G2 := heap_on G2 kb
        clear kb
        refine Or.inl ⟨.tuple #[EC.val d, .int .i64 0], rfl, ?_⟩
        simp only [Act.put, List.setIfInBounds_toArray, List.set_cons_zero, List.set_cons_succ]
        refine wl_yield (o := ⟨_, _, _, _, _, _⟩) (.tuple #[EC.val d, .int .i64 0]) (yl_move (by rfl) _ rfl _ rfl) ?_
        simp only [Act.put, List.setIfInBounds_toArray, List.set_cons_zero, List.set_cons_succ]
        refine wl_yield (o := ⟨_, _, _, _, _, _⟩) (EC.val d) (yl_extract0 (by rfl) _ rfl _ _ rfl) ?_
        simp only [Act.put, List.setIfInBounds_toArray, List.set_cons_zero, List.set_cons_succ]
        refine wl_yield (o := ⟨_, _, _, _, _, _⟩) (.int .i64 0) (yl_extract1 (by rfl) _ rfl _ _ rfl) ?_
        simp only [Act.put, List.setIfInBounds_toArray, List.set_cons_zero, List.set_cons_succ]
        refine wl_newEx (o := ⟨_, _, _, _, _, _⟩) (o2 := ⟨_, _, _, _, _, _⟩) (by rfl) rfl _ _ rfl rfl (fun _ => rfl) (c := d) (fun _ => rfl) (fun v7 g7 G7 kb => ?_)
        simp only [Act.put, List.setIfInBounds_toArray, List.set_cons_zero, List.set_cons_succ]
        replace D := grown_below D kb
        replace HE := HE.on kb
        replace HX := HX.on kb
        replace G1 := heap_on G1 kb
        replace G2 := heap_on G2 kb
        replace PX := PX.on kb
        clear kb
        replace G7 : v7.heap[g7]? = some (.cells #[.int .i64 (d.k), .int .i64 (d.t), .bool (d.s.a), .slice d.s.p d.s.n d.s.c, .bool (d.s.d), .slice d.s.q d.s.m d.s.e, .slice d.p d.n d.c] 28 (0, 0)) := G7
        refine wl_yield (o := ⟨_, _, _, _, _, _⟩) (.int .i64 0) (yl_assign (by rfl) _ rfl _ rfl) ?_
        simp only [Act.put, List.setIfInBounds_toArray, List.set_cons_zero, List.set_cons_succ]
        refine wpList_nil ?_
        refine hK7 _ _ ?_
        clear hK7 K7
        refine wp_seq_k (fun K8 hK8 => ?_)
        refine wp_region_late (S := fun w' => w'.heap[g1]? = some (.cells #[.int .i64 (c.k), .int .i64 (c.t), .bool (c.s.a), .slice c.s.p c.s.n c.s.c, .bool (c.s.d), .slice c.s.q c.s.m c.s.e, .slice c.p c.n c.c] 28 (0, 0)) ∧ w'.heap[g2]? = some (.cells #[.int .i64 (e.v0.1), .int .i64 (e.v0.2.1), .string e.v0.2.2, .int .i64 (e.v1.1), .int .i64 (e.v1.2.1), .string e.v1.2.2, .int .i64 (e.v2.1), .int .i64 (e.v2.2.1), .string e.v2.2.2, .int .i64 (e.v3.1), .int .i64 (e.v3.2.1), .string e.v3.2.2] 46 (0, 0)) ∧ w'.heap[g7]? = some (.cells #[.int .i64 (d.k), .int .i64 (d.t), .bool (d.s.a), .slice d.s.p d.s.n d.s.c, .bool (d.s.d), .slice d.s.q d.s.m d.s.e, .slice d.p d.n d.c] 28 (0, 0))) (late := fun j => [].contains j) (by kernel_rfl) ?_
        have kb : Below v7.heap.size v7 v7.drew := (Below.refl _ v7).drew
        replace D := grown_below D kb
        replace HE := HE.on kb
        replace HX := HX.on kb
        replace G1 := heap_on G1 kb
        replace G2 := heap_on G2 kb
        replace PX := PX.on kb
        replace G7 := heap_on G7 kb
        clear kb
        generalize v7.drew = v8 at D HE HX G1 G2 PX G7 ⊢
        refine wpAnyL_pure (i := 0) (oi := ⟨_, _, _, _, _, _⟩) (v := .int .i64 0) rfl (by kernel_rfl) (by kernel_rfl) (by kernel_rfl) (fun _ _ _ h => h) (yl_move (by rfl) _ rfl _ rfl) ?_
        simp only [Act.put, List.setIfInBounds_toArray, List.set_cons_zero, List.set_cons_succ]
        refine wpAnyL_pure (i := 1) (oi := ⟨_, _, _, _, _, _⟩) (v := .bool true) rfl (by kernel_rfl) (by kernel_rfl) (by kernel_rfl) (fun _ _ _ h => h) (yt_eqlE (by rfl) _ _ _ rfl 0 0 true rfl rfl (by decide)) ?_
        simp only [Act.put, List.setIfInBounds_toArray, List.set_cons_zero, List.set_cons_succ]
        refine wpAnyL_pure (i := 2) (oi := ⟨_, _, _, _, _, _⟩) (v := .bool true) rfl (by kernel_rfl) (by kernel_rfl) (by kernel_rfl) (fun _ _ _ h => h) (yl_move (by rfl) _ rfl _ rfl) ?_
        simp only [Act.put, List.setIfInBounds_toArray, List.set_cons_zero, List.set_cons_succ]
        refine wpAnyL_load (i := 3) (oi := ⟨_, _, _, _, _, _⟩) (v := EC.val d) rfl (by kernel_rfl) (by kernel_rfl) (by kernel_rfl) (by kernel_rfl) (fun _ _ _ h => h) (yl_ex (by rfl) _ rfl _ 0 rfl (c := ⟨d.k, d.t, ⟨d.s.a, d.s.p, d.s.n, d.s.c, d.s.d, d.s.q, d.s.m, d.s.e⟩, d.p, d.n, d.c⟩) (fun _ h => ⟨cell_heap h.2.2 0, cell_heap h.2.2 1, cell_heap h.2.2 2, cell_heap h.2.2 3, cell_heap h.2.2 4, cell_heap h.2.2 5, cell_heap h.2.2 6⟩)) ⟨G1, G2, G7⟩ ?_
        simp only [Act.put, List.setIfInBounds_toArray, List.set_cons_zero, List.set_cons_succ]
        refine wpAnyL_load (i := 4) (oi := ⟨_, _, _, _, _, _⟩) (v := evVal e) rfl (by kernel_rfl) (by kernel_rfl) (by kernel_rfl) (by kernel_rfl) (fun _ _ _ h => h) (yl_ev (by rfl) _ rfl _ 0 rfl _ _ _ _ _ _ _ _ _ _ _ _ (fun _ h => ⟨cell_heap h.2.1 0, cell_heap h.2.1 1, cell_heap h.2.1 2, cell_heap h.2.1 3, cell_heap h.2.1 4, cell_heap h.2.1 5, cell_heap h.2.1 6, cell_heap h.2.1 7, cell_heap h.2.1 8, cell_heap h.2.1 9, cell_heap h.2.1 10, cell_heap h.2.1 11⟩)) ⟨G1, G2, G7⟩ ?_
        simp only [Act.put, List.setIfInBounds_toArray, List.set_cons_zero, List.set_cons_succ]
        refine wpAnyL_load (i := 6) (oi := ⟨_, _, _, _, _, _⟩) (v := EC.val c) rfl (by kernel_rfl) (by kernel_rfl) (by kernel_rfl) (by kernel_rfl) (fun _ _ _ h => h) (yl_ex (by rfl) _ rfl _ 0 rfl (c := ⟨c.k, c.t, ⟨c.s.a, c.s.p, c.s.n, c.s.c, c.s.d, c.s.q, c.s.m, c.s.e⟩, c.p, c.n, c.c⟩) (fun _ h => ⟨cell_heap h.1 0, cell_heap h.1 1, cell_heap h.1 2, cell_heap h.1 3, cell_heap h.1 4, cell_heap h.1 5, cell_heap h.1 6⟩)) ⟨G1, G2, G7⟩ ?_
        simp only [Act.put, List.setIfInBounds_toArray, List.set_cons_zero, List.set_cons_succ]
        refine wpAnyL_load (i := 7) (oi := ⟨_, _, _, _, _, _⟩) (v := evVal e) rfl (by kernel_rfl) (by kernel_rfl) (by kernel_rfl) (by kernel_rfl) (fun _ _ _ h => h) (yl_ev (by rfl) _ rfl _ 0 rfl _ _ _ _ _ _ _ _ _ _ _ _ (fun _ h => ⟨cell_heap h.2.1 0, cell_heap h.2.1 1, cell_heap h.2.1 2, cell_heap h.2.1 3, cell_heap h.2.1 4, cell_heap h.2.1 5, cell_heap h.2.1 6, cell_heap h.2.1 7, cell_heap h.2.1 8, cell_heap h.2.1 9, cell_heap h.2.1 10, cell_heap h.2.1 11⟩)) ⟨G1, G2, G7⟩ ?_
        simp only [Act.put, List.setIfInBounds_toArray, List.set_cons_zero, List.set_cons_succ]
        refine wpAnyL_all (rs := [5]) (by kernel_rfl) (by simp) ?_
        intro j hj
        have hj := List.mem_singleton.1 hj
        subst hj
        refine ot_call (o := ⟨_, _, _, _, _, _⟩) rfl (by rfl) 24 _ _ rfl #[EC.val d, evVal e] rfl (run_call Tryz.func24 (by kernel_rfl) (by kernel_rfl)) ?_
        refine (c_eval PX (by omega) hf).mono ?_
        rintro r v9 (⟨rfl, kb⟩)
        replace D := grown_below D kb
        replace HE := HE.on kb
        replace HX := HX.on kb
        replace G1 := heap_on G1 kb
        replace G2 := heap_on G2 kb
        replace PX := PX.on kb
        replace G7 := heap_on G7 kb
        clear kb
        refine Or.inl ⟨.bool (evalX x e), rfl, ⟨fun _ _ => ⟨G1, G2, G7⟩, ?_⟩⟩
        simp only [Act.put, List.setIfInBounds_toArray, List.set_cons_zero, List.set_cons_succ]
        refine wpAnyL_all (rs := [8]) (by kernel_rfl) (by simp) ?_
        intro j hj
        have hj := List.mem_singleton.1 hj
        subst hj
        refine ot_call (o := ⟨_, _, _, _, _, _⟩) rfl (by rfl) 25 _ _ rfl #[EC.val c, evVal e] rfl (run_call Tryz.func25 (by kernel_rfl) (by kernel_rfl)) ?_
        refine (c_refEval HX hf).mono ?_
        rintro r v10 (⟨rfl, kb⟩)
        replace D := grown_below D kb
        replace HE := HE.on kb
        replace HX := HX.on kb
        replace G1 := heap_on G1 kb
        replace G2 := heap_on G2 kb
        replace PX := PX.on kb
        replace G7 := heap_on G7 kb
        clear kb
        refine Or.inl ⟨.bool (evalX x e), rfl, ⟨fun _ _ => ⟨G1, G2, G7⟩, ?_⟩⟩
        simp only [Act.put, List.setIfInBounds_toArray, List.set_cons_zero, List.set_cons_succ]
        refine wpAnyL_pure (i := 9) (oi := ⟨_, _, _, _, _, _⟩) (v := .bool true) rfl (by kernel_rfl) (by kernel_rfl) (by kernel_rfl) (fun _ _ _ h => h) (yt_eqBr (by rfl) _ _ _ rfl (evalX x e) (evalX x e) true rfl rfl (by simp)) ?_
        simp only [Act.put, List.setIfInBounds_toArray, List.set_cons_zero, List.set_cons_succ]
        refine wpAnyL_pure (i := 10) (oi := ⟨_, _, _, _, _, _⟩) (v := .bool true) rfl (by kernel_rfl) (by kernel_rfl) (by kernel_rfl) (fun _ _ _ h => h) (yl_pickT (by rfl) _ _ _ rfl rfl _ rfl) ?_
        simp only [Act.put, List.setIfInBounds_toArray, List.set_cons_zero, List.set_cons_succ]
        refine wpAnyL_pure (i := 11) (oi := ⟨_, _, _, _, _, _⟩) (v := .bool true) rfl (by kernel_rfl) (by kernel_rfl) (by kernel_rfl) (fun _ _ _ h => h) (yl_assign (by rfl) _ rfl _ rfl) ?_
        simp only [Act.put, List.setIfInBounds_toArray, List.set_cons_zero, List.set_cons_succ]
        refine wpAnyL_done (by kernel_rfl) ?_ _
        refine hK8 _ _ ?_
        clear hK8 K8
        refine wp_ret ?_
        go_ret
        exact ⟨rfl, below_none D⟩
    · refine wt_call (o := ⟨_, _, _, _, _, _⟩) (by rfl) 13 _ _ rfl #[EC.val c] rfl (run_call Tryz.func13 (by kernel_rfl) (by kernel_rfl)) ?_
      refine (print_any 19 c x _ HE HX (by omega)).mono ?_
      rintro r v5 ⟨rfl, kb⟩
      replace D := grown_below D kb
      replace HE := HE.on kb
      replace HX := HX.on kb
      replace G1 := heap_on G1 kb
      replace G2 := heap_on G2 kb
      clear kb
      refine Or.inl ⟨.tuple #[.string (bs ([])), .int .i64 z], by rw [hq], ?_⟩
      simp only [Act.put, List.setIfInBounds_toArray, List.set_cons_zero, List.set_cons_succ]
      refine wl_yield (o := ⟨_, _, _, _, _, _⟩) (.tuple #[.string (bs ([])), .int .i64 z]) (yl_move (by rfl) _ rfl _ rfl) ?_
      simp only [Act.put, List.setIfInBounds_toArray, List.set_cons_zero, List.set_cons_succ]
      refine wl_yield (o := ⟨_, _, _, _, _, _⟩) (.string (bs ([]))) (yl_extract0 (by rfl) _ rfl _ _ rfl) ?_
      simp only [Act.put, List.setIfInBounds_toArray, List.set_cons_zero, List.set_cons_succ]
      refine wl_yield (o := ⟨_, _, _, _, _, _⟩) (.int .i64 z) (yl_extract1 (by rfl) _ rfl _ _ rfl) ?_
      simp only [Act.put, List.setIfInBounds_toArray, List.set_cons_zero, List.set_cons_succ]
      refine wl_yield (o := ⟨_, _, _, _, _, _⟩) (.string (bs ([]))) (yl_assign (by rfl) _ rfl _ rfl) ?_
      simp only [Act.put, List.setIfInBounds_toArray, List.set_cons_zero, List.set_cons_succ]
      refine wl_yield (o := ⟨_, _, _, _, _, _⟩) (.int .i64 z) (yl_assign (by rfl) _ rfl _ rfl) ?_
      simp only [Act.put, List.setIfInBounds_toArray, List.set_cons_zero, List.set_cons_succ]
      refine wpList_nil ?_
      refine hK4 _ _ ?_
      clear hK4 K4
      refine wp_seq_k (fun K5 hK5 => ?_)
      refine wp_seq_k (fun K6 hK6 => ?_)
      refine wp_region_lit ?_
      refine wl_yield (o := ⟨_, _, _, _, _, _⟩) (.int .i64 z) (yl_move (by rfl) _ rfl _ rfl) ?_
      simp only [Act.put, List.setIfInBounds_toArray, List.set_cons_zero, List.set_cons_succ]
      refine wl_yield (o := ⟨_, _, _, _, _, _⟩) (.bool true) (yt_neqE (by rfl) _ _ _ rfl z 0 true rfl rfl (decide_eq_true hz)) ?_
      simp only [Act.put, List.setIfInBounds_toArray, List.set_cons_zero, List.set_cons_succ]
      refine wpList_nil ?_
      refine hK6 _ _ ?_
      clear hK6 K6
      refine wp_cond_true rfl ?_
      refine wp_seq_k (fun K7 hK7 => ?_)
      refine wp_region_lit ?_
      refine wl_yield (o := ⟨_, _, _, _, _, _⟩) (.string (bs ([]))) (yl_move (by rfl) _ rfl _ rfl) ?_
      simp only [Act.put, List.setIfInBounds_toArray, List.set_cons_zero, List.set_cons_succ]
      refine wl_yield (o := ⟨_, _, _, _, _, _⟩) (.bool true) (yt_eqS (by rfl) _ _ _ rfl ([]) ([]) true rfl rfl (by decide)) ?_
      simp only [Act.put, List.setIfInBounds_toArray, List.set_cons_zero, List.set_cons_succ]
      refine wl_yield (o := ⟨_, _, _, _, _, _⟩) (.bool true) (yl_assign (by rfl) _ rfl _ rfl) ?_
      simp only [Act.put, List.setIfInBounds_toArray, List.set_cons_zero, List.set_cons_succ]
      refine wpList_nil ?_
      refine hK7 _ _ ?_
      clear hK7 K7
      refine wp_ret ?_
      go_ret
      exact ⟨rfl, below_none D⟩

end Go.Proofs.YtciflobdpenpaaaGreatDoor
