/-
  The law's awake.
-/
import Derived.Test.YtciflobdpenpaaaGreatDoorR0
import Derived.DeepKeys
import Derived.Test.YtciflobdpenpaaaGreatDoorQ6
import Derived.Test.YtciflobdpenpaaaGreatDoorQ3
import Derived.Test.YtciflobdpenpaaaGreatDoorQ1
import Derived.Test.YtciflobdpenpaaaGreatDoorQ4
set_option linter.unusedSimpArgs false
set_option linter.unusedVariables false
namespace Go.Proofs.YtciflobdpenpaaaGreatDoor
open Go.RowKit

theorem aw_eqz (w : World) : (Op.equalIn 10000 46 (evVal evZ) (evVal evZ)).run Tryz.prog w = .ok true w := by
  have hs : (Tryz.prog.keyLits 5 46 (evVal evZ).cells.toList).isSome = true := by kernel_rfl
  obtain ⟨la, h⟩ := Option.isSome_iff_exists.1 hs
  obtain ⟨r, hr, hi⟩ := run_equalIn_deep (P := Tryz.prog) 9997 3 46 (by kernel_rfl) w 5 5 (evVal evZ) (evVal evZ) la la (by kernel_rfl) (by kernel_rfl) h h
  rw [hi.2 rfl] at hr
  exact hr
def aw1 : ExV := ⟨2, 0, noSet, [⟨1, 0, ⟨false, [(1, 5)], false, [bs [120]]⟩, []⟩, ⟨4, 0, noSet, [⟨1, 1, ⟨true, [], false, []⟩, []⟩]⟩]⟩
def aw2 : EvV := ⟨(1, 1, ⟨#[]⟩), (0, 0, ⟨#[]⟩), (2, 0, bs [120]), (0, 0, ⟨#[]⟩)⟩
def aw3 : SetV := ⟨false, [], true, [bs [113]]⟩
theorem aw_p1 : parseP [38, 40, 97, 58, 91, 49, 46, 46, 53, 32, 39, 120, 39, 93, 32, 33, 98, 58, 91, 45, 93, 41] = some aw1 := by kernel_rfl
theorem aw_p2 : parseP [38, 40, 97, 58, 91, 53, 46, 46, 49, 93, 41] = none := by kernel_rfl
theorem aw_e : parseE [123, 125] = some evZ := by kernel_rfl
theorem aw_r : evR aw2 = ([123, 97, 61, 49, 32, 99, 61, 39, 120, 39, 125], 0) := by kernel_rfl
theorem aw_s : setTxt aw3 = [91, 126, 32, 39, 113, 39, 93] := by kernel_rfl
theorem aw_z1 : (sizeA aw1).1 = 4 := by kernel_rfl
theorem aw_z2 : (sizeA aw1).2 = 3 := by kernel_rfl
theorem aw_y1 {m : Nat} {W : World} {d : EC} {err : Int} (h : ParsedT m W [38, 40, 97, 58, 91, 49, 46, 46, 53, 32, 39, 120, 39, 93, 32, 33, 98, 58, 91, 45, 93, 41] d err) : err = 0 ∧ Xp 31 W d aw1 := by
  unfold ParsedT at h
  rw [if_neg (by decide)] at h
  unfold Parsed at h
  rw [aw_p1] at h
  exact ⟨h.1, h.2 _ (Kept.refl _ _)⟩
theorem aw_y2 {m : Nat} {W : World} {d : EC} {err : Int} (h : ParsedT m W [38, 40, 97, 58, 91, 53, 46, 46, 49, 93, 41] d err) : err = 2 ∧ d = ec0 := by
  unfold ParsedT at h
  rw [if_neg (by decide)] at h
  unfold Parsed at h
  rw [aw_p2] at h
  exact h
theorem aw_fit : evFit aw2 := ⟨by decide, by decide, by decide, by decide⟩
theorem aw_in : inE aw2 := fun i hi => by match i, hi with | 0, _ => decide | 1, _ => decide | 2, _ => decide | 3, _ => decide
theorem aw_ok : okB aw3 := by
  refine ⟨fun r h => ?_, fun s h => ?_⟩
  · cases h
  · rcases List.mem_cons.1 h with rfl | h
    · decide
    · cases h
theorem aw_st {w : World} {g : Nat} (h : w.heap[g]? = some (.cells #[.string (bs [113])] 9 (0, 0))) : StrsAt w (.slice (some ⟨g, 0, none⟩) 1 1) [bs [113]] := by
  refine ⟨fun s hs => ?_, by decide, some ⟨g, 0, none⟩, 0, rfl, fun i hi => ?_⟩
  · rcases List.mem_cons.1 hs with rfl | hs
    · decide
    · cases hs
  · refine ⟨g, 0, rfl, lt_heap h, ?_⟩
    have : i = 0 := by simp at hi; omega
    subst this
    exact cell_heap h 0
theorem ri_nil (w : World) : RngsAt w (.slice none 0 0) [] := ⟨(fun r h => by cases h), by decide, none, 0, rfl, (fun i hi => by cases hi)⟩
section
variable {ops : Array Oper} {S : World → Prop} {o : Oper} {a : Act}
set_option maxRecDepth 100000 in
theorem yt_buildV3 (hw : Region.wanted o (yielded ops a.tmps) = true) (x y : Operand) (ho : o.op = .build 44 #[(0, x), (2, y)]) (k : Int) (s : ByteArray) (hx : a.eval x = .int .i64 k) (hy : a.eval y = .string s) : YieldsIf Tryz.prog ops S o (vVal (k, 0, s)) a :=
  Or.inl ⟨hw, fun w _ => by
    simp only [execOp, ho, List.map_toArray, List.map_cons, List.map_nil, hx, hy, vVal]
    go_simp⟩
set_option maxRecDepth 100000 in
theorem yt_buildE2 (hw : Region.wanted o (yielded ops a.tmps) = true) (x y : Operand) (ho : o.op = .build 46 #[(0, x), (2, y)]) (u v : Va) (hx : a.eval x = vVal u) (hy : a.eval y = vVal v) : YieldsIf Tryz.prog ops S o (evVal ⟨u, (0, 0, ⟨#[]⟩), v, (0, 0, ⟨#[]⟩)⟩) a :=
  Or.inl ⟨hw, fun w _ => by
    simp only [execOp, ho, List.map_toArray, List.map_cons, List.map_nil, hx, hy, vVal, evVal]
    go_simp⟩
set_option maxRecDepth 100000 in
theorem yt_eqEvZ (hw : Region.wanted o (yielded ops a.tmps) = true) (x y : Operand) (t : TypeId) (ho : o.op = .binOp .eql 46 x y t) (hx : a.eval x = evVal evZ) (hy : a.eval y = evVal evZ) : YieldsIf Tryz.prog ops S o (.bool true) a :=
  Or.inl ⟨hw, fun w _ => by
    have h := aw_eqz w
    simp only [evVal, evZ, vaZ] at h
    simp only [execOp, ho, hx, hy, evVal, evZ, vaZ]
    go_simp⟩
theorem wt_newEv {Q : Exit → Act → World → Prop} {o2 : Oper} {rest : List Oper} {w : World} (hw : Region.wanted o (yielded ops a.tmps) = true) (ho : o.op = .alloc 46) (x y : Operand) (ho2 : o2.op = .store 46 x y) (hg2 : o2.guard = none)
    (hx : ∀ v, (a.put o.dst v).eval x = v) {e : EvV} (hy : ∀ v, (a.put o.dst v).eval y = evVal e)
    (h : ∀ W g, W.heap[g]? = some (evObj e) → Below w.heap.size w W → wpList Tryz.prog ops Q rest ((a.put o.dst (.pointer (some ⟨g, 0, none⟩))).put o2.dst undef) W) : wpList Tryz.prog ops Q (o :: o2 :: rest) a w :=
  wt_allocEv hw ho fun v1 g1 hg G1 kb => wt_putEv hg2 x y ho2 g1 (hx _) e (hy _) G1 rfl fun v2 X kg => h v2 g1 X (below_none (gr_new (grown_below (grown_refl _ _) kb) hg kg))
set_option maxRecDepth 100000 in
theorem yt_buildS2 (hw : Region.wanted o (yielded ops a.tmps) = true) (x y : Operand) (ho : o.op = .build 25 #[(2, x), (3, y)]) (b : Bool) (p : Option Addr) (n c : Nat) (hx : a.eval x = .bool b) (hy : a.eval y = .slice p n c) : YieldsIf Tryz.prog ops S o (.agg #[.bool false, .slice none 0 0, .bool b, .slice p n c]) a :=
  Or.inl ⟨hw, fun w _ => by
    simp only [execOp, ho, List.map_toArray, List.map_cons, List.map_nil, hx, hy]
    go_simp⟩
end
set_option maxHeartbeats 1000000 in
set_option maxRecDepth 100000 in
theorem awake7_any (w : World) (HE : Env w) :
    Calls Tryz.prog 8 #[] w fun e w' => e = .returned (.bool true) ∧ Below w.heap.size w w' := by
  have w6 : 6 ≤ w.heap.size := HE.big
  have D : w.grownBy w none := grown_refl _ _
  go_enter Tryz.func8, Tryz.ntmps8
  refine wp_seq_k (fun K1 hK1 => ?_)
  refine wp_region_lit ?_
  refine wl_yield (o := ⟨_, _, _, _, _, _⟩) (.bool false) (yl_assign (by rfl) _ rfl _ rfl) ?_
  simp only [Act.put, List.setIfInBounds_toArray, List.set_cons_zero, List.set_cons_succ]
  refine wpList_nil ?_
  refine hK1 _ _ ?_
  clear hK1 K1
  refine wp_seq_k (fun K2 hK2 => ?_)
  refine wp_region_lit ?_
  refine wt_call (o := ⟨_, _, _, _, _, _⟩) (by rfl) 16 _ _ rfl #[.string (bs ([38, 40, 97, 58, 91, 49, 46, 46, 53, 32, 39, 120, 39, 93, 32, 33, 98, 58, 91, 45, 93, 41]))] rfl (run_call Tryz.func16 (by kernel_rfl) (by kernel_rfl)) ?_
  refine (parse_any _ _ HE (by decide)).mono ?_
  rintro r v1 (⟨⟨d1, err, rfl, PA⟩, kb⟩)
  · obtain ⟨rfl, Pd1⟩ := aw_y1 PA
    clear PA
    replace D := grown_below D kb
    replace HE := HE.on kb
    clear kb
    refine Or.inl ⟨.tuple #[EC.val d1, .int .i64 0], rfl, ?_⟩
    simp only [Act.put, List.setIfInBounds_toArray, List.set_cons_zero, List.set_cons_succ]
    refine wl_yield (o := ⟨_, _, _, _, _, _⟩) (.tuple #[EC.val d1, .int .i64 0]) (yl_move (by rfl) _ rfl _ rfl) ?_
    simp only [Act.put, List.setIfInBounds_toArray, List.set_cons_zero, List.set_cons_succ]
    refine wl_yield (o := ⟨_, _, _, _, _, _⟩) (EC.val d1) (yl_extract0 (by rfl) _ rfl _ _ rfl) ?_
    simp only [Act.put, List.setIfInBounds_toArray, List.set_cons_zero, List.set_cons_succ]
    refine wl_yield (o := ⟨_, _, _, _, _, _⟩) (.int .i64 0) (yl_extract1 (by rfl) _ rfl _ _ rfl) ?_
    simp only [Act.put, List.setIfInBounds_toArray, List.set_cons_zero, List.set_cons_succ]
    refine wl_newEx (o := ⟨_, _, _, _, _, _⟩) (o2 := ⟨_, _, _, _, _, _⟩) (by rfl) rfl _ _ rfl rfl (fun _ => rfl) (c := d1) (fun _ => rfl) (fun v2 g2 G2 kb => ?_)
    simp only [Act.put, List.setIfInBounds_toArray, List.set_cons_zero, List.set_cons_succ]
    replace D := grown_below D kb
    replace HE := HE.on kb
    replace Pd1 := Pd1.on kb
    clear kb
    replace G2 : v2.heap[g2]? = some (.cells #[.int .i64 (d1.k), .int .i64 (d1.t), .bool (d1.s.a), .slice d1.s.p d1.s.n d1.s.c, .bool (d1.s.d), .slice d1.s.q d1.s.m d1.s.e, .slice d1.p d1.n d1.c] 28 (0, 0)) := G2
    refine wl_yield (o := ⟨_, _, _, _, _, _⟩) (.int .i64 0) (yl_assign (by rfl) _ rfl _ rfl) ?_
    simp only [Act.put, List.setIfInBounds_toArray, List.set_cons_zero, List.set_cons_succ]
    refine wpList_nil ?_
    refine hK2 _ _ ?_
    clear hK2 K2
    refine wp_seq_k (fun K3 hK3 => ?_)
    refine wp_region_lit ?_
    refine wt_call (o := ⟨_, _, _, _, _, _⟩) (by rfl) 16 _ _ rfl #[.string (bs ([38, 40, 97, 58, 91, 53, 46, 46, 49, 93, 41]))] rfl (run_call Tryz.func16 (by kernel_rfl) (by kernel_rfl)) ?_
    refine (parse_any _ _ HE (by decide)).mono ?_
    rintro r v3 (⟨⟨d2, err, rfl, PA⟩, kb⟩)
    · obtain ⟨rfl, Pd2⟩ := aw_y2 PA
      clear PA
      subst Pd2
      replace D := grown_below D kb
      replace HE := HE.on kb
      replace Pd1 := Pd1.on kb
      replace G2 := heap_on G2 kb
      clear kb
      refine Or.inl ⟨.tuple #[EC.val ec0, .int .i64 2], rfl, ?_⟩
      simp only [Act.put, List.setIfInBounds_toArray, List.set_cons_zero, List.set_cons_succ]
      refine wl_yield (o := ⟨_, _, _, _, _, _⟩) (.tuple #[EC.val ec0, .int .i64 2]) (yl_move (by rfl) _ rfl _ rfl) ?_
      simp only [Act.put, List.setIfInBounds_toArray, List.set_cons_zero, List.set_cons_succ]
      refine wl_yield (o := ⟨_, _, _, _, _, _⟩) (EC.val ec0) (yl_extract0 (by rfl) _ rfl _ _ rfl) ?_
      simp only [Act.put, List.setIfInBounds_toArray, List.set_cons_zero, List.set_cons_succ]
      refine wl_yield (o := ⟨_, _, _, _, _, _⟩) (.int .i64 2) (yl_extract1 (by rfl) _ rfl _ _ rfl) ?_
      simp only [Act.put, List.setIfInBounds_toArray, List.set_cons_zero, List.set_cons_succ]
      refine wl_newEx (o := ⟨_, _, _, _, _, _⟩) (o2 := ⟨_, _, _, _, _, _⟩) (by rfl) rfl _ _ rfl rfl (fun _ => rfl) (c := ec0) (fun _ => rfl) (fun v4 g4 G4 kb => ?_)
      simp only [Act.put, List.setIfInBounds_toArray, List.set_cons_zero, List.set_cons_succ]
      replace D := grown_below D kb
      replace HE := HE.on kb
      replace Pd1 := Pd1.on kb
      replace G2 := heap_on G2 kb
      clear kb
      replace G4 : v4.heap[g4]? = some (.cells #[.int .i64 (ec0.k), .int .i64 (ec0.t), .bool (ec0.s.a), .slice ec0.s.p ec0.s.n ec0.s.c, .bool (ec0.s.d), .slice ec0.s.q ec0.s.m ec0.s.e, .slice ec0.p ec0.n ec0.c] 28 (0, 0)) := G4
      refine wl_yield (o := ⟨_, _, _, _, _, _⟩) (.int .i64 2) (yl_assign (by rfl) _ rfl _ rfl) ?_
      simp only [Act.put, List.setIfInBounds_toArray, List.set_cons_zero, List.set_cons_succ]
      refine wpList_nil ?_
      refine hK3 _ _ ?_
      clear hK3 K3
      refine wp_seq_k (fun K4 hK4 => ?_)
      refine wp_region_lit ?_
      refine wl_yield (o := ⟨_, _, _, _, _, _⟩) (vVal (((1, 1, ⟨#[]⟩) : Va))) (yt_buildV2 (by rfl) _ _ rfl 1 1 rfl rfl) ?_
      simp only [Act.put, List.setIfInBounds_toArray, List.set_cons_zero, List.set_cons_succ]
      refine wl_yield (o := ⟨_, _, _, _, _, _⟩) (vVal (((2, 0, bs [120]) : Va))) (yt_buildV3 (by rfl) _ _ rfl 2 (bs [120]) rfl rfl) ?_
      simp only [Act.put, List.setIfInBounds_toArray, List.set_cons_zero, List.set_cons_succ]
      refine wl_yield (o := ⟨_, _, _, _, _, _⟩) (evVal aw2) (yt_buildE2 (by rfl) _ _ rfl (1, 1, ⟨#[]⟩) (2, 0, bs [120]) rfl rfl) ?_
      simp only [Act.put, List.setIfInBounds_toArray, List.set_cons_zero, List.set_cons_succ]
      refine wt_call (o := ⟨_, _, _, _, _, _⟩) (by rfl) 21 _ _ rfl #[evVal aw2] rfl (run_call Tryz.func21 (by kernel_rfl) (by kernel_rfl)) ?_
      refine (eventText_any aw2 _ HE aw_fit aw_in).mono ?_
      rintro r v5 ⟨rfl, kb⟩
      replace D := grown_below D kb
      replace HE := HE.on kb
      replace Pd1 := Pd1.on kb
      replace G2 := heap_on G2 kb
      replace G4 := heap_on G4 kb
      clear kb
      refine Or.inl ⟨.tuple #[.string (bs ([123, 97, 61, 49, 32, 99, 61, 39, 120, 39, 125])), .int .i64 0], by rw [aw_r], ?_⟩
      simp only [Act.put, List.setIfInBounds_toArray, List.set_cons_zero, List.set_cons_succ]
      refine wl_yield (o := ⟨_, _, _, _, _, _⟩) (.tuple #[.string (bs ([123, 97, 61, 49, 32, 99, 61, 39, 120, 39, 125])), .int .i64 0]) (yl_move (by rfl) _ rfl _ rfl) ?_
      simp only [Act.put, List.setIfInBounds_toArray, List.set_cons_zero, List.set_cons_succ]
      refine wl_yield (o := ⟨_, _, _, _, _, _⟩) (.string (bs ([123, 97, 61, 49, 32, 99, 61, 39, 120, 39, 125]))) (yl_extract0 (by rfl) _ rfl _ _ rfl) ?_
      simp only [Act.put, List.setIfInBounds_toArray, List.set_cons_zero, List.set_cons_succ]
      refine wl_yield (o := ⟨_, _, _, _, _, _⟩) (.int .i64 0) (yl_extract1 (by rfl) _ rfl _ _ rfl) ?_
      simp only [Act.put, List.setIfInBounds_toArray, List.set_cons_zero, List.set_cons_succ]
      refine wl_yield (o := ⟨_, _, _, _, _, _⟩) (.string (bs ([123, 97, 61, 49, 32, 99, 61, 39, 120, 39, 125]))) (yl_assign (by rfl) _ rfl _ rfl) ?_
      simp only [Act.put, List.setIfInBounds_toArray, List.set_cons_zero, List.set_cons_succ]
      refine wl_yield (o := ⟨_, _, _, _, _, _⟩) (.int .i64 0) (yl_assign (by rfl) _ rfl _ rfl) ?_
      simp only [Act.put, List.setIfInBounds_toArray, List.set_cons_zero, List.set_cons_succ]
      refine wpList_nil ?_
      refine hK4 _ _ ?_
      clear hK4 K4
      refine wp_seq_k (fun K5 hK5 => ?_)
      refine wp_region_lit ?_
      refine wt_call (o := ⟨_, _, _, _, _, _⟩) (by rfl) 19 _ _ rfl #[.string (bs ([123, 125]))] rfl (run_call Tryz.func19 (by kernel_rfl) (by kernel_rfl)) ?_
      refine (readEvent_any [123, 125] _ HE (by decide)).mono ?_
      rintro r v6 (⟨⟨e0, err, rfl, PA⟩, kb⟩)
      · rw [aw_e] at PA
        obtain ⟨rfl, rfl⟩ := PA
        replace D := grown_below D kb
        replace HE := HE.on kb
        replace Pd1 := Pd1.on kb
        replace G2 := heap_on G2 kb
        replace G4 := heap_on G4 kb
        clear kb
        refine Or.inl ⟨.tuple #[evVal evZ, .int .i64 0], rfl, ?_⟩
        simp only [Act.put, List.setIfInBounds_toArray, List.set_cons_zero, List.set_cons_succ]
        refine wl_yield (o := ⟨_, _, _, _, _, _⟩) (.tuple #[evVal evZ, .int .i64 0]) (yl_move (by rfl) _ rfl _ rfl) ?_
        simp only [Act.put, List.setIfInBounds_toArray, List.set_cons_zero, List.set_cons_succ]
        refine wl_yield (o := ⟨_, _, _, _, _, _⟩) (evVal evZ) (yl_extract0 (by rfl) _ rfl _ _ rfl) ?_
        simp only [Act.put, List.setIfInBounds_toArray, List.set_cons_zero, List.set_cons_succ]
        refine wl_yield (o := ⟨_, _, _, _, _, _⟩) (.int .i64 0) (yl_extract1 (by rfl) _ rfl _ _ rfl) ?_
        simp only [Act.put, List.setIfInBounds_toArray, List.set_cons_zero, List.set_cons_succ]
        refine wt_newEv (o := ⟨_, _, _, _, _, _⟩) (o2 := ⟨_, _, _, _, _, _⟩) (by rfl) rfl _ _ rfl rfl (fun _ => rfl) (e := evZ) (fun _ => rfl) (fun v7 g7 G7 kb => ?_)
        simp only [Act.put, List.setIfInBounds_toArray, List.set_cons_zero, List.set_cons_succ]
        replace D := grown_below D kb
        replace HE := HE.on kb
        replace Pd1 := Pd1.on kb
        replace G2 := heap_on G2 kb
        replace G4 := heap_on G4 kb
        clear kb
        replace G7 : v7.heap[g7]? = some (.cells #[.int .i64 (evZ.v0.1), .int .i64 (evZ.v0.2.1), .string evZ.v0.2.2, .int .i64 (evZ.v1.1), .int .i64 (evZ.v1.2.1), .string evZ.v1.2.2, .int .i64 (evZ.v2.1), .int .i64 (evZ.v2.2.1), .string evZ.v2.2.2, .int .i64 (evZ.v3.1), .int .i64 (evZ.v3.2.1), .string evZ.v3.2.2] 46 (0, 0)) := G7
        refine wl_yield (o := ⟨_, _, _, _, _, _⟩) (.int .i64 0) (yl_assign (by rfl) _ rfl _ rfl) ?_
        simp only [Act.put, List.setIfInBounds_toArray, List.set_cons_zero, List.set_cons_succ]
        refine wpList_nil ?_
        refine hK5 _ _ ?_
        clear hK5 K5
        refine wp_seq_k (fun K6 hK6 => ?_)
        refine wp_region_lit ?_
        refine wl_yield (o := ⟨_, _, _, _, _, _⟩) (EC.val d1) (yl_ex (by rfl) _ rfl _ 0 rfl (c := ⟨d1.k, d1.t, ⟨d1.s.a, d1.s.p, d1.s.n, d1.s.c, d1.s.d, d1.s.q, d1.s.m, d1.s.e⟩, d1.p, d1.n, d1.c⟩) (fun _ h => by subst h; exact ⟨cell_heap G2 0, cell_heap G2 1, cell_heap G2 2, cell_heap G2 3, cell_heap G2 4, cell_heap G2 5, cell_heap G2 6⟩)) ?_
        simp only [Act.put, List.setIfInBounds_toArray, List.set_cons_zero, List.set_cons_succ]
        refine wt_call (o := ⟨_, _, _, _, _, _⟩) (by rfl) 26 _ _ rfl #[EC.val d1] rfl (run_call Tryz.func26 (by kernel_rfl) (by kernel_rfl)) ?_
        refine (c_size Pd1 (by omega)).mono ?_
        rintro r v8 ⟨rfl, kb⟩
        replace D := grown_below D kb
        replace HE := HE.on kb
        replace Pd1 := Pd1.on kb
        replace G2 := heap_on G2 kb
        replace G4 := heap_on G4 kb
        replace G7 := heap_on G7 kb
        clear kb
        refine Or.inl ⟨.tuple #[.int .i64 4, .int .i64 3], by rw [aw_z1, aw_z2], ?_⟩
        simp only [Act.put, List.setIfInBounds_toArray, List.set_cons_zero, List.set_cons_succ]
        refine wl_yield (o := ⟨_, _, _, _, _, _⟩) (.tuple #[.int .i64 4, .int .i64 3]) (yl_move (by rfl) _ rfl _ rfl) ?_
        simp only [Act.put, List.setIfInBounds_toArray, List.set_cons_zero, List.set_cons_succ]
        refine wl_yield (o := ⟨_, _, _, _, _, _⟩) (.int .i64 4) (yl_extract0 (by rfl) _ rfl _ _ rfl) ?_
        simp only [Act.put, List.setIfInBounds_toArray, List.set_cons_zero, List.set_cons_succ]
        refine wl_yield (o := ⟨_, _, _, _, _, _⟩) (.int .i64 3) (yl_extract1 (by rfl) _ rfl _ _ rfl) ?_
        simp only [Act.put, List.setIfInBounds_toArray, List.set_cons_zero, List.set_cons_succ]
        refine wl_yield (o := ⟨_, _, _, _, _, _⟩) (.int .i64 4) (yl_assign (by rfl) _ rfl _ rfl) ?_
        simp only [Act.put, List.setIfInBounds_toArray, List.set_cons_zero, List.set_cons_succ]
        refine wl_yield (o := ⟨_, _, _, _, _, _⟩) (.int .i64 3) (yl_assign (by rfl) _ rfl _ rfl) ?_
        simp only [Act.put, List.setIfInBounds_toArray, List.set_cons_zero, List.set_cons_succ]
        refine wpList_nil ?_
        refine hK6 _ _ ?_
        clear hK6 K6
        refine wp_seq_k (fun K7 hK7 => ?_)
        refine wp_region_lit ?_
        refine wl_yield (o := ⟨_, _, _, _, _, _⟩) (.int .i64 0) (yl_move (by rfl) _ rfl _ rfl) ?_
        simp only [Act.put, List.setIfInBounds_toArray, List.set_cons_zero, List.set_cons_succ]
        refine wl_yield (o := ⟨_, _, _, _, _, _⟩) (.bool true) (yt_eqlE (by rfl) _ _ _ rfl 0 0 true rfl rfl (by decide)) ?_
        simp only [Act.put, List.setIfInBounds_toArray, List.set_cons_zero, List.set_cons_succ]
        refine wl_yield (o := ⟨_, _, _, _, _, _⟩) (.bool true) (yl_move (by rfl) _ rfl _ rfl) ?_
        simp only [Act.put, List.setIfInBounds_toArray, List.set_cons_zero, List.set_cons_succ]
        refine wl_yield (o := ⟨_, _, _, _, _, _⟩) (.int .i64 4) (yl_move (by rfl) _ rfl _ rfl) ?_
        simp only [Act.put, List.setIfInBounds_toArray, List.set_cons_zero, List.set_cons_succ]
        refine wl_yield (o := ⟨_, _, _, _, _, _⟩) (.bool true) (yt_eqlI (by rfl) _ _ _ rfl 4 4 true rfl rfl (by decide)) ?_
        simp only [Act.put, List.setIfInBounds_toArray, List.set_cons_zero, List.set_cons_succ]
        refine wl_yield (o := ⟨_, _, _, _, _, _⟩) (.bool true) (yl_pickT (by rfl) _ _ _ rfl rfl _ rfl) ?_
        simp only [Act.put, List.setIfInBounds_toArray, List.set_cons_zero, List.set_cons_succ]
        refine wl_yield (o := ⟨_, _, _, _, _, _⟩) (.bool true) (yl_move (by rfl) _ rfl _ rfl) ?_
        simp only [Act.put, List.setIfInBounds_toArray, List.set_cons_zero, List.set_cons_succ]
        refine wl_yield (o := ⟨_, _, _, _, _, _⟩) (.int .i64 3) (yl_move (by rfl) _ rfl _ rfl) ?_
        simp only [Act.put, List.setIfInBounds_toArray, List.set_cons_zero, List.set_cons_succ]
        refine wl_yield (o := ⟨_, _, _, _, _, _⟩) (.bool true) (yt_eqlI (by rfl) _ _ _ rfl 3 3 true rfl rfl (by decide)) ?_
        simp only [Act.put, List.setIfInBounds_toArray, List.set_cons_zero, List.set_cons_succ]
        refine wl_yield (o := ⟨_, _, _, _, _, _⟩) (.bool true) (yl_pickT (by rfl) _ _ _ rfl rfl _ rfl) ?_
        simp only [Act.put, List.setIfInBounds_toArray, List.set_cons_zero, List.set_cons_succ]
        refine wl_yield (o := ⟨_, _, _, _, _, _⟩) (.bool true) (yl_move (by rfl) _ rfl _ rfl) ?_
        simp only [Act.put, List.setIfInBounds_toArray, List.set_cons_zero, List.set_cons_succ]
        refine wl_yield (o := ⟨_, _, _, _, _, _⟩) (.int .i64 2) (yl_move (by rfl) _ rfl _ rfl) ?_
        simp only [Act.put, List.setIfInBounds_toArray, List.set_cons_zero, List.set_cons_succ]
        refine wl_yield (o := ⟨_, _, _, _, _, _⟩) (.bool true) (yt_eqlE (by rfl) _ _ _ rfl 2 2 true rfl rfl (by decide)) ?_
        simp only [Act.put, List.setIfInBounds_toArray, List.set_cons_zero, List.set_cons_succ]
        refine wl_yield (o := ⟨_, _, _, _, _, _⟩) (.bool true) (yl_pickT (by rfl) _ _ _ rfl rfl _ rfl) ?_
        simp only [Act.put, List.setIfInBounds_toArray, List.set_cons_zero, List.set_cons_succ]
        refine wl_yield (o := ⟨_, _, _, _, _, _⟩) (.bool true) (yl_move (by rfl) _ rfl _ rfl) ?_
        simp only [Act.put, List.setIfInBounds_toArray, List.set_cons_zero, List.set_cons_succ]
        refine wl_yield (o := ⟨_, _, _, _, _, _⟩) (.string (bs ([123, 97, 61, 49, 32, 99, 61, 39, 120, 39, 125]))) (yl_move (by rfl) _ rfl _ rfl) ?_
        simp only [Act.put, List.setIfInBounds_toArray, List.set_cons_zero, List.set_cons_succ]
        refine wl_yield (o := ⟨_, _, _, _, _, _⟩) (.bool true) (yt_eqS (by rfl) _ _ _ rfl ([123, 97, 61, 49, 32, 99, 61, 39, 120, 39, 125]) ([123, 97, 61, 49, 32, 99, 61, 39, 120, 39, 125]) true rfl rfl (by decide)) ?_
        simp only [Act.put, List.setIfInBounds_toArray, List.set_cons_zero, List.set_cons_succ]
        refine wl_yield (o := ⟨_, _, _, _, _, _⟩) (.bool true) (yl_pickT (by rfl) _ _ _ rfl rfl _ rfl) ?_
        simp only [Act.put, List.setIfInBounds_toArray, List.set_cons_zero, List.set_cons_succ]
        refine wl_yield (o := ⟨_, _, _, _, _, _⟩) (.bool true) (yl_move (by rfl) _ rfl _ rfl) ?_
        simp only [Act.put, List.setIfInBounds_toArray, List.set_cons_zero, List.set_cons_succ]
        refine wl_yield (o := ⟨_, _, _, _, _, _⟩) (.int .i64 0) (yl_move (by rfl) _ rfl _ rfl) ?_
        simp only [Act.put, List.setIfInBounds_toArray, List.set_cons_zero, List.set_cons_succ]
        refine wl_yield (o := ⟨_, _, _, _, _, _⟩) (.bool true) (yt_eqlE (by rfl) _ _ _ rfl 0 0 true rfl rfl (by decide)) ?_
        simp only [Act.put, List.setIfInBounds_toArray, List.set_cons_zero, List.set_cons_succ]
        refine wl_yield (o := ⟨_, _, _, _, _, _⟩) (.bool true) (yl_pickT (by rfl) _ _ _ rfl rfl _ rfl) ?_
        simp only [Act.put, List.setIfInBounds_toArray, List.set_cons_zero, List.set_cons_succ]
        refine wl_yield (o := ⟨_, _, _, _, _, _⟩) (.bool true) (yl_move (by rfl) _ rfl _ rfl) ?_
        simp only [Act.put, List.setIfInBounds_toArray, List.set_cons_zero, List.set_cons_succ]
        refine wl_yield (o := ⟨_, _, _, _, _, _⟩) (evVal evZ) (yl_ev (by rfl) _ rfl _ 0 rfl _ _ _ _ _ _ _ _ _ _ _ _ (fun _ h => by subst h; exact ⟨cell_heap G7 0, cell_heap G7 1, cell_heap G7 2, cell_heap G7 3, cell_heap G7 4, cell_heap G7 5, cell_heap G7 6, cell_heap G7 7, cell_heap G7 8, cell_heap G7 9, cell_heap G7 10, cell_heap G7 11⟩)) ?_
        simp only [Act.put, List.setIfInBounds_toArray, List.set_cons_zero, List.set_cons_succ]
        refine wl_yield (o := ⟨_, _, _, _, _, _⟩) (evVal evZ) (yl_zeroE (by rfl) rfl) ?_
        simp only [Act.put, List.setIfInBounds_toArray, List.set_cons_zero, List.set_cons_succ]
        refine wl_yield (o := ⟨_, _, _, _, _, _⟩) (.bool true) (yt_eqEvZ (by rfl) _ _ _ rfl rfl rfl) ?_
        simp only [Act.put, List.setIfInBounds_toArray, List.set_cons_zero, List.set_cons_succ]
        refine wl_yield (o := ⟨_, _, _, _, _, _⟩) (.bool true) (yl_pickT (by rfl) _ _ _ rfl rfl _ rfl) ?_
        simp only [Act.put, List.setIfInBounds_toArray, List.set_cons_zero, List.set_cons_succ]
        refine wl_yield (o := ⟨_, _, _, _, _, _⟩) (.bool true) (yl_move (by rfl) _ rfl _ rfl) ?_
        simp only [Act.put, List.setIfInBounds_toArray, List.set_cons_zero, List.set_cons_succ]
        refine wl_yield (o := ⟨_, _, _, _, _, _⟩) (.int .i64 0) (yl_move (by rfl) _ rfl _ rfl) ?_
        simp only [Act.put, List.setIfInBounds_toArray, List.set_cons_zero, List.set_cons_succ]
        refine wl_yield (o := ⟨_, _, _, _, _, _⟩) (.bool true) (yt_eqlE (by rfl) _ _ _ rfl 0 0 true rfl rfl (by decide)) ?_
        simp only [Act.put, List.setIfInBounds_toArray, List.set_cons_zero, List.set_cons_succ]
        refine wl_yield (o := ⟨_, _, _, _, _, _⟩) (.bool true) (yl_pickT (by rfl) _ _ _ rfl rfl _ rfl) ?_
        simp only [Act.put, List.setIfInBounds_toArray, List.set_cons_zero, List.set_cons_succ]
        refine wl_yield (o := ⟨_, _, _, _, _, _⟩) (.bool true) (yl_move (by rfl) _ rfl _ rfl) ?_
        simp only [Act.put, List.setIfInBounds_toArray, List.set_cons_zero, List.set_cons_succ]
        refine wt_row1S (o := ⟨_, _, _, _, _, _⟩) (by rfl) _ rfl (bs ([113])) rfl (fun v9 g9 hg G9 kb => ?_)
        have n_g2_g9 : g2 ≠ g9 := by have := lt_heap G2; omega
        have n_g4_g9 : g4 ≠ g9 := by have := lt_heap G4; omega
        have n_g7_g9 : g7 ≠ g9 := by have := lt_heap G7; omega
        have ge_g9 : w.heap.size ≤ g9 := Nat.le_trans D.size hg
        have six_g9 : 6 ≤ g9 := Nat.le_trans w6 ge_g9
        clear hg
        replace D := grown_below D kb
        replace HE := HE.on kb
        replace Pd1 := Pd1.on kb
        replace G2 := heap_on G2 kb
        replace G4 := heap_on G4 kb
        replace G7 := heap_on G7 kb
        clear kb
        simp only [Act.put, List.setIfInBounds_toArray, List.set_cons_zero, List.set_cons_succ]
        refine wl_yield (o := ⟨_, _, _, _, _, _⟩) (.agg #[.bool false, .slice none 0 0, .bool true, .slice (some ⟨g9, 0, none⟩) 1 1]) (yt_buildS2 (by rfl) _ _ rfl true _ _ _ rfl rfl) ?_
        simp only [Act.put, List.setIfInBounds_toArray, List.set_cons_zero, List.set_cons_succ]
        refine wt_call (o := ⟨_, _, _, _, _, _⟩) (by rfl) 11 _ _ rfl #[.agg #[.bool false, .slice none 0 0, .bool true, .slice (some ⟨g9, 0, none⟩) 1 1]] rfl (run_call Tryz.func11 (by kernel_rfl) (by kernel_rfl)) ?_
        refine (setText_any aw3 none (some ⟨g9, 0, none⟩) 0 1 _ HE (ri_nil _) (aw_st G9) aw_ok (by decide) (by decide)).mono ?_
        rintro r v10 ⟨rfl, kb⟩
        replace D := grown_below D kb
        replace HE := HE.on kb
        replace Pd1 := Pd1.on kb
        replace G2 := heap_on G2 kb
        replace G4 := heap_on G4 kb
        replace G7 := heap_on G7 kb
        replace G9 := heap_on G9 kb
        clear kb
        refine Or.inl ⟨.string (bs ([91, 126, 32, 39, 113, 39, 93])), by rw [aw_s], ?_⟩
        simp only [Act.put, List.setIfInBounds_toArray, List.set_cons_zero, List.set_cons_succ]
        refine wl_yield (o := ⟨_, _, _, _, _, _⟩) (.bool true) (yt_eqS (by rfl) _ _ _ rfl ([91, 126, 32, 39, 113, 39, 93]) ([91, 126, 32, 39, 113, 39, 93]) true rfl rfl (by decide)) ?_
        simp only [Act.put, List.setIfInBounds_toArray, List.set_cons_zero, List.set_cons_succ]
        refine wl_yield (o := ⟨_, _, _, _, _, _⟩) (.bool true) (yl_pickT (by rfl) _ _ _ rfl rfl _ rfl) ?_
        simp only [Act.put, List.setIfInBounds_toArray, List.set_cons_zero, List.set_cons_succ]
        refine wl_yield (o := ⟨_, _, _, _, _, _⟩) (.bool true) (yl_assign (by rfl) _ rfl _ rfl) ?_
        simp only [Act.put, List.setIfInBounds_toArray, List.set_cons_zero, List.set_cons_succ]
        refine wpList_nil ?_
        refine hK7 _ _ ?_
        clear hK7 K7
        refine wp_ret ?_
        go_ret
        exact ⟨rfl, below_none D⟩

end Go.Proofs.YtciflobdpenpaaaGreatDoor
/-
  The law TextMeans.
-/
set_option linter.unusedSimpArgs false
set_option linter.unusedVariables false
namespace Go.Proofs.YtciflobdpenpaaaGreatDoor
open Go.RowKit

theorem print_cases {n : Nat} {w : World} {c : EC} {x : ExV} (hx : Xp n w c x) : (printR x = (exTxt 8 x, 0) ∧ rightX x = true ∧ parseP (exTxt 8 x) = some x ∧ (exTxt 8 x).length ≤ 1024) ∨ ∃ z, printR x = ([], z) ∧ ¬ z = 0 ∧ (rightX x = false ∧ z = 1 ∨ rightX x = true ∧ z = 9 ∧ 1024 < (exTxt 8 x).length) := by
  cases hr : rightX x
  · exact Or.inr ⟨1, by unfold printR; rw [hr]; rfl, by decide, Or.inl ⟨rfl, rfl⟩⟩
  · by_cases hl : (exTxt 8 x).length ≤ 1024
    · refine Or.inl ⟨by unfold printR; rw [hr, if_pos rfl, if_pos hl], rfl, ?_, hl⟩
      have h8 := ExAt.shrink n 8 hx (rightX_low hr)
      exact parse_txt hr (okI_okX 8 x (rightX_each hr) (exAt_okI 8 h8)) hl
    · exact Or.inr ⟨9, by unfold printR; rw [hr, if_pos rfl, if_neg hl], by decide, Or.inr ⟨rfl, rfl, by omega⟩⟩
theorem parsed_yes {m : Nat} {W : World} {d : EC} {err : Int} {x : ExV} (hy : parseP (exTxt 8 x) = some x) (hl : (exTxt 8 x).length ≤ 1024) (h : ParsedT m W (exTxt 8 x) d err) : err = 0 ∧ Xp 1033 W d x := by
  unfold ParsedT at h
  rw [if_neg (by omega)] at h
  unfold Parsed at h
  rw [hy] at h
  exact ⟨h.1, ExAt.more _ _ (by omega) (h.2 _ (Kept.refl _ _))⟩
section
variable {ops : Array Oper} {S : World → Prop} {o : Oper} {a : Act}
end
end Go.Proofs.YtciflobdpenpaaaGreatDoor
/-
  The fifth reference's Same, at any two expressions: it answers whether they are one.
-/
set_option linter.unusedSimpArgs false
set_option linter.unusedVariables false
namespace Go.Proofs.YtciflobdpenpaaaGreatDoor
open Go.RowKit

theorem iff_no {p : Prop} (h : ¬ p) : (false = true ↔ p) := ⟨(fun e => Bool.noConfusion e), (fun e => absurd e h)⟩
theorem iff_yes {p : Prop} (h : p) : (true = true ↔ p) := ⟨(fun _ => h), (fun _ => rfl)⟩
theorem exV_ext {x y : ExV} (h1 : x.kind = y.kind) (h2 : x.attr = y.attr) (h3 : x.set = y.set) (h4 : x.sub.length = y.sub.length) (h5 : ∀ j, j < x.sub.length → x.sub.getD j noX = y.sub.getD j noX) : x = y := by
  obtain ⟨a, b, c, d⟩ := x
  obtain ⟨a', b', c', d'⟩ := y
  simp only at h1 h2 h3 h4 h5
  subst h1 h2 h3
  have : d = d' := by
    refine List.ext_getElem h4 fun i hi hi' => ?_
    have := h5 i hi
    rwa [List.getD_eq_getElem?_getD, List.getD_eq_getElem?_getD, List.getElem?_eq_getElem hi, List.getElem?_eq_getElem hi'] at this
  rw [this]
/-- What Same answers, at so many levels. -/
def SameOr (n : Nat) : Prop := ∀ (c d : EC) (x y : ExV) (w : World), ExAt n w c.val x → ExAt n w d.val y →
  Calls Tryz.prog 17 #[c.val, d.val] w fun e w' => (∃ r, e = .returned (.bool r) ∧ (r = true ↔ x = y)) ∧ Below w.heap.size w w'

set_option maxHeartbeats 1000000 in
set_option maxRecDepth 100000 in
theorem refSame_step (n : Nat) (IH : SameOr n) (c d : EC) (x y : ExV) (w : World) (hX : ExAt (n + 1) w c.val x) (hY : ExAt (n + 1) w d.val y) (hE1 : EcFor w c x) (hE2 : EcFor w d y) :
    Calls Tryz.prog 17 #[c.val, d.val] w fun e w' => (∃ r, e = .returned (.bool r) ∧ (r = true ↔ x = y)) ∧ Below w.heap.size w w' := by
  have D : w.grownBy w none := grown_refl _ _
  have hbig : x.sub.length ≤ 9223372036854775807 := by have := hE1.n; have := hE1.room; have := hE1.big; omega
  have hlen0 : c.n = d.n → x.sub.length = y.sub.length := fun h => by rw [← hE1.n, ← hE2.n]; exact h
  go_enter Tryz.func17, Tryz.ntmps17
  refine wp_seq_k (fun K1 hK1 => ?_)
  refine wp_region_lit ?_
  refine wt_boxEx (o := ⟨_, _, _, _, _, _⟩) (by rfl) _ rfl (c) rfl (fun v1 g1 hg G1 kb => ?_)
  simp only [Act.put, List.setIfInBounds_toArray, List.set_cons_zero, List.set_cons_succ]
  have ge_g1 : w.heap.size ≤ g1 := Nat.le_trans D.size hg
  clear hg
  replace D := grown_below D kb
  clear kb
  replace G1 : v1.heap[g1]? = some (.cells #[.int .i64 (c.k), .int .i64 (c.t), .bool (c.s.a), .slice c.s.p c.s.n c.s.c, .bool (c.s.d), .slice c.s.q c.s.m c.s.e, .slice c.p c.n c.c] 28 (0, 0)) := G1
  refine wt_boxEx (o := ⟨_, _, _, _, _, _⟩) (by rfl) _ rfl (d) rfl (fun v2 g2 hg G2 kb => ?_)
  simp only [Act.put, List.setIfInBounds_toArray, List.set_cons_zero, List.set_cons_succ]
  have n_g1_g2 : g1 ≠ g2 := by have := lt_heap G1; omega
  have ge_g2 : w.heap.size ≤ g2 := Nat.le_trans D.size hg
  clear hg
  replace D := grown_below D kb
  replace G1 := heap_on G1 kb
  clear kb
  replace G2 : v2.heap[g2]? = some (.cells #[.int .i64 (d.k), .int .i64 (d.t), .bool (d.s.a), .slice d.s.p d.s.n d.s.c, .bool (d.s.d), .slice d.s.q d.s.m d.s.e, .slice d.p d.n d.c] 28 (0, 0)) := G2
  refine wl_yield (o := ⟨_, _, _, _, _, _⟩) (.bool false) (yl_assign (by rfl) _ rfl _ rfl) ?_
  simp only [Act.put, List.setIfInBounds_toArray, List.set_cons_zero, List.set_cons_succ]
  refine wpList_nil ?_
  refine hK1 _ _ ?_
  clear hK1 K1
  refine wp_seq_k (fun K2 hK2 => ?_)
  refine wp_seq_k (fun K3 hK3 => ?_)
  by_cases h0 : c.k = d.k
  · by_cases h1 : c.t = d.t
    · cases h2 : sameB x.set y.set
      · refine wp_region_lit ?_
        refine wl_yield (o := ⟨_, _, _, _, _, _⟩) (.pointer (some ⟨g1, 0, none⟩)) (yt_fEx0 (by rfl) _ rfl g1 0 rfl) ?_
        simp only [Act.put, List.setIfInBounds_toArray, List.set_cons_zero, List.set_cons_succ]
        refine wl_yield (o := ⟨_, _, _, _, _, _⟩) (.int .i64 (c.k)) (yt_ldI (by rfl) _ rfl _ _ rfl c.k (fun _ h => by subst h; exact cell_heap G1 0)) ?_
        simp only [Act.put, List.setIfInBounds_toArray, List.set_cons_zero, List.set_cons_succ]
        refine wl_yield (o := ⟨_, _, _, _, _, _⟩) (.pointer (some ⟨g2, 0, none⟩)) (yt_fEx0 (by rfl) _ rfl g2 0 rfl) ?_
        simp only [Act.put, List.setIfInBounds_toArray, List.set_cons_zero, List.set_cons_succ]
        refine wl_yield (o := ⟨_, _, _, _, _, _⟩) (.int .i64 (d.k)) (yt_ldI (by rfl) _ rfl _ _ rfl d.k (fun _ h => by subst h; exact cell_heap G2 0)) ?_
        simp only [Act.put, List.setIfInBounds_toArray, List.set_cons_zero, List.set_cons_succ]
        refine wl_yield (o := ⟨_, _, _, _, _, _⟩) (.bool false) (yt_neqI (by rfl) _ _ _ rfl c.k d.k false rfl rfl (decide_eq_false (by omega))) ?_
        simp only [Act.put, List.setIfInBounds_toArray, List.set_cons_zero, List.set_cons_succ]
        refine wl_yield (o := ⟨_, _, _, _, _, _⟩) (.bool false) (yl_move (by rfl) _ rfl _ rfl) ?_
        simp only [Act.put, List.setIfInBounds_toArray, List.set_cons_zero, List.set_cons_succ]
        refine wl_yield (o := ⟨_, _, _, _, _, _⟩) (.pointer (some ⟨g1, 1, none⟩)) (yt_fEx1 (by rfl) _ rfl g1 0 rfl) ?_
        simp only [Act.put, List.setIfInBounds_toArray, List.set_cons_zero, List.set_cons_succ]
        refine wl_yield (o := ⟨_, _, _, _, _, _⟩) (.int .i64 (c.t)) (yt_ldI (by rfl) _ rfl _ _ rfl c.t (fun _ h => by subst h; exact cell_heap G1 1)) ?_
        simp only [Act.put, List.setIfInBounds_toArray, List.set_cons_zero, List.set_cons_succ]
        refine wl_yield (o := ⟨_, _, _, _, _, _⟩) (.pointer (some ⟨g2, 1, none⟩)) (yt_fEx1 (by rfl) _ rfl g2 0 rfl) ?_
        simp only [Act.put, List.setIfInBounds_toArray, List.set_cons_zero, List.set_cons_succ]
        refine wl_yield (o := ⟨_, _, _, _, _, _⟩) (.int .i64 (d.t)) (yt_ldI (by rfl) _ rfl _ _ rfl d.t (fun _ h => by subst h; exact cell_heap G2 1)) ?_
        simp only [Act.put, List.setIfInBounds_toArray, List.set_cons_zero, List.set_cons_succ]
        refine wl_yield (o := ⟨_, _, _, _, _, _⟩) (.bool false) (yt_neqI (by rfl) _ _ _ rfl c.t d.t false rfl rfl (decide_eq_false (by omega))) ?_
        simp only [Act.put, List.setIfInBounds_toArray, List.set_cons_zero, List.set_cons_succ]
        refine wl_yield (o := ⟨_, _, _, _, _, _⟩) (.bool false) (yl_pickF (by rfl) _ _ _ rfl rfl _ rfl) ?_
        simp only [Act.put, List.setIfInBounds_toArray, List.set_cons_zero, List.set_cons_succ]
        refine wl_yield (o := ⟨_, _, _, _, _, _⟩) (.bool false) (yl_move (by rfl) _ rfl _ rfl) ?_
        simp only [Act.put, List.setIfInBounds_toArray, List.set_cons_zero, List.set_cons_succ]
        refine wl_yield (o := ⟨_, _, _, _, _, _⟩) (.pointer (some ⟨g1, 2, none⟩)) (yt_fEx2 (by rfl) _ rfl g1 0 rfl) ?_
        simp only [Act.put, List.setIfInBounds_toArray, List.set_cons_zero, List.set_cons_succ]
        refine wl_yield (o := ⟨_, _, _, _, _, _⟩) (SC.val c.s) (yl_set (by rfl) _ rfl _ 2 rfl _ _ _ _ (fun _ h => by subst h; exact ⟨cell_heap G1 2, cell_heap G1 3, cell_heap G1 4, cell_heap G1 5⟩)) ?_
        simp only [Act.put, List.setIfInBounds_toArray, List.set_cons_zero, List.set_cons_succ]
        refine wl_yield (o := ⟨_, _, _, _, _, _⟩) (.pointer (some ⟨g2, 2, none⟩)) (yt_fEx2 (by rfl) _ rfl g2 0 rfl) ?_
        simp only [Act.put, List.setIfInBounds_toArray, List.set_cons_zero, List.set_cons_succ]
        refine wl_yield (o := ⟨_, _, _, _, _, _⟩) (SC.val d.s) (yl_set (by rfl) _ rfl _ 2 rfl _ _ _ _ (fun _ h => by subst h; exact ⟨cell_heap G2 2, cell_heap G2 3, cell_heap G2 4, cell_heap G2 5⟩)) ?_
        simp only [Act.put, List.setIfInBounds_toArray, List.set_cons_zero, List.set_cons_succ]
        refine wt_call (o := ⟨_, _, _, _, _, _⟩) (by rfl) 44 _ _ rfl #[SC.val c.s, SC.val d.s] rfl (run_call Tryz.func44 (by kernel_rfl) (by kernel_rfl)) ?_
        refine (refSame_any _ _ x.set y.set _ (hE1.s.on (below_none D)) (hE2.s.on (below_none D))).mono ?_
        rintro r v3 ⟨rfl, kb⟩
        replace D := grown_below D kb
        replace G1 := heap_on G1 kb
        replace G2 := heap_on G2 kb
        clear kb
        refine Or.inl ⟨.bool false, by rw [h2], ?_⟩
        simp only [Act.put, List.setIfInBounds_toArray, List.set_cons_zero, List.set_cons_succ]
        refine wl_yield (o := ⟨_, _, _, _, _, _⟩) (.bool true) (yl_not (by rfl) _ _ rfl false rfl) ?_
        simp only [Act.put, List.setIfInBounds_toArray, List.set_cons_zero, List.set_cons_succ]
        refine wl_yield (o := ⟨_, _, _, _, _, _⟩) (.bool true) (yl_pickF (by rfl) _ _ _ rfl rfl _ rfl) ?_
        simp only [Act.put, List.setIfInBounds_toArray, List.set_cons_zero, List.set_cons_succ]
        refine wl_yield (o := ⟨_, _, _, _, _, _⟩) (.bool true) (yl_move (by rfl) _ rfl _ rfl) ?_
        simp only [Act.put, List.setIfInBounds_toArray, List.set_cons_zero, List.set_cons_succ]
        with_reducible refine wl_yield (o := ⟨_, _, _, _, _, _⟩) undef (yl_undef (by kernel_rfl)) ?_
        simp only [Act.put, List.setIfInBounds_toArray, List.set_cons_zero, List.set_cons_succ]
        with_reducible refine wl_yield (o := ⟨_, _, _, _, _, _⟩) undef (yl_undef (by kernel_rfl)) ?_
        simp only [Act.put, List.setIfInBounds_toArray, List.set_cons_zero, List.set_cons_succ]
        with_reducible refine wl_yield (o := ⟨_, _, _, _, _, _⟩) undef (yl_undef (by kernel_rfl)) ?_
        simp only [Act.put, List.setIfInBounds_toArray, List.set_cons_zero, List.set_cons_succ]
        with_reducible refine wl_yield (o := ⟨_, _, _, _, _, _⟩) undef (yl_undef (by kernel_rfl)) ?_
        simp only [Act.put, List.setIfInBounds_toArray, List.set_cons_zero, List.set_cons_succ]
        with_reducible refine wl_yield (o := ⟨_, _, _, _, _, _⟩) undef (yl_undef (by kernel_rfl)) ?_
        simp only [Act.put, List.setIfInBounds_toArray, List.set_cons_zero, List.set_cons_succ]
        with_reducible refine wl_yield (o := ⟨_, _, _, _, _, _⟩) undef (yl_undef (by kernel_rfl)) ?_
        simp only [Act.put, List.setIfInBounds_toArray, List.set_cons_zero, List.set_cons_succ]
        with_reducible refine wl_yield (o := ⟨_, _, _, _, _, _⟩) undef (yl_undef (by kernel_rfl)) ?_
        simp only [Act.put, List.setIfInBounds_toArray, List.set_cons_zero, List.set_cons_succ]
        refine wl_yield (o := ⟨_, _, _, _, _, _⟩) (.bool true) (yl_pickT (by rfl) _ _ _ rfl rfl _ rfl) ?_
        simp only [Act.put, List.setIfInBounds_toArray, List.set_cons_zero, List.set_cons_succ]
        refine wpList_nil ?_
        refine hK3 _ _ ?_
        clear hK3 K3
        refine wp_cond_true rfl ?_
        refine wp_seq_k (fun K4 hK4 => ?_)
        refine wp_region_lit ?_
        refine wl_yield (o := ⟨_, _, _, _, _, _⟩) (.bool false) (yl_assign (by rfl) _ rfl _ rfl) ?_
        simp only [Act.put, List.setIfInBounds_toArray, List.set_cons_zero, List.set_cons_succ]
        refine wpList_nil ?_
        refine hK4 _ _ ?_
        clear hK4 K4
        refine wp_ret ?_
        go_ret
        exact ⟨⟨false, rfl, iff_no (fun e => by rw [e, (sameB_iff y.set y.set).2 rfl] at h2; cases h2)⟩, below_none D⟩
      · by_cases h3 : c.n = d.n
        · refine wp_region_lit ?_
          refine wl_yield (o := ⟨_, _, _, _, _, _⟩) (.pointer (some ⟨g1, 0, none⟩)) (yt_fEx0 (by rfl) _ rfl g1 0 rfl) ?_
          simp only [Act.put, List.setIfInBounds_toArray, List.set_cons_zero, List.set_cons_succ]
          refine wl_yield (o := ⟨_, _, _, _, _, _⟩) (.int .i64 (c.k)) (yt_ldI (by rfl) _ rfl _ _ rfl c.k (fun _ h => by subst h; exact cell_heap G1 0)) ?_
          simp only [Act.put, List.setIfInBounds_toArray, List.set_cons_zero, List.set_cons_succ]
          refine wl_yield (o := ⟨_, _, _, _, _, _⟩) (.pointer (some ⟨g2, 0, none⟩)) (yt_fEx0 (by rfl) _ rfl g2 0 rfl) ?_
          simp only [Act.put, List.setIfInBounds_toArray, List.set_cons_zero, List.set_cons_succ]
          refine wl_yield (o := ⟨_, _, _, _, _, _⟩) (.int .i64 (d.k)) (yt_ldI (by rfl) _ rfl _ _ rfl d.k (fun _ h => by subst h; exact cell_heap G2 0)) ?_
          simp only [Act.put, List.setIfInBounds_toArray, List.set_cons_zero, List.set_cons_succ]
          refine wl_yield (o := ⟨_, _, _, _, _, _⟩) (.bool false) (yt_neqI (by rfl) _ _ _ rfl c.k d.k false rfl rfl (decide_eq_false (by omega))) ?_
          simp only [Act.put, List.setIfInBounds_toArray, List.set_cons_zero, List.set_cons_succ]
          refine wl_yield (o := ⟨_, _, _, _, _, _⟩) (.bool false) (yl_move (by rfl) _ rfl _ rfl) ?_
          simp only [Act.put, List.setIfInBounds_toArray, List.set_cons_zero, List.set_cons_succ]
          refine wl_yield (o := ⟨_, _, _, _, _, _⟩) (.pointer (some ⟨g1, 1, none⟩)) (yt_fEx1 (by rfl) _ rfl g1 0 rfl) ?_
          simp only [Act.put, List.setIfInBounds_toArray, List.set_cons_zero, List.set_cons_succ]
          refine wl_yield (o := ⟨_, _, _, _, _, _⟩) (.int .i64 (c.t)) (yt_ldI (by rfl) _ rfl _ _ rfl c.t (fun _ h => by subst h; exact cell_heap G1 1)) ?_
          simp only [Act.put, List.setIfInBounds_toArray, List.set_cons_zero, List.set_cons_succ]
          refine wl_yield (o := ⟨_, _, _, _, _, _⟩) (.pointer (some ⟨g2, 1, none⟩)) (yt_fEx1 (by rfl) _ rfl g2 0 rfl) ?_
          simp only [Act.put, List.setIfInBounds_toArray, List.set_cons_zero, List.set_cons_succ]
          refine wl_yield (o := ⟨_, _, _, _, _, _⟩) (.int .i64 (d.t)) (yt_ldI (by rfl) _ rfl _ _ rfl d.t (fun _ h => by subst h; exact cell_heap G2 1)) ?_
          simp only [Act.put, List.setIfInBounds_toArray, List.set_cons_zero, List.set_cons_succ]
          refine wl_yield (o := ⟨_, _, _, _, _, _⟩) (.bool false) (yt_neqI (by rfl) _ _ _ rfl c.t d.t false rfl rfl (decide_eq_false (by omega))) ?_
          simp only [Act.put, List.setIfInBounds_toArray, List.set_cons_zero, List.set_cons_succ]
          refine wl_yield (o := ⟨_, _, _, _, _, _⟩) (.bool false) (yl_pickF (by rfl) _ _ _ rfl rfl _ rfl) ?_
          simp only [Act.put, List.setIfInBounds_toArray, List.set_cons_zero, List.set_cons_succ]
          refine wl_yield (o := ⟨_, _, _, _, _, _⟩) (.bool false) (yl_move (by rfl) _ rfl _ rfl) ?_
          simp only [Act.put, List.setIfInBounds_toArray, List.set_cons_zero, List.set_cons_succ]
          refine wl_yield (o := ⟨_, _, _, _, _, _⟩) (.pointer (some ⟨g1, 2, none⟩)) (yt_fEx2 (by rfl) _ rfl g1 0 rfl) ?_
          simp only [Act.put, List.setIfInBounds_toArray, List.set_cons_zero, List.set_cons_succ]
          refine wl_yield (o := ⟨_, _, _, _, _, _⟩) (SC.val c.s) (yl_set (by rfl) _ rfl _ 2 rfl _ _ _ _ (fun _ h => by subst h; exact ⟨cell_heap G1 2, cell_heap G1 3, cell_heap G1 4, cell_heap G1 5⟩)) ?_
          simp only [Act.put, List.setIfInBounds_toArray, List.set_cons_zero, List.set_cons_succ]
          refine wl_yield (o := ⟨_, _, _, _, _, _⟩) (.pointer (some ⟨g2, 2, none⟩)) (yt_fEx2 (by rfl) _ rfl g2 0 rfl) ?_
          simp only [Act.put, List.setIfInBounds_toArray, List.set_cons_zero, List.set_cons_succ]
          refine wl_yield (o := ⟨_, _, _, _, _, _⟩) (SC.val d.s) (yl_set (by rfl) _ rfl _ 2 rfl _ _ _ _ (fun _ h => by subst h; exact ⟨cell_heap G2 2, cell_heap G2 3, cell_heap G2 4, cell_heap G2 5⟩)) ?_
          simp only [Act.put, List.setIfInBounds_toArray, List.set_cons_zero, List.set_cons_succ]
          refine wt_call (o := ⟨_, _, _, _, _, _⟩) (by rfl) 44 _ _ rfl #[SC.val c.s, SC.val d.s] rfl (run_call Tryz.func44 (by kernel_rfl) (by kernel_rfl)) ?_
          refine (refSame_any _ _ x.set y.set _ (hE1.s.on (below_none D)) (hE2.s.on (below_none D))).mono ?_
          rintro r v3 ⟨rfl, kb⟩
          replace D := grown_below D kb
          replace G1 := heap_on G1 kb
          replace G2 := heap_on G2 kb
          clear kb
          refine Or.inl ⟨.bool true, by rw [h2], ?_⟩
          simp only [Act.put, List.setIfInBounds_toArray, List.set_cons_zero, List.set_cons_succ]
          refine wl_yield (o := ⟨_, _, _, _, _, _⟩) (.bool false) (yl_not (by rfl) _ _ rfl true rfl) ?_
          simp only [Act.put, List.setIfInBounds_toArray, List.set_cons_zero, List.set_cons_succ]
          refine wl_yield (o := ⟨_, _, _, _, _, _⟩) (.bool false) (yl_pickF (by rfl) _ _ _ rfl rfl _ rfl) ?_
          simp only [Act.put, List.setIfInBounds_toArray, List.set_cons_zero, List.set_cons_succ]
          refine wl_yield (o := ⟨_, _, _, _, _, _⟩) (.bool false) (yl_move (by rfl) _ rfl _ rfl) ?_
          simp only [Act.put, List.setIfInBounds_toArray, List.set_cons_zero, List.set_cons_succ]
          refine wl_yield (o := ⟨_, _, _, _, _, _⟩) (.pointer (some ⟨g1, 6, none⟩)) (yt_fEx3 (by rfl) _ rfl g1 0 rfl) ?_
          simp only [Act.put, List.setIfInBounds_toArray, List.set_cons_zero, List.set_cons_succ]
          refine wl_yield (o := ⟨_, _, _, _, _, _⟩) (.slice c.p c.n c.c) (yt_ldLx (by rfl) _ rfl _ _ rfl c.p c.n c.c (fun _ h => by subst h; exact cell_heap G1 6)) ?_
          simp only [Act.put, List.setIfInBounds_toArray, List.set_cons_zero, List.set_cons_succ]
          refine wl_yield (o := ⟨_, _, _, _, _, _⟩) (.int .i64 (c.n : Nat)) (yt_lenX (by rfl) _ rfl c.p c.n c.c rfl) ?_
          simp only [Act.put, List.setIfInBounds_toArray, List.set_cons_zero, List.set_cons_succ]
          refine wl_yield (o := ⟨_, _, _, _, _, _⟩) (.pointer (some ⟨g2, 6, none⟩)) (yt_fEx3 (by rfl) _ rfl g2 0 rfl) ?_
          simp only [Act.put, List.setIfInBounds_toArray, List.set_cons_zero, List.set_cons_succ]
          refine wl_yield (o := ⟨_, _, _, _, _, _⟩) (.slice d.p d.n d.c) (yt_ldLx (by rfl) _ rfl _ _ rfl d.p d.n d.c (fun _ h => by subst h; exact cell_heap G2 6)) ?_
          simp only [Act.put, List.setIfInBounds_toArray, List.set_cons_zero, List.set_cons_succ]
          refine wl_yield (o := ⟨_, _, _, _, _, _⟩) (.int .i64 (d.n : Nat)) (yt_lenX (by rfl) _ rfl d.p d.n d.c rfl) ?_
          simp only [Act.put, List.setIfInBounds_toArray, List.set_cons_zero, List.set_cons_succ]
          refine wl_yield (o := ⟨_, _, _, _, _, _⟩) (.bool false) (yt_neqI (by rfl) _ _ _ rfl (((c.n : Nat) : Int)) (((d.n : Nat) : Int)) false rfl rfl (decide_eq_false (by omega))) ?_
          simp only [Act.put, List.setIfInBounds_toArray, List.set_cons_zero, List.set_cons_succ]
          refine wl_yield (o := ⟨_, _, _, _, _, _⟩) (.bool false) (yl_pickF (by rfl) _ _ _ rfl rfl _ rfl) ?_
          simp only [Act.put, List.setIfInBounds_toArray, List.set_cons_zero, List.set_cons_succ]
          refine wpList_nil ?_
          refine hK3 _ _ ?_
          clear hK3 K3
          refine wp_cond_false rfl ?_
          refine wp_skip ?_
          refine hK2 _ _ ?_
          clear hK2 K2
          refine wp_seq_k (fun K4 hK4 => ?_)
          refine wp_seq_k (fun K5 hK5 => ?_)
          refine wp_region_lit ?_
          refine wl_yield (o := ⟨_, _, _, _, _, _⟩) (.int .i64 0) (yl_assign (by rfl) _ rfl _ rfl) ?_
          simp only [Act.put, List.setIfInBounds_toArray, List.set_cons_zero, List.set_cons_succ]
          refine wpList_nil ?_
          refine hK5 _ _ ?_
          clear hK5 K5
          refine wp_block ?_
          have hlen := hlen0 h3
          go_loopw [5] (fun i wr => ∃ (k : Nat), i = .int .i64 k ∧ k ≤ x.sub.length ∧ (∀ j, j < k → x.sub.getD j noX = y.sub.getD j noX) ∧ wr.heap[g1]? = some (.cells #[.int .i64 (c.k), .int .i64 (c.t), .bool (c.s.a), .slice c.s.p c.s.n c.s.c, .bool (c.s.d), .slice c.s.q c.s.m c.s.e, .slice c.p c.n c.c] 28 (0, 0)) ∧ wr.heap[g2]? = some (.cells #[.int .i64 (d.k), .int .i64 (d.t), .bool (d.s.a), .slice d.s.p d.s.n d.s.c, .bool (d.s.d), .slice d.s.q d.s.m d.s.e, .slice d.p d.n d.c] 28 (0, 0)) ∧ w.grownBy wr none) (fun i _ => x.sub.length - (intOf i).toNat)
          case atStart => exact ⟨0, rfl, by omega, (fun j hj => absurd hj (Nat.not_lt_zero j)), G1, G2, D⟩
          case round =>
            clear D G1 G2
            obtain ⟨k, rfl, hk, hall, G1, G2, D⟩ := hrel
            by_cases hlt : k < x.sub.length
            · obtain ⟨gX, oX, d1, hpX, hgX, hdX, hxX⟩ := ExAt.part hX k hlt
              obtain ⟨gY, oY, d2, hpY, hgY, hdY, hxY⟩ := ExAt.part hY k (by rw [← hlen]; exact hlt)
              rw [hpX] at G1
              rw [hpY] at G2
              refine wp_seq_k (fun K6 hK6 => ?_)
              refine wp_seq_k (fun K7 hK7 => ?_)
              refine wp_region_lit ?_
              refine wl_yield (o := ⟨_, _, _, _, _, _⟩) (.int .i64 (k : Nat)) (yl_move (by rfl) _ rfl _ rfl) ?_
              simp only [Act.put, List.setIfInBounds_toArray, List.set_cons_zero, List.set_cons_succ]
              refine wl_yield (o := ⟨_, _, _, _, _, _⟩) (.pointer (some ⟨g1, 6, none⟩)) (yt_fEx3 (by rfl) _ rfl g1 0 rfl) ?_
              simp only [Act.put, List.setIfInBounds_toArray, List.set_cons_zero, List.set_cons_succ]
              refine wl_yield (o := ⟨_, _, _, _, _, _⟩) (.slice ((some ⟨gX, oX, none⟩)) c.n c.c) (yt_ldLx (by rfl) _ rfl _ _ rfl ((some ⟨gX, oX, none⟩)) c.n c.c (fun _ h => by subst h; exact cell_heap G1 6)) ?_
              simp only [Act.put, List.setIfInBounds_toArray, List.set_cons_zero, List.set_cons_succ]
              refine wl_yield (o := ⟨_, _, _, _, _, _⟩) (.int .i64 (c.n : Nat)) (yt_lenX (by rfl) _ rfl ((some ⟨gX, oX, none⟩)) c.n c.c rfl) ?_
              simp only [Act.put, List.setIfInBounds_toArray, List.set_cons_zero, List.set_cons_succ]
              refine wl_yield (o := ⟨_, _, _, _, _, _⟩) (.bool true) (yt_lssI (by rfl) _ _ _ rfl (((k : Nat) : Int)) (((c.n : Nat) : Int)) true rfl rfl (decide_eq_true (by have := hE1.n; omega))) ?_
              simp only [Act.put, List.setIfInBounds_toArray, List.set_cons_zero, List.set_cons_succ]
              refine wpList_nil ?_
              refine hK7 _ _ ?_
              clear hK7 K7
              refine wp_cond_true rfl ?_
              refine wp_skip ?_
              refine hK6 _ _ ?_
              clear hK6 K6
              refine wp_seq_k (fun K8 hK8 => ?_)
              refine wp_block ?_
              refine wp_seq_k (fun K9 hK9 => ?_)
              have fX := hdX.on hgX (below_none D)
              have fY := hdY.on hgY (below_none D)
              refine wp_region_late (S := fun w' => w'.heap[g1]? = some (.cells #[.int .i64 (c.k), .int .i64 (c.t), .bool (c.s.a), .slice c.s.p c.s.n c.s.c, .bool (c.s.d), .slice c.s.q c.s.m c.s.e, .slice ((some ⟨gX, oX, none⟩)) c.n c.c] 28 (0, 0)) ∧ w'.heap[g2]? = some (.cells #[.int .i64 (d.k), .int .i64 (d.t), .bool (d.s.a), .slice d.s.p d.s.n d.s.c, .bool (d.s.d), .slice d.s.q d.s.m d.s.e, .slice ((some ⟨gY, oY, none⟩)) d.n d.c] 28 (0, 0)) ∧ EcAt w' gX (oX + k * 7) d1 ∧ EcAt w' gY (oY + k * 7) d2) (late := fun j => [].contains j) (by kernel_rfl) ?_
              have kb : Below wr.heap.size wr wr.drew := (Below.refl _ wr).drew
              replace D := grown_below D kb
              replace G1 := heap_on G1 kb
              replace G2 := heap_on G2 kb
              replace fX := hdX.on hgX (below_none D)
              replace fY := hdY.on hgY (below_none D)
              clear kb
              generalize wr.drew = v4 at D G1 G2 fX fY ⊢
              refine wpAnyL_pure (i := 0) (oi := ⟨_, _, _, _, _, _⟩) (v := .pointer (some ⟨g1, 6, none⟩)) rfl (by kernel_rfl) (by kernel_rfl) (by kernel_rfl) (fun _ _ _ h => h) (yt_fEx3 (by rfl) _ rfl g1 0 rfl) ?_
              simp only [Act.put, List.setIfInBounds_toArray, List.set_cons_zero, List.set_cons_succ]
              refine wpAnyL_load (i := 1) (oi := ⟨_, _, _, _, _, _⟩) (v := .slice ((some ⟨gX, oX, none⟩)) c.n c.c) rfl (by kernel_rfl) (by kernel_rfl) (by kernel_rfl) (by kernel_rfl) (fun _ _ _ h => h) (yt_ldLx (by rfl) _ rfl _ _ rfl ((some ⟨gX, oX, none⟩)) c.n c.c (fun _ h => cell_heap h.1 6)) ⟨G1, G2, fX, fY⟩ ?_
              simp only [Act.put, List.setIfInBounds_toArray, List.set_cons_zero, List.set_cons_succ]
              refine wpAnyL_pure (i := 2) (oi := ⟨_, _, _, _, _, _⟩) (v := .int .i64 (k : Nat)) rfl (by kernel_rfl) (by kernel_rfl) (by kernel_rfl) (fun _ _ _ h => h) (yl_move (by rfl) _ rfl _ rfl) ?_
              simp only [Act.put, List.setIfInBounds_toArray, List.set_cons_zero, List.set_cons_succ]
              refine wpAnyL_pure (i := 3) (oi := ⟨_, _, _, _, _, _⟩) (v := .pointer (some ⟨gX, oX + k * 7, none⟩)) rfl (by kernel_rfl) (by kernel_rfl) (by kernel_rfl) (fun _ _ _ h => h) (yt_atX (by rfl) _ _ rfl gX oX _ _ k rfl rfl (by have := hE1.n; omega)) ?_
              simp only [Act.put, List.setIfInBounds_toArray, List.set_cons_zero, List.set_cons_succ]
              refine wpAnyL_load (i := 4) (oi := ⟨_, _, _, _, _, _⟩) (v := EC.val d1) rfl (by kernel_rfl) (by kernel_rfl) (by kernel_rfl) (by kernel_rfl) (fun _ _ _ h => h) (yl_ex (by rfl) _ rfl _ _ rfl (c := d1) (fun _ h => h.2.2.1)) ⟨G1, G2, fX, fY⟩ ?_
              simp only [Act.put, List.setIfInBounds_toArray, List.set_cons_zero, List.set_cons_succ]
              refine wpAnyL_pure (i := 5) (oi := ⟨_, _, _, _, _, _⟩) (v := .pointer (some ⟨g2, 6, none⟩)) rfl (by kernel_rfl) (by kernel_rfl) (by kernel_rfl) (fun _ _ _ h => h) (yt_fEx3 (by rfl) _ rfl g2 0 rfl) ?_
              simp only [Act.put, List.setIfInBounds_toArray, List.set_cons_zero, List.set_cons_succ]
              refine wpAnyL_load (i := 6) (oi := ⟨_, _, _, _, _, _⟩) (v := .slice ((some ⟨gY, oY, none⟩)) d.n d.c) rfl (by kernel_rfl) (by kernel_rfl) (by kernel_rfl) (by kernel_rfl) (fun _ _ _ h => h) (yt_ldLx (by rfl) _ rfl _ _ rfl ((some ⟨gY, oY, none⟩)) d.n d.c (fun _ h => cell_heap h.2.1 6)) ⟨G1, G2, fX, fY⟩ ?_
              simp only [Act.put, List.setIfInBounds_toArray, List.set_cons_zero, List.set_cons_succ]
              refine wpAnyL_pure (i := 7) (oi := ⟨_, _, _, _, _, _⟩) (v := .int .i64 (k : Nat)) rfl (by kernel_rfl) (by kernel_rfl) (by kernel_rfl) (fun _ _ _ h => h) (yl_move (by rfl) _ rfl _ rfl) ?_
              simp only [Act.put, List.setIfInBounds_toArray, List.set_cons_zero, List.set_cons_succ]
              refine wpAnyL_pure (i := 8) (oi := ⟨_, _, _, _, _, _⟩) (v := .pointer (some ⟨gY, oY + k * 7, none⟩)) rfl (by kernel_rfl) (by kernel_rfl) (by kernel_rfl) (fun _ _ _ h => h) (yt_atX (by rfl) _ _ rfl gY oY _ _ k rfl rfl (by have := hE1.n; omega)) ?_
              simp only [Act.put, List.setIfInBounds_toArray, List.set_cons_zero, List.set_cons_succ]
              refine wpAnyL_load (i := 9) (oi := ⟨_, _, _, _, _, _⟩) (v := EC.val d2) rfl (by kernel_rfl) (by kernel_rfl) (by kernel_rfl) (by kernel_rfl) (fun _ _ _ h => h) (yl_ex (by rfl) _ rfl _ _ rfl (c := d2) (fun _ h => h.2.2.2)) ⟨G1, G2, fX, fY⟩ ?_
              simp only [Act.put, List.setIfInBounds_toArray, List.set_cons_zero, List.set_cons_succ]
              refine wpAnyL_all (rs := [10]) (by kernel_rfl) (by simp) ?_
              intro j hj
              have hj := List.mem_singleton.1 hj
              subst hj
              refine ot_call (o := ⟨_, _, _, _, _, _⟩) rfl (by rfl) 17 _ _ rfl #[EC.val d1, EC.val d2] rfl (run_call Tryz.func17 (by kernel_rfl) (by kernel_rfl)) ?_
              refine (IH d1 d2 _ _ _ (ExAt.on (below_none D) n hxX) (ExAt.on (below_none D) n hxY)).mono ?_
              rintro r v5 (⟨⟨b, rfl, hb⟩, kb⟩)
              replace D := grown_below D kb
              replace G1 := heap_on G1 kb
              replace G2 := heap_on G2 kb
              replace fX := hdX.on hgX (below_none D)
              replace fY := hdY.on hgY (below_none D)
              clear kb
              refine Or.inl ⟨.bool b, rfl, ⟨fun _ _ => ⟨G1, G2, fX, fY⟩, ?_⟩⟩
              simp only [Act.put, List.setIfInBounds_toArray, List.set_cons_zero, List.set_cons_succ]
              refine wpAnyL_pure (i := 11) (oi := ⟨_, _, _, _, _, _⟩) (v := .bool (!b)) rfl (by kernel_rfl) (by kernel_rfl) (by kernel_rfl) (fun _ _ _ h => h) (yl_not (by rfl) _ _ rfl b rfl) ?_
              simp only [Act.put, List.setIfInBounds_toArray, List.set_cons_zero, List.set_cons_succ]
              refine wpAnyL_done (by kernel_rfl) ?_ _
              refine hK9 _ _ ?_
              clear hK9 K9
              refine wp_cond_split (t := (!b)) rfl (fun hc => ?_) (fun hc => ?_)
              · have hq : ¬ x.sub.getD k noX = y.sub.getD k noX := fun h => by rw [hb.2 h] at hc; cases hc
                refine wp_seq_k (fun K10 hK10 => ?_)
                refine wp_region_lit ?_
                refine wl_yield (o := ⟨_, _, _, _, _, _⟩) (.bool false) (yl_assign (by rfl) _ rfl _ rfl) ?_
                simp only [Act.put, List.setIfInBounds_toArray, List.set_cons_zero, List.set_cons_succ]
                refine wpList_nil ?_
                refine hK10 _ _ ?_
                clear hK10 K10
                refine wp_ret ?_
                go_ret
                exact ⟨⟨false, rfl, iff_no (fun e => hq (by rw [e]))⟩, below_none D⟩
              · have hq : x.sub.getD k noX = y.sub.getD k noX := hb.1 (by cases b <;> first | rfl | cases hc)
                refine wp_skip ?_
                refine hK8 _ _ ?_
                clear hK8 K8
                refine wp_region_lit ?_
                refine wl_yield (o := ⟨_, _, _, _, _, _⟩) (.int .i64 (k : Nat)) (yl_move (by rfl) _ rfl _ rfl) ?_
                simp only [Act.put, List.setIfInBounds_toArray, List.set_cons_zero, List.set_cons_succ]
                refine wl_yield (o := ⟨_, _, _, _, _, _⟩) (.int .i64 (k + 1 : Nat)) (yt_addI (by rfl) _ _ _ rfl (((k : Nat) : Int)) 1 (((k + 1 : Nat) : Int)) rfl rfl (by omega) (by omega) (by omega)) ?_
                simp only [Act.put, List.setIfInBounds_toArray, List.set_cons_zero, List.set_cons_succ]
                refine wl_yield (o := ⟨_, _, _, _, _, _⟩) (.int .i64 (k + 1 : Nat)) (yl_assign (by rfl) _ rfl _ rfl) ?_
                simp only [Act.put, List.setIfInBounds_toArray, List.set_cons_zero, List.set_cons_succ]
                refine wpList_nil ?_
                show _ ∧ _
                go_roundw
                case rel =>
                  rw [← hpX] at G1
                  rw [← hpY] at G2
                  refine ⟨k + 1, rfl, by omega, (fun j hj => ?_), G1, G2, D⟩
                  rcases Nat.lt_or_ge j k with h | h
                  · exact hall j h
                  · obtain rfl : j = k := by omega
                    exact hq
                case measure => simp [intOf]; omega
            · obtain rfl : k = x.sub.length := by omega
              refine wp_seq_k (fun K6 hK6 => ?_)
              refine wp_seq_k (fun K7 hK7 => ?_)
              refine wp_region_lit ?_
              refine wl_yield (o := ⟨_, _, _, _, _, _⟩) (.int .i64 (x.sub.length : Nat)) (yl_move (by rfl) _ rfl _ rfl) ?_
              simp only [Act.put, List.setIfInBounds_toArray, List.set_cons_zero, List.set_cons_succ]
              refine wl_yield (o := ⟨_, _, _, _, _, _⟩) (.pointer (some ⟨g1, 6, none⟩)) (yt_fEx3 (by rfl) _ rfl g1 0 rfl) ?_
              simp only [Act.put, List.setIfInBounds_toArray, List.set_cons_zero, List.set_cons_succ]
              refine wl_yield (o := ⟨_, _, _, _, _, _⟩) (.slice c.p c.n c.c) (yt_ldLx (by rfl) _ rfl _ _ rfl c.p c.n c.c (fun _ h => by subst h; exact cell_heap G1 6)) ?_
              simp only [Act.put, List.setIfInBounds_toArray, List.set_cons_zero, List.set_cons_succ]
              refine wl_yield (o := ⟨_, _, _, _, _, _⟩) (.int .i64 (c.n : Nat)) (yt_lenX (by rfl) _ rfl c.p c.n c.c rfl) ?_
              simp only [Act.put, List.setIfInBounds_toArray, List.set_cons_zero, List.set_cons_succ]
              refine wl_yield (o := ⟨_, _, _, _, _, _⟩) (.bool false) (yt_lssI (by rfl) _ _ _ rfl (((x.sub.length : Nat) : Int)) (((c.n : Nat) : Int)) false rfl rfl (decide_eq_false (by have := hE1.n; omega))) ?_
              simp only [Act.put, List.setIfInBounds_toArray, List.set_cons_zero, List.set_cons_succ]
              refine wpList_nil ?_
              refine hK7 _ _ ?_
              clear hK7 K7
              refine wp_cond_false rfl ?_
              refine wp_exit ?_
              refine hK4 _ _ ?_
              clear hK6 K6 hK4 K4
              refine wp_seq_k (fun K8 hK8 => ?_)
              refine wp_region_lit ?_
              refine wl_yield (o := ⟨_, _, _, _, _, _⟩) (.bool true) (yl_assign (by rfl) _ rfl _ rfl) ?_
              simp only [Act.put, List.setIfInBounds_toArray, List.set_cons_zero, List.set_cons_succ]
              refine wpList_nil ?_
              refine hK8 _ _ ?_
              clear hK8 K8
              refine wp_ret ?_
              go_ret
              exact ⟨⟨true, rfl, iff_yes (exV_ext (by rw [← hE1.k, ← hE2.k]; exact h0) (by rw [← hE1.t, ← hE2.t]; exact h1) ((sameB_iff _ _).1 h2) hlen hall)⟩, below_none D⟩
        · refine wp_region_lit ?_
          refine wl_yield (o := ⟨_, _, _, _, _, _⟩) (.pointer (some ⟨g1, 0, none⟩)) (yt_fEx0 (by rfl) _ rfl g1 0 rfl) ?_
          simp only [Act.put, List.setIfInBounds_toArray, List.set_cons_zero, List.set_cons_succ]
          refine wl_yield (o := ⟨_, _, _, _, _, _⟩) (.int .i64 (c.k)) (yt_ldI (by rfl) _ rfl _ _ rfl c.k (fun _ h => by subst h; exact cell_heap G1 0)) ?_
          simp only [Act.put, List.setIfInBounds_toArray, List.set_cons_zero, List.set_cons_succ]
          refine wl_yield (o := ⟨_, _, _, _, _, _⟩) (.pointer (some ⟨g2, 0, none⟩)) (yt_fEx0 (by rfl) _ rfl g2 0 rfl) ?_
          simp only [Act.put, List.setIfInBounds_toArray, List.set_cons_zero, List.set_cons_succ]
          refine wl_yield (o := ⟨_, _, _, _, _, _⟩) (.int .i64 (d.k)) (yt_ldI (by rfl) _ rfl _ _ rfl d.k (fun _ h => by subst h; exact cell_heap G2 0)) ?_
          simp only [Act.put, List.setIfInBounds_toArray, List.set_cons_zero, List.set_cons_succ]
          refine wl_yield (o := ⟨_, _, _, _, _, _⟩) (.bool false) (yt_neqI (by rfl) _ _ _ rfl c.k d.k false rfl rfl (decide_eq_false (by omega))) ?_
          simp only [Act.put, List.setIfInBounds_toArray, List.set_cons_zero, List.set_cons_succ]
          refine wl_yield (o := ⟨_, _, _, _, _, _⟩) (.bool false) (yl_move (by rfl) _ rfl _ rfl) ?_
          simp only [Act.put, List.setIfInBounds_toArray, List.set_cons_zero, List.set_cons_succ]
          refine wl_yield (o := ⟨_, _, _, _, _, _⟩) (.pointer (some ⟨g1, 1, none⟩)) (yt_fEx1 (by rfl) _ rfl g1 0 rfl) ?_
          simp only [Act.put, List.setIfInBounds_toArray, List.set_cons_zero, List.set_cons_succ]
          refine wl_yield (o := ⟨_, _, _, _, _, _⟩) (.int .i64 (c.t)) (yt_ldI (by rfl) _ rfl _ _ rfl c.t (fun _ h => by subst h; exact cell_heap G1 1)) ?_
          simp only [Act.put, List.setIfInBounds_toArray, List.set_cons_zero, List.set_cons_succ]
          refine wl_yield (o := ⟨_, _, _, _, _, _⟩) (.pointer (some ⟨g2, 1, none⟩)) (yt_fEx1 (by rfl) _ rfl g2 0 rfl) ?_
          simp only [Act.put, List.setIfInBounds_toArray, List.set_cons_zero, List.set_cons_succ]
          refine wl_yield (o := ⟨_, _, _, _, _, _⟩) (.int .i64 (d.t)) (yt_ldI (by rfl) _ rfl _ _ rfl d.t (fun _ h => by subst h; exact cell_heap G2 1)) ?_
          simp only [Act.put, List.setIfInBounds_toArray, List.set_cons_zero, List.set_cons_succ]
          refine wl_yield (o := ⟨_, _, _, _, _, _⟩) (.bool false) (yt_neqI (by rfl) _ _ _ rfl c.t d.t false rfl rfl (decide_eq_false (by omega))) ?_
          simp only [Act.put, List.setIfInBounds_toArray, List.set_cons_zero, List.set_cons_succ]
          refine wl_yield (o := ⟨_, _, _, _, _, _⟩) (.bool false) (yl_pickF (by rfl) _ _ _ rfl rfl _ rfl) ?_
          simp only [Act.put, List.setIfInBounds_toArray, List.set_cons_zero, List.set_cons_succ]
          refine wl_yield (o := ⟨_, _, _, _, _, _⟩) (.bool false) (yl_move (by rfl) _ rfl _ rfl) ?_
          simp only [Act.put, List.setIfInBounds_toArray, List.set_cons_zero, List.set_cons_succ]
          refine wl_yield (o := ⟨_, _, _, _, _, _⟩) (.pointer (some ⟨g1, 2, none⟩)) (yt_fEx2 (by rfl) _ rfl g1 0 rfl) ?_
          simp only [Act.put, List.setIfInBounds_toArray, List.set_cons_zero, List.set_cons_succ]
          refine wl_yield (o := ⟨_, _, _, _, _, _⟩) (SC.val c.s) (yl_set (by rfl) _ rfl _ 2 rfl _ _ _ _ (fun _ h => by subst h; exact ⟨cell_heap G1 2, cell_heap G1 3, cell_heap G1 4, cell_heap G1 5⟩)) ?_
          simp only [Act.put, List.setIfInBounds_toArray, List.set_cons_zero, List.set_cons_succ]
          refine wl_yield (o := ⟨_, _, _, _, _, _⟩) (.pointer (some ⟨g2, 2, none⟩)) (yt_fEx2 (by rfl) _ rfl g2 0 rfl) ?_
          simp only [Act.put, List.setIfInBounds_toArray, List.set_cons_zero, List.set_cons_succ]
          refine wl_yield (o := ⟨_, _, _, _, _, _⟩) (SC.val d.s) (yl_set (by rfl) _ rfl _ 2 rfl _ _ _ _ (fun _ h => by subst h; exact ⟨cell_heap G2 2, cell_heap G2 3, cell_heap G2 4, cell_heap G2 5⟩)) ?_
          simp only [Act.put, List.setIfInBounds_toArray, List.set_cons_zero, List.set_cons_succ]
          refine wt_call (o := ⟨_, _, _, _, _, _⟩) (by rfl) 44 _ _ rfl #[SC.val c.s, SC.val d.s] rfl (run_call Tryz.func44 (by kernel_rfl) (by kernel_rfl)) ?_
          refine (refSame_any _ _ x.set y.set _ (hE1.s.on (below_none D)) (hE2.s.on (below_none D))).mono ?_
          rintro r v3 ⟨rfl, kb⟩
          replace D := grown_below D kb
          replace G1 := heap_on G1 kb
          replace G2 := heap_on G2 kb
          clear kb
          refine Or.inl ⟨.bool true, by rw [h2], ?_⟩
          simp only [Act.put, List.setIfInBounds_toArray, List.set_cons_zero, List.set_cons_succ]
          refine wl_yield (o := ⟨_, _, _, _, _, _⟩) (.bool false) (yl_not (by rfl) _ _ rfl true rfl) ?_
          simp only [Act.put, List.setIfInBounds_toArray, List.set_cons_zero, List.set_cons_succ]
          refine wl_yield (o := ⟨_, _, _, _, _, _⟩) (.bool false) (yl_pickF (by rfl) _ _ _ rfl rfl _ rfl) ?_
          simp only [Act.put, List.setIfInBounds_toArray, List.set_cons_zero, List.set_cons_succ]
          refine wl_yield (o := ⟨_, _, _, _, _, _⟩) (.bool false) (yl_move (by rfl) _ rfl _ rfl) ?_
          simp only [Act.put, List.setIfInBounds_toArray, List.set_cons_zero, List.set_cons_succ]
          refine wl_yield (o := ⟨_, _, _, _, _, _⟩) (.pointer (some ⟨g1, 6, none⟩)) (yt_fEx3 (by rfl) _ rfl g1 0 rfl) ?_
          simp only [Act.put, List.setIfInBounds_toArray, List.set_cons_zero, List.set_cons_succ]
          refine wl_yield (o := ⟨_, _, _, _, _, _⟩) (.slice c.p c.n c.c) (yt_ldLx (by rfl) _ rfl _ _ rfl c.p c.n c.c (fun _ h => by subst h; exact cell_heap G1 6)) ?_
          simp only [Act.put, List.setIfInBounds_toArray, List.set_cons_zero, List.set_cons_succ]
          refine wl_yield (o := ⟨_, _, _, _, _, _⟩) (.int .i64 (c.n : Nat)) (yt_lenX (by rfl) _ rfl c.p c.n c.c rfl) ?_
          simp only [Act.put, List.setIfInBounds_toArray, List.set_cons_zero, List.set_cons_succ]
          refine wl_yield (o := ⟨_, _, _, _, _, _⟩) (.pointer (some ⟨g2, 6, none⟩)) (yt_fEx3 (by rfl) _ rfl g2 0 rfl) ?_
          simp only [Act.put, List.setIfInBounds_toArray, List.set_cons_zero, List.set_cons_succ]
          refine wl_yield (o := ⟨_, _, _, _, _, _⟩) (.slice d.p d.n d.c) (yt_ldLx (by rfl) _ rfl _ _ rfl d.p d.n d.c (fun _ h => by subst h; exact cell_heap G2 6)) ?_
          simp only [Act.put, List.setIfInBounds_toArray, List.set_cons_zero, List.set_cons_succ]
          refine wl_yield (o := ⟨_, _, _, _, _, _⟩) (.int .i64 (d.n : Nat)) (yt_lenX (by rfl) _ rfl d.p d.n d.c rfl) ?_
          simp only [Act.put, List.setIfInBounds_toArray, List.set_cons_zero, List.set_cons_succ]
          refine wl_yield (o := ⟨_, _, _, _, _, _⟩) (.bool true) (yt_neqI (by rfl) _ _ _ rfl (((c.n : Nat) : Int)) (((d.n : Nat) : Int)) true rfl rfl (decide_eq_true (by omega))) ?_
          simp only [Act.put, List.setIfInBounds_toArray, List.set_cons_zero, List.set_cons_succ]
          refine wl_yield (o := ⟨_, _, _, _, _, _⟩) (.bool true) (yl_pickF (by rfl) _ _ _ rfl rfl _ rfl) ?_
          simp only [Act.put, List.setIfInBounds_toArray, List.set_cons_zero, List.set_cons_succ]
          refine wpList_nil ?_
          refine hK3 _ _ ?_
          clear hK3 K3
          refine wp_cond_true rfl ?_
          refine wp_seq_k (fun K4 hK4 => ?_)
          refine wp_region_lit ?_
          refine wl_yield (o := ⟨_, _, _, _, _, _⟩) (.bool false) (yl_assign (by rfl) _ rfl _ rfl) ?_
          simp only [Act.put, List.setIfInBounds_toArray, List.set_cons_zero, List.set_cons_succ]
          refine wpList_nil ?_
          refine hK4 _ _ ?_
          clear hK4 K4
          refine wp_ret ?_
          go_ret
          exact ⟨⟨false, rfl, iff_no (fun e => h3 (by rw [hE1.n, hE2.n, e]))⟩, below_none D⟩
    · refine wp_region_lit ?_
      refine wl_yield (o := ⟨_, _, _, _, _, _⟩) (.pointer (some ⟨g1, 0, none⟩)) (yt_fEx0 (by rfl) _ rfl g1 0 rfl) ?_
      simp only [Act.put, List.setIfInBounds_toArray, List.set_cons_zero, List.set_cons_succ]
      refine wl_yield (o := ⟨_, _, _, _, _, _⟩) (.int .i64 (c.k)) (yt_ldI (by rfl) _ rfl _ _ rfl c.k (fun _ h => by subst h; exact cell_heap G1 0)) ?_
      simp only [Act.put, List.setIfInBounds_toArray, List.set_cons_zero, List.set_cons_succ]
      refine wl_yield (o := ⟨_, _, _, _, _, _⟩) (.pointer (some ⟨g2, 0, none⟩)) (yt_fEx0 (by rfl) _ rfl g2 0 rfl) ?_
      simp only [Act.put, List.setIfInBounds_toArray, List.set_cons_zero, List.set_cons_succ]
      refine wl_yield (o := ⟨_, _, _, _, _, _⟩) (.int .i64 (d.k)) (yt_ldI (by rfl) _ rfl _ _ rfl d.k (fun _ h => by subst h; exact cell_heap G2 0)) ?_
      simp only [Act.put, List.setIfInBounds_toArray, List.set_cons_zero, List.set_cons_succ]
      refine wl_yield (o := ⟨_, _, _, _, _, _⟩) (.bool false) (yt_neqI (by rfl) _ _ _ rfl c.k d.k false rfl rfl (decide_eq_false (by omega))) ?_
      simp only [Act.put, List.setIfInBounds_toArray, List.set_cons_zero, List.set_cons_succ]
      refine wl_yield (o := ⟨_, _, _, _, _, _⟩) (.bool false) (yl_move (by rfl) _ rfl _ rfl) ?_
      simp only [Act.put, List.setIfInBounds_toArray, List.set_cons_zero, List.set_cons_succ]
      refine wl_yield (o := ⟨_, _, _, _, _, _⟩) (.pointer (some ⟨g1, 1, none⟩)) (yt_fEx1 (by rfl) _ rfl g1 0 rfl) ?_
      simp only [Act.put, List.setIfInBounds_toArray, List.set_cons_zero, List.set_cons_succ]
      refine wl_yield (o := ⟨_, _, _, _, _, _⟩) (.int .i64 (c.t)) (yt_ldI (by rfl) _ rfl _ _ rfl c.t (fun _ h => by subst h; exact cell_heap G1 1)) ?_
      simp only [Act.put, List.setIfInBounds_toArray, List.set_cons_zero, List.set_cons_succ]
      refine wl_yield (o := ⟨_, _, _, _, _, _⟩) (.pointer (some ⟨g2, 1, none⟩)) (yt_fEx1 (by rfl) _ rfl g2 0 rfl) ?_
      simp only [Act.put, List.setIfInBounds_toArray, List.set_cons_zero, List.set_cons_succ]
      refine wl_yield (o := ⟨_, _, _, _, _, _⟩) (.int .i64 (d.t)) (yt_ldI (by rfl) _ rfl _ _ rfl d.t (fun _ h => by subst h; exact cell_heap G2 1)) ?_
      simp only [Act.put, List.setIfInBounds_toArray, List.set_cons_zero, List.set_cons_succ]
      refine wl_yield (o := ⟨_, _, _, _, _, _⟩) (.bool true) (yt_neqI (by rfl) _ _ _ rfl c.t d.t true rfl rfl (decide_eq_true (by omega))) ?_
      simp only [Act.put, List.setIfInBounds_toArray, List.set_cons_zero, List.set_cons_succ]
      refine wl_yield (o := ⟨_, _, _, _, _, _⟩) (.bool true) (yl_pickF (by rfl) _ _ _ rfl rfl _ rfl) ?_
      simp only [Act.put, List.setIfInBounds_toArray, List.set_cons_zero, List.set_cons_succ]
      refine wl_yield (o := ⟨_, _, _, _, _, _⟩) (.bool true) (yl_move (by rfl) _ rfl _ rfl) ?_
      simp only [Act.put, List.setIfInBounds_toArray, List.set_cons_zero, List.set_cons_succ]
      with_reducible refine wl_yield (o := ⟨_, _, _, _, _, _⟩) undef (yl_undef (by kernel_rfl)) ?_
      simp only [Act.put, List.setIfInBounds_toArray, List.set_cons_zero, List.set_cons_succ]
      with_reducible refine wl_yield (o := ⟨_, _, _, _, _, _⟩) undef (yl_undef (by kernel_rfl)) ?_
      simp only [Act.put, List.setIfInBounds_toArray, List.set_cons_zero, List.set_cons_succ]
      with_reducible refine wl_yield (o := ⟨_, _, _, _, _, _⟩) undef (yl_undef (by kernel_rfl)) ?_
      simp only [Act.put, List.setIfInBounds_toArray, List.set_cons_zero, List.set_cons_succ]
      with_reducible refine wl_yield (o := ⟨_, _, _, _, _, _⟩) undef (yl_undef (by kernel_rfl)) ?_
      simp only [Act.put, List.setIfInBounds_toArray, List.set_cons_zero, List.set_cons_succ]
      with_reducible refine wl_yield (o := ⟨_, _, _, _, _, _⟩) undef (yl_undef (by kernel_rfl)) ?_
      simp only [Act.put, List.setIfInBounds_toArray, List.set_cons_zero, List.set_cons_succ]
      with_reducible refine wl_yield (o := ⟨_, _, _, _, _, _⟩) undef (yl_undef (by kernel_rfl)) ?_
      simp only [Act.put, List.setIfInBounds_toArray, List.set_cons_zero, List.set_cons_succ]
      refine wl_yield (o := ⟨_, _, _, _, _, _⟩) (.bool true) (yl_pickT (by rfl) _ _ _ rfl rfl _ rfl) ?_
      simp only [Act.put, List.setIfInBounds_toArray, List.set_cons_zero, List.set_cons_succ]
      refine wl_yield (o := ⟨_, _, _, _, _, _⟩) (.bool true) (yl_move (by rfl) _ rfl _ rfl) ?_
      simp only [Act.put, List.setIfInBounds_toArray, List.set_cons_zero, List.set_cons_succ]
      with_reducible refine wl_yield (o := ⟨_, _, _, _, _, _⟩) undef (yl_undef (by kernel_rfl)) ?_
      simp only [Act.put, List.setIfInBounds_toArray, List.set_cons_zero, List.set_cons_succ]
      with_reducible refine wl_yield (o := ⟨_, _, _, _, _, _⟩) undef (yl_undef (by kernel_rfl)) ?_
      simp only [Act.put, List.setIfInBounds_toArray, List.set_cons_zero, List.set_cons_succ]
      with_reducible refine wl_yield (o := ⟨_, _, _, _, _, _⟩) undef (yl_undef (by kernel_rfl)) ?_
      simp only [Act.put, List.setIfInBounds_toArray, List.set_cons_zero, List.set_cons_succ]
      with_reducible refine wl_yield (o := ⟨_, _, _, _, _, _⟩) undef (yl_undef (by kernel_rfl)) ?_
      simp only [Act.put, List.setIfInBounds_toArray, List.set_cons_zero, List.set_cons_succ]
      with_reducible refine wl_yield (o := ⟨_, _, _, _, _, _⟩) undef (yl_undef (by kernel_rfl)) ?_
      simp only [Act.put, List.setIfInBounds_toArray, List.set_cons_zero, List.set_cons_succ]
      with_reducible refine wl_yield (o := ⟨_, _, _, _, _, _⟩) undef (yl_undef (by kernel_rfl)) ?_
      simp only [Act.put, List.setIfInBounds_toArray, List.set_cons_zero, List.set_cons_succ]
      with_reducible refine wl_yield (o := ⟨_, _, _, _, _, _⟩) undef (yl_undef (by kernel_rfl)) ?_
      simp only [Act.put, List.setIfInBounds_toArray, List.set_cons_zero, List.set_cons_succ]
      refine wl_yield (o := ⟨_, _, _, _, _, _⟩) (.bool true) (yl_pickT (by rfl) _ _ _ rfl rfl _ rfl) ?_
      simp only [Act.put, List.setIfInBounds_toArray, List.set_cons_zero, List.set_cons_succ]
      refine wpList_nil ?_
      refine hK3 _ _ ?_
      clear hK3 K3
      refine wp_cond_true rfl ?_
      refine wp_seq_k (fun K4 hK4 => ?_)
      refine wp_region_lit ?_
      refine wl_yield (o := ⟨_, _, _, _, _, _⟩) (.bool false) (yl_assign (by rfl) _ rfl _ rfl) ?_
      simp only [Act.put, List.setIfInBounds_toArray, List.set_cons_zero, List.set_cons_succ]
      refine wpList_nil ?_
      refine hK4 _ _ ?_
      clear hK4 K4
      refine wp_ret ?_
      go_ret
      exact ⟨⟨false, rfl, iff_no (fun e => h1 (by rw [hE1.t, hE2.t, e]))⟩, below_none D⟩
  · refine wp_region_lit ?_
    refine wl_yield (o := ⟨_, _, _, _, _, _⟩) (.pointer (some ⟨g1, 0, none⟩)) (yt_fEx0 (by rfl) _ rfl g1 0 rfl) ?_
    simp only [Act.put, List.setIfInBounds_toArray, List.set_cons_zero, List.set_cons_succ]
    refine wl_yield (o := ⟨_, _, _, _, _, _⟩) (.int .i64 (c.k)) (yt_ldI (by rfl) _ rfl _ _ rfl c.k (fun _ h => by subst h; exact cell_heap G1 0)) ?_
    simp only [Act.put, List.setIfInBounds_toArray, List.set_cons_zero, List.set_cons_succ]
    refine wl_yield (o := ⟨_, _, _, _, _, _⟩) (.pointer (some ⟨g2, 0, none⟩)) (yt_fEx0 (by rfl) _ rfl g2 0 rfl) ?_
    simp only [Act.put, List.setIfInBounds_toArray, List.set_cons_zero, List.set_cons_succ]
    refine wl_yield (o := ⟨_, _, _, _, _, _⟩) (.int .i64 (d.k)) (yt_ldI (by rfl) _ rfl _ _ rfl d.k (fun _ h => by subst h; exact cell_heap G2 0)) ?_
    simp only [Act.put, List.setIfInBounds_toArray, List.set_cons_zero, List.set_cons_succ]
    refine wl_yield (o := ⟨_, _, _, _, _, _⟩) (.bool true) (yt_neqI (by rfl) _ _ _ rfl c.k d.k true rfl rfl (decide_eq_true (by omega))) ?_
    simp only [Act.put, List.setIfInBounds_toArray, List.set_cons_zero, List.set_cons_succ]
    refine wl_yield (o := ⟨_, _, _, _, _, _⟩) (.bool true) (yl_move (by rfl) _ rfl _ rfl) ?_
    simp only [Act.put, List.setIfInBounds_toArray, List.set_cons_zero, List.set_cons_succ]
    with_reducible refine wl_yield (o := ⟨_, _, _, _, _, _⟩) undef (yl_undef (by kernel_rfl)) ?_
    simp only [Act.put, List.setIfInBounds_toArray, List.set_cons_zero, List.set_cons_succ]
    with_reducible refine wl_yield (o := ⟨_, _, _, _, _, _⟩) undef (yl_undef (by kernel_rfl)) ?_
    simp only [Act.put, List.setIfInBounds_toArray, List.set_cons_zero, List.set_cons_succ]
    with_reducible refine wl_yield (o := ⟨_, _, _, _, _, _⟩) undef (yl_undef (by kernel_rfl)) ?_
    simp only [Act.put, List.setIfInBounds_toArray, List.set_cons_zero, List.set_cons_succ]
    with_reducible refine wl_yield (o := ⟨_, _, _, _, _, _⟩) undef (yl_undef (by kernel_rfl)) ?_
    simp only [Act.put, List.setIfInBounds_toArray, List.set_cons_zero, List.set_cons_succ]
    with_reducible refine wl_yield (o := ⟨_, _, _, _, _, _⟩) undef (yl_undef (by kernel_rfl)) ?_
    simp only [Act.put, List.setIfInBounds_toArray, List.set_cons_zero, List.set_cons_succ]
    refine wl_yield (o := ⟨_, _, _, _, _, _⟩) (.bool true) (yl_pickT (by rfl) _ _ _ rfl rfl _ rfl) ?_
    simp only [Act.put, List.setIfInBounds_toArray, List.set_cons_zero, List.set_cons_succ]
    refine wl_yield (o := ⟨_, _, _, _, _, _⟩) (.bool true) (yl_move (by rfl) _ rfl _ rfl) ?_
    simp only [Act.put, List.setIfInBounds_toArray, List.set_cons_zero, List.set_cons_succ]
    with_reducible refine wl_yield (o := ⟨_, _, _, _, _, _⟩) undef (yl_undef (by kernel_rfl)) ?_
    simp only [Act.put, List.setIfInBounds_toArray, List.set_cons_zero, List.set_cons_succ]
    with_reducible refine wl_yield (o := ⟨_, _, _, _, _, _⟩) undef (yl_undef (by kernel_rfl)) ?_
    simp only [Act.put, List.setIfInBounds_toArray, List.set_cons_zero, List.set_cons_succ]
    with_reducible refine wl_yield (o := ⟨_, _, _, _, _, _⟩) undef (yl_undef (by kernel_rfl)) ?_
    simp only [Act.put, List.setIfInBounds_toArray, List.set_cons_zero, List.set_cons_succ]
    with_reducible refine wl_yield (o := ⟨_, _, _, _, _, _⟩) undef (yl_undef (by kernel_rfl)) ?_
    simp only [Act.put, List.setIfInBounds_toArray, List.set_cons_zero, List.set_cons_succ]
    with_reducible refine wl_yield (o := ⟨_, _, _, _, _, _⟩) undef (yl_undef (by kernel_rfl)) ?_
    simp only [Act.put, List.setIfInBounds_toArray, List.set_cons_zero, List.set_cons_succ]
    with_reducible refine wl_yield (o := ⟨_, _, _, _, _, _⟩) undef (yl_undef (by kernel_rfl)) ?_
    simp only [Act.put, List.setIfInBounds_toArray, List.set_cons_zero, List.set_cons_succ]
    refine wl_yield (o := ⟨_, _, _, _, _, _⟩) (.bool true) (yl_pickT (by rfl) _ _ _ rfl rfl _ rfl) ?_
    simp only [Act.put, List.setIfInBounds_toArray, List.set_cons_zero, List.set_cons_succ]
    refine wl_yield (o := ⟨_, _, _, _, _, _⟩) (.bool true) (yl_move (by rfl) _ rfl _ rfl) ?_
    simp only [Act.put, List.setIfInBounds_toArray, List.set_cons_zero, List.set_cons_succ]
    with_reducible refine wl_yield (o := ⟨_, _, _, _, _, _⟩) undef (yl_undef (by kernel_rfl)) ?_
    simp only [Act.put, List.setIfInBounds_toArray, List.set_cons_zero, List.set_cons_succ]
    with_reducible refine wl_yield (o := ⟨_, _, _, _, _, _⟩) undef (yl_undef (by kernel_rfl)) ?_
    simp only [Act.put, List.setIfInBounds_toArray, List.set_cons_zero, List.set_cons_succ]
    with_reducible refine wl_yield (o := ⟨_, _, _, _, _, _⟩) undef (yl_undef (by kernel_rfl)) ?_
    simp only [Act.put, List.setIfInBounds_toArray, List.set_cons_zero, List.set_cons_succ]
    with_reducible refine wl_yield (o := ⟨_, _, _, _, _, _⟩) undef (yl_undef (by kernel_rfl)) ?_
    simp only [Act.put, List.setIfInBounds_toArray, List.set_cons_zero, List.set_cons_succ]
    with_reducible refine wl_yield (o := ⟨_, _, _, _, _, _⟩) undef (yl_undef (by kernel_rfl)) ?_
    simp only [Act.put, List.setIfInBounds_toArray, List.set_cons_zero, List.set_cons_succ]
    with_reducible refine wl_yield (o := ⟨_, _, _, _, _, _⟩) undef (yl_undef (by kernel_rfl)) ?_
    simp only [Act.put, List.setIfInBounds_toArray, List.set_cons_zero, List.set_cons_succ]
    with_reducible refine wl_yield (o := ⟨_, _, _, _, _, _⟩) undef (yl_undef (by kernel_rfl)) ?_
    simp only [Act.put, List.setIfInBounds_toArray, List.set_cons_zero, List.set_cons_succ]
    refine wl_yield (o := ⟨_, _, _, _, _, _⟩) (.bool true) (yl_pickT (by rfl) _ _ _ rfl rfl _ rfl) ?_
    simp only [Act.put, List.setIfInBounds_toArray, List.set_cons_zero, List.set_cons_succ]
    refine wpList_nil ?_
    refine hK3 _ _ ?_
    clear hK3 K3
    refine wp_cond_true rfl ?_
    refine wp_seq_k (fun K4 hK4 => ?_)
    refine wp_region_lit ?_
    refine wl_yield (o := ⟨_, _, _, _, _, _⟩) (.bool false) (yl_assign (by rfl) _ rfl _ rfl) ?_
    simp only [Act.put, List.setIfInBounds_toArray, List.set_cons_zero, List.set_cons_succ]
    refine wpList_nil ?_
    refine hK4 _ _ ?_
    clear hK4 K4
    refine wp_ret ?_
    go_ret
    exact ⟨⟨false, rfl, iff_no (fun e => h0 (by rw [hE1.k, hE2.k, e]))⟩, below_none D⟩

theorem refSameX : ∀ n, SameOr n
  | 0 => fun c d x y w h => by cases h
  | n + 1 => fun c d x y w hX hY => by
    obtain ⟨c', e1, hE1⟩ := hX.ec
    obtain ⟨d', e2, hE2⟩ := hY.ec
    obtain rfl := ec_inj e1
    obtain rfl := ec_inj e2
    exact refSame_step n (refSameX n) _ _ x y w hX hY hE1 hE2
end Go.Proofs.YtciflobdpenpaaaGreatDoor
/-
  The law TextOne.
-/
set_option linter.unusedSimpArgs false
set_option linter.unusedVariables false
namespace Go.Proofs.YtciflobdpenpaaaGreatDoor
open Go.RowKit

section
variable {ops : Array Oper} {S : World → Prop} {o : Oper} {a : Act}
end
end Go.Proofs.YtciflobdpenpaaaGreatDoor
/-
  The walks of the reference's digit and Quote.
-/
set_option linter.unusedSimpArgs false
set_option linter.unusedVariables false
namespace Go.Proofs.YtciflobdpenpaaaGreatDoor
open Go.RowKit

/-- A slice literal of bytes, in a block of its own. -/
theorem own_new (w : World) (cs : Array Value) (l : List UInt8) (h : cs.toList = Lib.byteCells l) (hl : l.length ≤ 1000) : Own (w.alloc (.cells cs 5)) w.heap.size (.slice (some ⟨w.heap.size, 0, none⟩) l.length l.length) l := by
  have hs : cs.size = l.length := by rw [← Array.length_toList, h]; simp [Lib.byteCells]
  refine ⟨by simp [Lib.byteCells], Or.inr ⟨w.heap.size, l.length, cs, rfl, Nat.le_refl _, heap_top _ _, Nat.le_refl _, by unfold maxLen; omega, by omega, ?_⟩⟩
  rw [h, List.take_of_length_le (by simp [Lib.byteCells])]

theorem digI_at (n : Nat) (h : n < 16) (W : World) : (Instr.index 9 (.string ⟨#[48, 49, 50, 51, 52, 53, 54, 55, 56, 57, 97, 98, 99, 100, 101, 102]⟩) (.int .i64 (n : Int))).run Tryz.prog W = .ok (.int .u8 ((hexD n).toNat : Int)) W := by
  have d0 : ∀ W, (Instr.index 9 (.string ⟨#[48, 49, 50, 51, 52, 53, 54, 55, 56, 57, 97, 98, 99, 100, 101, 102]⟩) (.int .i64 0)).run Tryz.prog W = .ok (.int .u8 48) W := fun _ => by kernel_rfl
  have d1 : ∀ W, (Instr.index 9 (.string ⟨#[48, 49, 50, 51, 52, 53, 54, 55, 56, 57, 97, 98, 99, 100, 101, 102]⟩) (.int .i64 1)).run Tryz.prog W = .ok (.int .u8 49) W := fun _ => by kernel_rfl
  have d2 : ∀ W, (Instr.index 9 (.string ⟨#[48, 49, 50, 51, 52, 53, 54, 55, 56, 57, 97, 98, 99, 100, 101, 102]⟩) (.int .i64 2)).run Tryz.prog W = .ok (.int .u8 50) W := fun _ => by kernel_rfl
  have d3 : ∀ W, (Instr.index 9 (.string ⟨#[48, 49, 50, 51, 52, 53, 54, 55, 56, 57, 97, 98, 99, 100, 101, 102]⟩) (.int .i64 3)).run Tryz.prog W = .ok (.int .u8 51) W := fun _ => by kernel_rfl
  have d4 : ∀ W, (Instr.index 9 (.string ⟨#[48, 49, 50, 51, 52, 53, 54, 55, 56, 57, 97, 98, 99, 100, 101, 102]⟩) (.int .i64 4)).run Tryz.prog W = .ok (.int .u8 52) W := fun _ => by kernel_rfl
  have d5 : ∀ W, (Instr.index 9 (.string ⟨#[48, 49, 50, 51, 52, 53, 54, 55, 56, 57, 97, 98, 99, 100, 101, 102]⟩) (.int .i64 5)).run Tryz.prog W = .ok (.int .u8 53) W := fun _ => by kernel_rfl
  have d6 : ∀ W, (Instr.index 9 (.string ⟨#[48, 49, 50, 51, 52, 53, 54, 55, 56, 57, 97, 98, 99, 100, 101, 102]⟩) (.int .i64 6)).run Tryz.prog W = .ok (.int .u8 54) W := fun _ => by kernel_rfl
  have d7 : ∀ W, (Instr.index 9 (.string ⟨#[48, 49, 50, 51, 52, 53, 54, 55, 56, 57, 97, 98, 99, 100, 101, 102]⟩) (.int .i64 7)).run Tryz.prog W = .ok (.int .u8 55) W := fun _ => by kernel_rfl
  have d8 : ∀ W, (Instr.index 9 (.string ⟨#[48, 49, 50, 51, 52, 53, 54, 55, 56, 57, 97, 98, 99, 100, 101, 102]⟩) (.int .i64 8)).run Tryz.prog W = .ok (.int .u8 56) W := fun _ => by kernel_rfl
  have d9 : ∀ W, (Instr.index 9 (.string ⟨#[48, 49, 50, 51, 52, 53, 54, 55, 56, 57, 97, 98, 99, 100, 101, 102]⟩) (.int .i64 9)).run Tryz.prog W = .ok (.int .u8 57) W := fun _ => by kernel_rfl
  have d10 : ∀ W, (Instr.index 9 (.string ⟨#[48, 49, 50, 51, 52, 53, 54, 55, 56, 57, 97, 98, 99, 100, 101, 102]⟩) (.int .i64 10)).run Tryz.prog W = .ok (.int .u8 97) W := fun _ => by kernel_rfl
  have d11 : ∀ W, (Instr.index 9 (.string ⟨#[48, 49, 50, 51, 52, 53, 54, 55, 56, 57, 97, 98, 99, 100, 101, 102]⟩) (.int .i64 11)).run Tryz.prog W = .ok (.int .u8 98) W := fun _ => by kernel_rfl
  have d12 : ∀ W, (Instr.index 9 (.string ⟨#[48, 49, 50, 51, 52, 53, 54, 55, 56, 57, 97, 98, 99, 100, 101, 102]⟩) (.int .i64 12)).run Tryz.prog W = .ok (.int .u8 99) W := fun _ => by kernel_rfl
  have d13 : ∀ W, (Instr.index 9 (.string ⟨#[48, 49, 50, 51, 52, 53, 54, 55, 56, 57, 97, 98, 99, 100, 101, 102]⟩) (.int .i64 13)).run Tryz.prog W = .ok (.int .u8 100) W := fun _ => by kernel_rfl
  have d14 : ∀ W, (Instr.index 9 (.string ⟨#[48, 49, 50, 51, 52, 53, 54, 55, 56, 57, 97, 98, 99, 100, 101, 102]⟩) (.int .i64 14)).run Tryz.prog W = .ok (.int .u8 101) W := fun _ => by kernel_rfl
  have d15 : ∀ W, (Instr.index 9 (.string ⟨#[48, 49, 50, 51, 52, 53, 54, 55, 56, 57, 97, 98, 99, 100, 101, 102]⟩) (.int .i64 15)).run Tryz.prog W = .ok (.int .u8 102) W := fun _ => by kernel_rfl
  have hc : n = 0 ∨ n = 1 ∨ n = 2 ∨ n = 3 ∨ n = 4 ∨ n = 5 ∨ n = 6 ∨ n = 7 ∨ n = 8 ∨ n = 9 ∨ n = 10 ∨ n = 11 ∨ n = 12 ∨ n = 13 ∨ n = 14 ∨ n = 15 := by omega
  rcases hc with rfl | rfl | rfl | rfl | rfl | rfl | rfl | rfl | rfl | rfl | rfl | rfl | rfl | rfl | rfl | rfl
  · exact d0 W
  · exact d1 W
  · exact d2 W
  · exact d3 W
  · exact d4 W
  · exact d5 W
  · exact d6 W
  · exact d7 W
  · exact d8 W
  · exact d9 W
  · exact d10 W
  · exact d11 W
  · exact d12 W
  · exact d13 W
  · exact d14 W
  · exact d15 W

theorem digit_any (n : Int) (h0 : 0 ≤ n) (h1 : n < 16) (w : World) :
    Calls Tryz.prog 65 #[.int .i64 n] w fun e w' => e = .returned (.int .u8 ((hexD n.toNat).toNat : Int)) ∧ w' = w := by
  obtain ⟨k, rfl⟩ := Int.eq_ofNat_of_zero_le h0
  have hd := fun W => digI_at k (by omega) W
  go_enter Tryz.func65, Tryz.ntmps65
  go_wp2
  go_ret
  exact ⟨ret_int rfl, rfl⟩

theorem esc_or {c : Int} (h : escB c = true) : c < 32 ∨ 126 < c ∨ c = 39 ∨ c = 92 := by
  simp [escB] at h
  omega
theorem esc_not {c : Int} (h : escB c = false) : ¬ c < 32 ∧ ¬ 126 < c ∧ (c == 39) = false ∧ (c == 92) = false := by
  simp [escB] at h
  refine ⟨by omega, by omega, beq_eq_false_iff_ne.2 (by omega), beq_eq_false_iff_ne.2 (by omega)⟩

set_option maxHeartbeats 1000000 in
set_option maxRecDepth 100000 in
theorem refQuote_any (s : ByteArray) (w : World) (hs : s.size ≤ 1048576) :
    Calls Tryz.prog 35 #[.string s] w fun e w' => e = .returned (.string ⟨(quoteL s.data.toList).toArray⟩) ∧ Below w.heap.size w w' := by
  go_enter Tryz.func35, Tryz.ntmps35
  go_wp2
  have H1 : Hid (Own (w.alloc (.cells #[.int .u8 39] 5)) w.heap.size (.slice (some ⟨w.heap.size, 0, none⟩) 1 1) (39 :: qBytes (s.data.toList.take 0))) := hide (by simpa [qBytes] using own_new w #[.int .u8 39] [39] rfl (by simp))
  have hb1 : Below w.heap.size w (w.alloc (.cells #[.int .u8 39] 5)) := (Below.refl _ _).alloc (Nat.le_refl _) _
  go_loopw [3, 4] (fun v i wr => ∃ k : Nat, k ≤ s.size ∧ i = .int .i64 k ∧ Hid (Own wr w.heap.size v (39 :: qBytes (s.data.toList.take k))) ∧ Below w.heap.size w wr) (fun _ i _ => s.size - (intOf i).toNat)
  case atStart => exact ⟨0, Nat.zero_le _, rfl, H1, hb1⟩
  case round =>
    obtain ⟨k, hk, rfl, hO, hnx⟩ := hrel
    clear hb1 H1
    have hzr := hnx.size
    have hq := qBytes_len (s.data.toList.take k)
    have hl : (s.data.toList.take k).length ≤ k := List.length_take_le _ _
    have hq2 : (39 :: qBytes (s.data.toList.take k)).length ≤ 3 * k + 1 := by simp; omega
    clear hq hl
    by_cases hlt : k < s.size
    · have hst := hide (quote_step s k hlt)
      generalize hL : 39 :: qBytes (s.data.toList.take k) = L at hO hst hq2
      clear hL
      have hc := s[k].toNat_lt
      cases he : escB (s[k].toNat : Int)
      · have f := esc_not he
        obtain ⟨f1, f2, f3, f4⟩ := f
        go_wp2_with (at_builtin; refine wpList_app _ rfl _ _ rfl w.heap.size _ L rfl (hO.out.alloc _) _ 1 1 _ [s[k]] rfl rfl (heap_top _ _) rfl (by omega) (by simp; omega) ?_; intro v2 w2 hO2 hb2)
        refine ⟨⟨k + 1, by omega, by go_num, hide ?_, (hnx.alloc hzr _).trans hb2⟩, by simp [intOf]; omega⟩
        rw [hst.out]
        unfold qByte
        rw [he]
        exact hO2
      · have He := hide he
        have hw := esc_or he
        clear he
        by_cases g1 : (s[k].toNat : Int) < 32
        · clear hw
          go_wp2_with (first | (go_at_call 65; refine (digit_any _ (by omega) (by omega) _).mono ?_; rintro e w' ⟨rfl, rfl⟩) | (at_builtin; refine wpList_app _ rfl _ _ rfl w.heap.size _ L rfl (hO.out.alloc _) _ 3 3 _ [92, hexD (s[k].toNat / 16), hexD (s[k].toNat % 16)] rfl rfl (heap_top _ _) rfl (by omega) (by simp; omega) ?_; intro v2 w2 hO2 hb2))
          refine ⟨⟨k + 1, by omega, by go_num, hide ?_, (hnx.alloc hzr _).trans hb2⟩, by simp [intOf]; omega⟩
          rw [hst.out]
          unfold qByte
          rw [He.out]
          exact hO2
        by_cases g2 : (126 : Int) < (s[k].toNat : Int)
        · clear hw
          go_wp2_with (first | (go_at_call 65; refine (digit_any _ (by omega) (by omega) _).mono ?_; rintro e w' ⟨rfl, rfl⟩) | (at_builtin; refine wpList_app _ rfl _ _ rfl w.heap.size _ L rfl (hO.out.alloc _) _ 3 3 _ [92, hexD (s[k].toNat / 16), hexD (s[k].toNat % 16)] rfl rfl (heap_top _ _) rfl (by omega) (by simp; omega) ?_; intro v2 w2 hO2 hb2))
          refine ⟨⟨k + 1, by omega, by go_num, hide ?_, (hnx.alloc hzr _).trans hb2⟩, by simp [intOf]; omega⟩
          rw [hst.out]
          unfold qByte
          rw [He.out]
          exact hO2
        by_cases g3 : (s[k].toNat : Int) = 39
        · have g3' : ((s[k].toNat : Int) == 39) = true := beq_iff_eq.2 g3
          clear hw g3
          go_wp2_with (first | (go_at_call 65; refine (digit_any _ (by omega) (by omega) _).mono ?_; rintro e w' ⟨rfl, rfl⟩) | (at_builtin; refine wpList_app _ rfl _ _ rfl w.heap.size _ L rfl (hO.out.alloc _) _ 3 3 _ [92, hexD (s[k].toNat / 16), hexD (s[k].toNat % 16)] rfl rfl (heap_top _ _) rfl (by omega) (by simp; omega) ?_; intro v2 w2 hO2 hb2))
          refine ⟨⟨k + 1, by omega, by go_num, hide ?_, (hnx.alloc hzr _).trans hb2⟩, by simp [intOf]; omega⟩
          rw [hst.out]
          unfold qByte
          rw [He.out]
          exact hO2
        have g3' : ((s[k].toNat : Int) == 39) = false := beq_eq_false_iff_ne.2 g3
        have g4' : ((s[k].toNat : Int) == 92) = true := beq_iff_eq.2 (by omega)
        clear hw g3
        go_wp2_with (first | (go_at_call 65; refine (digit_any _ (by omega) (by omega) _).mono ?_; rintro e w' ⟨rfl, rfl⟩) | (at_builtin; refine wpList_app _ rfl _ _ rfl w.heap.size _ L rfl (hO.out.alloc _) _ 3 3 _ [92, hexD (s[k].toNat / 16), hexD (s[k].toNat % 16)] rfl rfl (heap_top _ _) rfl (by omega) (by simp; omega) ?_; intro v2 w2 hO2 hb2))
        refine ⟨⟨k + 1, by omega, by go_num, hide ?_, (hnx.alloc hzr _).trans hb2⟩, by simp [intOf]; omega⟩
        rw [hst.out]
        unfold qByte
        rw [He.out]
        exact hO2
    · generalize hL : 39 :: qBytes (s.data.toList.take k) = L at hO hq2
      have HL := hide hL
      clear hL
      go_wp2_with (at_builtin; refine wpList_app _ rfl _ _ rfl w.heap.size _ L rfl (hO.out.alloc _) _ 1 1 _ [39] rfl rfl (heap_top _ _) rfl (by omega) (by simp; omega) ?_; intro v2 w2 hO2 hb2; refine Hid.out ?_)
      refine hide ?_
      obtain ⟨g, n, cap, rfl⟩ := own_form hO2 (by simp)
      have hcv := conv_own hO2
      go_wp2
      go_ret
      refine ⟨ret_str ?_, (hnx.alloc hzr _).trans hb2⟩
      rw [← HL.out, List.take_of_length_le (by simp; omega)]
      rfl
end Go.Proofs.YtciflobdpenpaaaGreatDoor
/-
  The walks of the reference's digits, Decimal and Text.
-/
set_option linter.unusedSimpArgs false
set_option linter.unusedVariables false
namespace Go.Proofs.YtciflobdpenpaaaGreatDoor
open Go.RowKit
attribute [local go_sem ↓] Go.wp_at_zero Go.wp_at_succ

/-- 'string([]byte{c})'. -/
theorem conv_one (W : World) (g : Nat) (c : UInt8) (h : W.cell? ⟨g, 0, none⟩ = some (.int .u8 (c.toNat : Int))) : (convert 104 9 (.slice (some ⟨g, 0, none⟩) 1 1)).run Tryz.prog W = .ok (.string ⟨#[c]⟩) W := by
  refine run_convert_bytes_back (P := Tryz.prog) W 104 9 5 ⟨g, 0, none⟩ 1 [c] Tryz.underlying104 Tryz.underlying5 Tryz.underlying9 (fun j hj => ?_)
  match j, hj with
  | 0, _ => simpa [Addr.add] using h

set_option maxHeartbeats 1000000 in
set_option maxRecDepth 100000 in
theorem digits_any (u : Nat) : ∀ (w : World), u < 18446744073709551616 →
    Calls Tryz.prog 64 #[.int .u64 (u : Int)] w fun e w' => e = .returned (.string ⟨(Lib.decDigits u).toArray⟩) ∧ Below w.heap.size w w' := by
  induction u using Nat.strongRecOn with
  | _ u ih =>
    intro w hu
    by_cases h10 : u < 10
    · have hd := Lib.decDigits_one h10
      have h10' : (u : Int) < 10 := by omega
      have hr := one_dig u h10
      generalize UInt8.ofNat (48 + u) = c at *
      have hcv : ∀ (W : World) (g : Nat), W.cell? ⟨g, 0, none⟩ = some (.int .u8 (48 + (u : Int))) → (convert 104 9 (.slice (some ⟨g, 0, none⟩) 1 1)).run Tryz.prog W = .ok (.string ⟨#[c]⟩) W := fun W g h => conv_one W g c (by rw [h, hr])
      clear hr
      have Hd := hide hd
      clear ih hd
      go_enter Tryz.func64, Tryz.ntmps64
      go_wp2
      go_ret
      exact ⟨ret_str (by rw [Hd.out]), (Below.refl _ _).alloc (Nat.le_refl _) _⟩
    · have h10' : ¬ (u : Int) < 10 := by omega
      have hd : Lib.decDigits u = Lib.decDigits (u / 10) ++ [UInt8.ofNat (48 + u % 10)] := by rw [Lib.decDigits, dif_neg h10]
      have IH : ∀ W : World, Hid (Calls Tryz.prog 64 #[.int .u64 ((u : Int) / 10)] W fun e w' => e = .returned (.string ⟨(Lib.decDigits (u / 10)).toArray⟩) ∧ Below W.heap.size W w') := fun W => hide (by
        have h := ih (u / 10) (by omega) W (by omega)
        rw [show ((u / 10 : Nat) : Int) = (u : Int) / 10 by omega] at h
        exact h)
      have hq : IntKind.u64.wrap ((u : Int) / 10) = (u : Int) / 10 := by rw [IntKind.wrap_u64]; omega
      have hr := last_dig u hu
      have hn := dec_short (u / 10) (by omega)
      generalize UInt8.ofNat (48 + u % 10) = c at *
      generalize Lib.decDigits (u / 10) = D at *
      have hcv := fun (W : World) (g : Nat) => conv_one W g c
      have Hd := hide hd
      clear ih hd
      go_enter Tryz.func64, Tryz.ntmps64
      go_wp2
      go_region_with (go_at_call 64; refine (unhide (IH _)).mono ?_; rintro e w1 ⟨rfl, hb1⟩; obtain ⟨hc, hf⟩ := bcell hb1)
      all_goals
        go_wp2
        go_ret
        refine ⟨ret_str (by rw [Hd.out]; exact mk_append D [c]), ?_⟩
      all_goals first
        | exact (below_undrew hb1).alloc (below_undrew hb1).size _
        | exact below_undrew (below_alloc hb1)

set_option maxHeartbeats 1000000 in
set_option maxRecDepth 100000 in
theorem decimal_any (n : Int) (h0 : -9223372036854775808 ≤ n) (h1 : n ≤ 9223372036854775807) (w : World) :
    Calls Tryz.prog 34 #[.int .i64 n] w fun e w' => e = .returned (.string ⟨(Lib.itoa n).toArray⟩) ∧ Below w.heap.size w w' := by
  by_cases hn : n < 0
  · obtain ⟨u, rfl⟩ : ∃ u : Nat, n = -(u : Int) := ⟨n.natAbs, by omega⟩
    have Hd := hide (Lib.itoa_neg u (by omega))
    have hl := dec_short u (by omega)
    have HD := fun (W : World) => hide (digits_any u W (by omega))
    generalize Lib.decDigits u = D at *
    go_enter Tryz.func34, Tryz.ntmps34
    go_wp2_with fail
    rw [show -(-(u : Int) + 1) + 1 = (u : Int) by omega]
    refine (unhide (HD _)).mono ?_
    rintro e w1 ⟨rfl, hb1⟩
    go_wp2
    go_ret
    exact ⟨ret_str (by rw [Hd.out]; exact mk_append [45] D), hb1⟩
  · obtain ⟨u, rfl⟩ : ∃ u : Nat, n = (u : Int) := ⟨n.toNat, by omega⟩
    have Hd := hide (Lib.itoa_nonneg u)
    have HD := fun (W : World) => hide (digits_any u W (by omega))
    generalize Lib.decDigits u = D at *
    go_enter Tryz.func34, Tryz.ntmps34
    go_wp2_with (go_at_call 64; refine (unhide (HD _)).mono ?_; rintro e w1 ⟨rfl, hb1⟩)
    go_ret
    exact ⟨ret_str (by rw [Hd.out]), hb1⟩

end Go.Proofs.YtciflobdpenpaaaGreatDoor
/-
  The seventh reference's name and join.
-/
set_option linter.unusedSimpArgs false
set_option linter.unusedVariables false
namespace Go.Proofs.YtciflobdpenpaaaGreatDoor
open Go.RowKit

set_option maxHeartbeats 1000000 in
set_option maxRecDepth 100000 in
theorem refName7 (i : Int) (h0 : 0 ≤ i) (h3 : i ≤ 3) (w : World) : Calls Tryz.prog 41 #[.int .i64 i] w fun e w' => e = .returned (.string (bs (nameL i))) ∧ Below w.heap.size w w' := by
  have h4 : i = 0 ∨ i = 1 ∨ i = 2 ∨ i = 3 := by omega
  rcases h4 with rfl | rfl | rfl | rfl
  · have hcv := fun (W : World) (g : Nat) (h : W.cell? ⟨g, 0, none⟩ = some (.int .u8 97)) => conv_one W g 97 h
    go_enter Tryz.func41, Tryz.ntmps41
    go_wp2
    go_ret
    exact ⟨rfl, (Below.refl _ _).alloc (Nat.le_refl _) _⟩
  · have hcv := fun (W : World) (g : Nat) (h : W.cell? ⟨g, 0, none⟩ = some (.int .u8 98)) => conv_one W g 98 h
    go_enter Tryz.func41, Tryz.ntmps41
    go_wp2
    go_ret
    exact ⟨rfl, (Below.refl _ _).alloc (Nat.le_refl _) _⟩
  · have hcv := fun (W : World) (g : Nat) (h : W.cell? ⟨g, 0, none⟩ = some (.int .u8 99)) => conv_one W g 99 h
    go_enter Tryz.func41, Tryz.ntmps41
    go_wp2
    go_ret
    exact ⟨rfl, (Below.refl _ _).alloc (Nat.le_refl _) _⟩
  · have hcv := fun (W : World) (g : Nat) (h : W.cell? ⟨g, 0, none⟩ = some (.int .u8 100)) => conv_one W g 100 h
    go_enter Tryz.func41, Tryz.ntmps41
    go_wp2
    go_ret
    exact ⟨rfl, (Below.refl _ _).alloc (Nat.le_refl _) _⟩
theorem joinL_snoc : ∀ (l : List (List UInt8)) (a : List UInt8), joinL (l ++ [a]) = if l = [] then a else (joinL l ++ [32]) ++ a
  | [], a => rfl
  | [b], a => by simp [joinL]
  | b :: c :: l, a => by
    have ih := joinL_snoc (c :: l) a
    rw [if_neg (by simp)] at ih
    rw [if_neg (by simp), List.cons_append, joinL_cons b _ (by simp), ih, joinL_cons b (c :: l) (by simp)]
    simp
theorem joinL_take_le (l : List (List UInt8)) : ∀ k, (joinL (l.take k)).length ≤ (joinL l).length := by
  induction l with
  | nil => intro k; simp
  | cons a l ih =>
    intro k
    cases k with
    | zero => simp [joinL]
    | succ k =>
      rw [List.take_succ_cons]
      cases l with
      | nil => simp
      | cons b l =>
        cases k with
        | zero => rw [List.take_zero, joinL_cons a (b :: l) (by simp)]; simp [joinL]
        | succ k =>
          have := ih (k + 1)
          rw [joinL_cons a (b :: l) (by simp), joinL_cons a _ (by simp)]
          simp only [List.length_append, List.length_cons]
          omega
theorem joinL_step {xs : List ByteArray} (k : Nat) (hk : k < xs.length) : joinL ((xs.take (k + 1)).map (·.data.toList)) = if k = 0 then (xs.getD k ⟨#[]⟩).data.toList else (joinL ((xs.take k).map (·.data.toList)) ++ [32]) ++ (xs.getD k ⟨#[]⟩).data.toList := by
  rw [take_map_snoc _ xs ⟨#[]⟩ k hk, joinL_snoc]
  by_cases h : k = 0
  · subst h
    rw [if_pos rfl, if_pos (by simp)]
  · rw [if_neg h, if_neg]
    intro e
    have := congrArg List.length e
    rw [List.length_map, List.length_take, List.length_nil] at this
    omega
theorem rowS_at {w : World} {B c : Nat} {p : Option Addr} {xs : List ByteArray} (h : RowS w B (.slice p xs.length c) xs) (k : Nat) (hk : k < xs.length) : ∃ g, p = some ⟨g, 0, none⟩ ∧ w.cell? ⟨g, 0 + k * 1, none⟩ = some (.string (bs (xs.getD k ⟨#[]⟩).data.toList)) := by
  obtain ⟨p', c', e, h1, h2, h3⟩ := ownsRow_form h
  injection e with e1 e2 e3
  subst e1 e3
  cases p with
  | none => have := (h3 rfl).1; omega
  | some a =>
    obtain ⟨g, cur, e, _, hg⟩ := ownsRow_at h
    subst e
    refine ⟨g, rfl, ?_⟩
    rw [Nat.zero_add, Nat.mul_one, bs_of]
    refine ownsRow_cell h k _ ?_
    rw [stCells1_map, List.getElem?_map, List.getElem?_eq_getElem hk, List.getD_eq_getElem?_getD, List.getElem?_eq_getElem hk]
    rfl

set_option maxHeartbeats 1000000 in
set_option maxRecDepth 100000 in
theorem refJoin7 {B c : Nat} {p : Option Addr} {xs : List ByteArray} (w : World) (HR : RowS w B (.slice p xs.length c) xs) (hn : xs.length ≤ 1000000) (hl : (joinL (xs.map (·.data.toList))).length ≤ 140737488355328) :
    Calls Tryz.prog 36 #[.slice p xs.length c] w fun e w' => e = .returned (.string (bs (joinL (xs.map (·.data.toList))))) ∧ Below w.heap.size w w' := by
  have D : w.grownBy w none := grown_refl _ _
  go_enter Tryz.func36, Tryz.ntmps36
  refine wp_seq_k (fun K1 hK1 => ?_)
  refine wp_region_lit ?_
  refine wl_yield (o := ⟨_, _, _, _, _, _⟩) (.string (bs ([]))) (yl_assign (by rfl) _ rfl _ rfl) ?_
  simp only [Act.put, List.setIfInBounds_toArray, List.set_cons_zero, List.set_cons_succ]
  refine wpList_nil ?_
  refine hK1 _ _ ?_
  clear hK1 K1
  refine wp_seq_k (fun K2 hK2 => ?_)
  refine wp_region_lit ?_
  refine wl_yield (o := ⟨_, _, _, _, _, _⟩) (.string (bs ([]))) (yl_assign (by rfl) _ rfl _ rfl) ?_
  simp only [Act.put, List.setIfInBounds_toArray, List.set_cons_zero, List.set_cons_succ]
  refine wpList_nil ?_
  refine hK2 _ _ ?_
  clear hK2 K2
  refine wp_seq_k (fun K3 hK3 => ?_)
  refine wp_seq_k (fun K4 hK4 => ?_)
  refine wp_region_lit ?_
  refine wl_yield (o := ⟨_, _, _, _, _, _⟩) (.int .i64 0) (yl_assign (by rfl) _ rfl _ rfl) ?_
  simp only [Act.put, List.setIfInBounds_toArray, List.set_cons_zero, List.set_cons_succ]
  refine wpList_nil ?_
  refine hK4 _ _ ?_
  clear hK4 K4
  refine wp_block ?_
  go_loopw [3, 4] (fun x i wr => ∃ (k : Nat), i = .int .i64 k ∧ k ≤ xs.length ∧ x = .string (bs (joinL ((xs.take k).map (·.data.toList)))) ∧ wr = w) (fun _ i _ => xs.length - (intOf i).toNat)
  case atStart => exact ⟨0, rfl, by omega, rfl, rfl⟩
  case round =>
    obtain ⟨k, rfl, hk, rfl, rfl⟩ := hrel
    have hj := joinL_take_le (xs.map (·.data.toList)) k
    rw [← List.map_take] at hj
    by_cases hlt : k < xs.length
    · obtain ⟨g, rfl, hg⟩ := rowS_at HR k hlt
      have hst := joinL_step k hlt
      have hj2 := joinL_take_le (xs.map (·.data.toList)) (k + 1)
      rw [← List.map_take] at hj2
      by_cases hz : k = 0
      · rw [if_pos hz] at hst
        have hst : joinL ((xs.take (k + 1)).map (·.data.toList)) = joinL ((xs.take k).map (·.data.toList)) ++ (xs.getD k ⟨#[]⟩).data.toList := by rw [hst, hz]; rfl
        rw [hst] at hj2
        simp only [List.length_append] at hj2
        refine wp_seq_k (fun K5 hK5 => ?_)
        refine wp_seq_k (fun K6 hK6 => ?_)
        refine wp_region_lit ?_
        refine wl_yield (o := ⟨_, _, _, _, _, _⟩) (.int .i64 (k : Nat)) (yl_move (by rfl) _ rfl _ rfl) ?_
        simp only [Act.put, List.setIfInBounds_toArray, List.set_cons_zero, List.set_cons_succ]
        refine wl_yield (o := ⟨_, _, _, _, _, _⟩) (.slice ((some ⟨g, 0, none⟩)) xs.length c) (yl_move (by rfl) _ rfl _ rfl) ?_
        simp only [Act.put, List.setIfInBounds_toArray, List.set_cons_zero, List.set_cons_succ]
        refine wl_yield (o := ⟨_, _, _, _, _, _⟩) (.int .i64 (xs.length : Nat)) (yt_lenT (by rfl) _ rfl ((some ⟨g, 0, none⟩)) xs.length c rfl) ?_
        simp only [Act.put, List.setIfInBounds_toArray, List.set_cons_zero, List.set_cons_succ]
        refine wl_yield (o := ⟨_, _, _, _, _, _⟩) (.bool true) (yt_lssI (by rfl) _ _ _ rfl (((k : Nat) : Int)) (((xs.length : Nat) : Int)) true rfl rfl (decide_eq_true (by omega))) ?_
        simp only [Act.put, List.setIfInBounds_toArray, List.set_cons_zero, List.set_cons_succ]
        refine wpList_nil ?_
        refine hK6 _ _ ?_
        clear hK6 K6
        refine wp_cond_true rfl ?_
        refine wp_skip ?_
        refine hK5 _ _ ?_
        clear hK5 K5
        refine wp_seq_k (fun K7 hK7 => ?_)
        refine wp_block ?_
        refine wp_seq_k (fun K8 hK8 => ?_)
        refine wp_seq_k (fun K9 hK9 => ?_)
        refine wp_region_lit ?_
        refine wl_yield (o := ⟨_, _, _, _, _, _⟩) (.int .i64 (k : Nat)) (yl_move (by rfl) _ rfl _ rfl) ?_
        simp only [Act.put, List.setIfInBounds_toArray, List.set_cons_zero, List.set_cons_succ]
        refine wl_yield (o := ⟨_, _, _, _, _, _⟩) (.bool false) (yt_gtrI (by rfl) _ _ _ rfl (((k : Nat) : Int)) 0 false rfl rfl (decide_eq_false (by omega))) ?_
        simp only [Act.put, List.setIfInBounds_toArray, List.set_cons_zero, List.set_cons_succ]
        refine wpList_nil ?_
        refine hK9 _ _ ?_
        clear hK9 K9
        refine wp_cond_false rfl ?_
        refine wp_skip ?_
        refine hK8 _ _ ?_
        clear hK8 K8
        refine wp_region_lit ?_
        refine wl_yield (o := ⟨_, _, _, _, _, _⟩) (.string (bs (joinL ((xs.take k).map (·.data.toList))))) (yl_move (by rfl) _ rfl _ rfl) ?_
        simp only [Act.put, List.setIfInBounds_toArray, List.set_cons_zero, List.set_cons_succ]
        refine wl_yield (o := ⟨_, _, _, _, _, _⟩) (.slice ((some ⟨g, 0, none⟩)) xs.length c) (yl_move (by rfl) _ rfl _ rfl) ?_
        simp only [Act.put, List.setIfInBounds_toArray, List.set_cons_zero, List.set_cons_succ]
        refine wl_yield (o := ⟨_, _, _, _, _, _⟩) (.int .i64 (k : Nat)) (yl_move (by rfl) _ rfl _ rfl) ?_
        simp only [Act.put, List.setIfInBounds_toArray, List.set_cons_zero, List.set_cons_succ]
        refine wl_yield (o := ⟨_, _, _, _, _, _⟩) (.pointer (some ⟨g, 0 + k * 1, none⟩)) (yt_atT (by rfl) _ _ rfl g 0 _ _ k rfl rfl (hlt)) ?_
        simp only [Act.put, List.setIfInBounds_toArray, List.set_cons_zero, List.set_cons_succ]
        refine wl_yield (o := ⟨_, _, _, _, _, _⟩) (.string (bs ((xs.getD k ⟨#[]⟩).data.toList))) (yt_ldS (by rfl) _ rfl _ _ rfl (bs (xs.getD k ⟨#[]⟩).data.toList) (fun _ h => by subst h; exact hg)) ?_
        simp only [Act.put, List.setIfInBounds_toArray, List.set_cons_zero, List.set_cons_succ]
        refine wl_yield (o := ⟨_, _, _, _, _, _⟩) (.string (bs ((joinL ((xs.take k).map (·.data.toList))) ++ ((xs.getD k ⟨#[]⟩).data.toList)))) (yt_cat (by rfl) _ _ _ rfl (joinL ((xs.take k).map (·.data.toList))) ((xs.getD k ⟨#[]⟩).data.toList) rfl rfl (by simp only [List.length_append, List.length_cons, List.length_nil] at *; omega)) ?_
        simp only [Act.put, List.setIfInBounds_toArray, List.set_cons_zero, List.set_cons_succ]
        refine wl_yield (o := ⟨_, _, _, _, _, _⟩) (.string (bs ((joinL ((xs.take k).map (·.data.toList))) ++ ((xs.getD k ⟨#[]⟩).data.toList)))) (yl_assign (by rfl) _ rfl _ rfl) ?_
        simp only [Act.put, List.setIfInBounds_toArray, List.set_cons_zero, List.set_cons_succ]
        refine wpList_nil ?_
        refine hK7 _ _ ?_
        clear hK7 K7
        refine wp_region_lit ?_
        refine wl_yield (o := ⟨_, _, _, _, _, _⟩) (.int .i64 (k : Nat)) (yl_move (by rfl) _ rfl _ rfl) ?_
        simp only [Act.put, List.setIfInBounds_toArray, List.set_cons_zero, List.set_cons_succ]
        refine wl_yield (o := ⟨_, _, _, _, _, _⟩) (.int .i64 (k + 1 : Nat)) (yt_addI (by rfl) _ _ _ rfl (((k : Nat) : Int)) 1 (((k + 1 : Nat) : Int)) rfl rfl (by omega) (by omega) (by omega)) ?_
        simp only [Act.put, List.setIfInBounds_toArray, List.set_cons_zero, List.set_cons_succ]
        refine wl_yield (o := ⟨_, _, _, _, _, _⟩) (.int .i64 (k + 1 : Nat)) (yl_assign (by rfl) _ rfl _ rfl) ?_
        simp only [Act.put, List.setIfInBounds_toArray, List.set_cons_zero, List.set_cons_succ]
        refine wpList_nil ?_
        show _ ∧ _
        go_roundw
        case rel => exact ⟨k + 1, rfl, by omega, by rw [hst], rfl⟩
        case measure => simp [intOf]; omega
      · rw [if_neg hz] at hst
        rw [hst] at hj2
        simp only [List.length_append] at hj2
        refine wp_seq_k (fun K5 hK5 => ?_)
        refine wp_seq_k (fun K6 hK6 => ?_)
        refine wp_region_lit ?_
        refine wl_yield (o := ⟨_, _, _, _, _, _⟩) (.int .i64 (k : Nat)) (yl_move (by rfl) _ rfl _ rfl) ?_
        simp only [Act.put, List.setIfInBounds_toArray, List.set_cons_zero, List.set_cons_succ]
        refine wl_yield (o := ⟨_, _, _, _, _, _⟩) (.slice ((some ⟨g, 0, none⟩)) xs.length c) (yl_move (by rfl) _ rfl _ rfl) ?_
        simp only [Act.put, List.setIfInBounds_toArray, List.set_cons_zero, List.set_cons_succ]
        refine wl_yield (o := ⟨_, _, _, _, _, _⟩) (.int .i64 (xs.length : Nat)) (yt_lenT (by rfl) _ rfl ((some ⟨g, 0, none⟩)) xs.length c rfl) ?_
        simp only [Act.put, List.setIfInBounds_toArray, List.set_cons_zero, List.set_cons_succ]
        refine wl_yield (o := ⟨_, _, _, _, _, _⟩) (.bool true) (yt_lssI (by rfl) _ _ _ rfl (((k : Nat) : Int)) (((xs.length : Nat) : Int)) true rfl rfl (decide_eq_true (by omega))) ?_
        simp only [Act.put, List.setIfInBounds_toArray, List.set_cons_zero, List.set_cons_succ]
        refine wpList_nil ?_
        refine hK6 _ _ ?_
        clear hK6 K6
        refine wp_cond_true rfl ?_
        refine wp_skip ?_
        refine hK5 _ _ ?_
        clear hK5 K5
        refine wp_seq_k (fun K7 hK7 => ?_)
        refine wp_block ?_
        refine wp_seq_k (fun K8 hK8 => ?_)
        refine wp_seq_k (fun K9 hK9 => ?_)
        refine wp_region_lit ?_
        refine wl_yield (o := ⟨_, _, _, _, _, _⟩) (.int .i64 (k : Nat)) (yl_move (by rfl) _ rfl _ rfl) ?_
        simp only [Act.put, List.setIfInBounds_toArray, List.set_cons_zero, List.set_cons_succ]
        refine wl_yield (o := ⟨_, _, _, _, _, _⟩) (.bool true) (yt_gtrI (by rfl) _ _ _ rfl (((k : Nat) : Int)) 0 true rfl rfl (decide_eq_true (by omega))) ?_
        simp only [Act.put, List.setIfInBounds_toArray, List.set_cons_zero, List.set_cons_succ]
        refine wpList_nil ?_
        refine hK9 _ _ ?_
        clear hK9 K9
        refine wp_cond_true rfl ?_
        refine wp_region_lit ?_
        refine wl_yield (o := ⟨_, _, _, _, _, _⟩) (.string (bs (joinL ((xs.take k).map (·.data.toList))))) (yl_move (by rfl) _ rfl _ rfl) ?_
        simp only [Act.put, List.setIfInBounds_toArray, List.set_cons_zero, List.set_cons_succ]
        refine wl_yield (o := ⟨_, _, _, _, _, _⟩) (.string (bs ((joinL ((xs.take k).map (·.data.toList))) ++ ([32])))) (yt_cat (by rfl) _ _ _ rfl (joinL ((xs.take k).map (·.data.toList))) ([32]) rfl rfl (by simp only [List.length_append, List.length_cons, List.length_nil] at *; omega)) ?_
        simp only [Act.put, List.setIfInBounds_toArray, List.set_cons_zero, List.set_cons_succ]
        refine wl_yield (o := ⟨_, _, _, _, _, _⟩) (.string (bs ((joinL ((xs.take k).map (·.data.toList))) ++ ([32])))) (yl_assign (by rfl) _ rfl _ rfl) ?_
        simp only [Act.put, List.setIfInBounds_toArray, List.set_cons_zero, List.set_cons_succ]
        refine wpList_nil ?_
        refine hK8 _ _ ?_
        clear hK8 K8
        refine wp_region_lit ?_
        refine wl_yield (o := ⟨_, _, _, _, _, _⟩) (.string (bs ((joinL ((xs.take k).map (·.data.toList))) ++ ([32])))) (yl_move (by rfl) _ rfl _ rfl) ?_
        simp only [Act.put, List.setIfInBounds_toArray, List.set_cons_zero, List.set_cons_succ]
        refine wl_yield (o := ⟨_, _, _, _, _, _⟩) (.slice ((some ⟨g, 0, none⟩)) xs.length c) (yl_move (by rfl) _ rfl _ rfl) ?_
        simp only [Act.put, List.setIfInBounds_toArray, List.set_cons_zero, List.set_cons_succ]
        refine wl_yield (o := ⟨_, _, _, _, _, _⟩) (.int .i64 (k : Nat)) (yl_move (by rfl) _ rfl _ rfl) ?_
        simp only [Act.put, List.setIfInBounds_toArray, List.set_cons_zero, List.set_cons_succ]
        refine wl_yield (o := ⟨_, _, _, _, _, _⟩) (.pointer (some ⟨g, 0 + k * 1, none⟩)) (yt_atT (by rfl) _ _ rfl g 0 _ _ k rfl rfl (hlt)) ?_
        simp only [Act.put, List.setIfInBounds_toArray, List.set_cons_zero, List.set_cons_succ]
        refine wl_yield (o := ⟨_, _, _, _, _, _⟩) (.string (bs ((xs.getD k ⟨#[]⟩).data.toList))) (yt_ldS (by rfl) _ rfl _ _ rfl (bs (xs.getD k ⟨#[]⟩).data.toList) (fun _ h => by subst h; exact hg)) ?_
        simp only [Act.put, List.setIfInBounds_toArray, List.set_cons_zero, List.set_cons_succ]
        refine wl_yield (o := ⟨_, _, _, _, _, _⟩) (.string (bs (((joinL ((xs.take k).map (·.data.toList))) ++ ([32])) ++ ((xs.getD k ⟨#[]⟩).data.toList)))) (yt_cat (by rfl) _ _ _ rfl ((joinL ((xs.take k).map (·.data.toList))) ++ ([32])) ((xs.getD k ⟨#[]⟩).data.toList) rfl rfl (by simp only [List.length_append, List.length_cons, List.length_nil] at *; omega)) ?_
        simp only [Act.put, List.setIfInBounds_toArray, List.set_cons_zero, List.set_cons_succ]
        refine wl_yield (o := ⟨_, _, _, _, _, _⟩) (.string (bs (((joinL ((xs.take k).map (·.data.toList))) ++ ([32])) ++ ((xs.getD k ⟨#[]⟩).data.toList)))) (yl_assign (by rfl) _ rfl _ rfl) ?_
        simp only [Act.put, List.setIfInBounds_toArray, List.set_cons_zero, List.set_cons_succ]
        refine wpList_nil ?_
        refine hK7 _ _ ?_
        clear hK7 K7
        refine wp_region_lit ?_
        refine wl_yield (o := ⟨_, _, _, _, _, _⟩) (.int .i64 (k : Nat)) (yl_move (by rfl) _ rfl _ rfl) ?_
        simp only [Act.put, List.setIfInBounds_toArray, List.set_cons_zero, List.set_cons_succ]
        refine wl_yield (o := ⟨_, _, _, _, _, _⟩) (.int .i64 (k + 1 : Nat)) (yt_addI (by rfl) _ _ _ rfl (((k : Nat) : Int)) 1 (((k + 1 : Nat) : Int)) rfl rfl (by omega) (by omega) (by omega)) ?_
        simp only [Act.put, List.setIfInBounds_toArray, List.set_cons_zero, List.set_cons_succ]
        refine wl_yield (o := ⟨_, _, _, _, _, _⟩) (.int .i64 (k + 1 : Nat)) (yl_assign (by rfl) _ rfl _ rfl) ?_
        simp only [Act.put, List.setIfInBounds_toArray, List.set_cons_zero, List.set_cons_succ]
        refine wpList_nil ?_
        show _ ∧ _
        go_roundw
        case rel => exact ⟨k + 1, rfl, by omega, by rw [hst], rfl⟩
        case measure => simp [intOf]; omega
    · obtain rfl : k = xs.length := by omega
      refine wp_seq_k (fun K5 hK5 => ?_)
      refine wp_seq_k (fun K6 hK6 => ?_)
      refine wp_region_lit ?_
      refine wl_yield (o := ⟨_, _, _, _, _, _⟩) (.int .i64 (xs.length : Nat)) (yl_move (by rfl) _ rfl _ rfl) ?_
      simp only [Act.put, List.setIfInBounds_toArray, List.set_cons_zero, List.set_cons_succ]
      refine wl_yield (o := ⟨_, _, _, _, _, _⟩) (.slice p xs.length c) (yl_move (by rfl) _ rfl _ rfl) ?_
      simp only [Act.put, List.setIfInBounds_toArray, List.set_cons_zero, List.set_cons_succ]
      refine wl_yield (o := ⟨_, _, _, _, _, _⟩) (.int .i64 (xs.length : Nat)) (yt_lenT (by rfl) _ rfl p xs.length c rfl) ?_
      simp only [Act.put, List.setIfInBounds_toArray, List.set_cons_zero, List.set_cons_succ]
      refine wl_yield (o := ⟨_, _, _, _, _, _⟩) (.bool false) (yt_lssI (by rfl) _ _ _ rfl (((xs.length : Nat) : Int)) (((xs.length : Nat) : Int)) false rfl rfl (decide_eq_false (by omega))) ?_
      simp only [Act.put, List.setIfInBounds_toArray, List.set_cons_zero, List.set_cons_succ]
      refine wpList_nil ?_
      refine hK6 _ _ ?_
      clear hK6 K6
      refine wp_cond_false rfl ?_
      refine wp_exit ?_
      refine hK3 _ _ ?_
      clear hK5 K5 hK3 K3
      refine wp_seq_k (fun K7 hK7 => ?_)
      refine wp_region_lit ?_
      refine wl_yield (o := ⟨_, _, _, _, _, _⟩) (.string (bs (joinL ((xs.take xs.length).map (·.data.toList))))) (yl_move (by rfl) _ rfl _ rfl) ?_
      simp only [Act.put, List.setIfInBounds_toArray, List.set_cons_zero, List.set_cons_succ]
      refine wl_yield (o := ⟨_, _, _, _, _, _⟩) (.string (bs (joinL ((xs.take xs.length).map (·.data.toList))))) (yl_assign (by rfl) _ rfl _ rfl) ?_
      simp only [Act.put, List.setIfInBounds_toArray, List.set_cons_zero, List.set_cons_succ]
      refine wpList_nil ?_
      refine hK7 _ _ ?_
      clear hK7 K7
      refine wp_ret ?_
      go_ret
      exact ⟨ret_str (by rw [List.take_length]), Below.refl _ _⟩

end Go.Proofs.YtciflobdpenpaaaGreatDoor
