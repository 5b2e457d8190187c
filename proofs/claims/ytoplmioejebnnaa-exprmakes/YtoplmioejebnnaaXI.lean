/-
  The program's isSo.
-/
import Derived.Test.YtoplmioejebnnaaXH
import Derived.Lib.QuietBelow
set_option linter.unusedSimpArgs false
set_option linter.unusedVariables false
namespace Go.Proofs.Ytoplmioejebnnaa
open Go.RowKit

def exObj (c : EC) : Obj := Obj.cells #[.int .i64 c.k, .int .i64 c.t, .bool c.s.a, .slice c.s.p c.s.n c.s.c, .bool c.s.d, .slice c.s.q c.s.m c.s.e, .slice c.p c.n c.c] 28
def evObj (e : EvV) : Obj := Obj.cells #[.int .i64 e.v0.1, .int .i64 e.v0.2.1, .string e.v0.2.2, .int .i64 e.v1.1, .int .i64 e.v1.2.1, .string e.v1.2.2, .int .i64 e.v2.1, .int .i64 e.v2.2.1, .string e.v2.2.2, .int .i64 e.v3.1, .int .i64 e.v3.2.1, .string e.v3.2.2] 32
/-- An expression and an event, each in a new block. -/
structure XeAt (w W : World) (c : EC) (e : EvV) : Prop where
  x : W.heap[w.heap.size]? = some (exObj c)
  e : EvIn W (w.heap.size + 1) e
  b : Below w.heap.size w W
theorem XeAt.new (w : World) (c : EC) (e : EvV) : XeAt w ((w.alloc (exObj c)).alloc (evObj e)) c e := by
  refine ⟨?_, ?_, ?_⟩
  · exact (Below.heap_alloc (w.alloc (exObj c)) (evObj e) w.heap.size (by simp)).trans (heap_new w _)
  · have := heap_new (w.alloc (exObj c)) (evObj e)
    rw [World.size_alloc] at this
    exact this
  · exact ((Below.refl _ w).alloc (Nat.le_refl _) _).alloc (by simp) _
theorem XeAt.on {w W W' : World} {c : EC} {e : EvV} (h : XeAt w W c e) (hb : Below W.heap.size W W') : XeAt w W' c e := ⟨(hb.block _ (lt_heap h.x)).trans h.x, h.e.on hb, h.b.trans (hb.mono h.b.size)⟩

theorem isX_step (n : Nat) (x : ExV) (e : EvV) : isX (n + 1) x e = if x.kind = 1 then hasP x.set (e.get x.attr.toNat) else if x.kind = 2 then x.sub.all fun y => isX n y e else if x.kind = 3 then x.sub.any fun y => isX n y e else !(x.sub.head?.elim false fun y => isX n y e) := rfl
set_option maxHeartbeats 8000000 in
set_option maxRecDepth 100000 in
theorem isSo_atom (n : Nat) (x : ExV) (c : EC) (e : EvV) (w : World) (hx : ExAt (n + 1) w c.val x) (hn : nodeX x = true) (hk : x.kind = 1) (hf : evFit e) :
    Calls Try.prog 33 #[c.val, evVal e] w fun r w' => r = .returned (.bool (isX (n + 1) x e)) ∧ Below w.heap.size w w' := by
  obtain ⟨c', hv, hc, _⟩ := id hx
  obtain rfl := ec_inj hv
  obtain ⟨a0, a3, fs⟩ := node_atom hn hk hc
  have ec : (c.k == 1) = true := by rw [hc.k, hk]; rfl
  have R := fun (i : Nat) (hi : i < 4) (W : World) (hb : Below w.heap.size w W) => hide (has_any _ x.set (e.get i).1 (e.get i).2.1 (e.get i).2.2 W (hc.s.on hb) fs (evFit_get hf i hi))
  have EQ : Hid (isX (n + 1) x e = hasP x.set (e.get x.attr.toNat)) := hide (by rw [isX_step, if_pos hk])
  have HT := hide (XeAt.new w c e)
  have HTT := hide hc.t
  have b0 : 0 ≤ c.t := by rw [hc.t]; exact a0
  have b3 : c.t ≤ 3 := by rw [hc.t]; exact a3
  clear hx hv hc hn hk hf fs a0 a3
  unfold exObj evObj at HT
  unfold SC.val at R
  unfold EC.val evVal
  go_enter Try.func33, Try.ntmps33
  go_wp2
  generalize (w.alloc (Obj.cells #[.int .i64 c.k, .int .i64 c.t, .bool c.s.a, .slice c.s.p c.s.n c.s.c, .bool c.s.d, .slice c.s.q c.s.m c.s.e, .slice c.p c.n c.c] 28)).alloc (Obj.cells #[.int .i64 e.v0.1, .int .i64 e.v0.2.1, .string e.v0.2.2, .int .i64 e.v1.1, .int .i64 e.v1.2.1, .string e.v1.2.2, .int .i64 e.v2.1, .int .i64 e.v2.2.1, .string e.v2.2.2, .int .i64 e.v3.1, .int .i64 e.v3.2.1, .string e.v3.2.2] 32) = wr at HT ⊢
  obtain ⟨c0, c1, c2, c3, c4, c5, c6⟩ := ecCells1 HT.out.x
  obtain ⟨d0, d1, d2, d3, d4, d5, d6, d7, d8, d9, d10, d11⟩ := evCells HT.out.e
  have hcase : c.t = 0 ∨ c.t = 1 ∨ c.t = 2 ∨ c.t = 3 := by omega
  rcases hcase with h | h | h | h
  · have X := fun (d : Nat) (os : Array Obj) => hide (Calls.regrown_of (R 0 (by omega) (Sort.grow (redrawn wr d) os) (HT.out.b.trans ((below_regrown wr d os).mono HT.out.b.size))).out)
    rw [h] at c1
    have q1 := cell_regrown c1
    have q2 := cell_regrown c2
    have q3 := cell_regrown c3
    have q4 := cell_regrown c4
    have q5 := cell_regrown c5
    have p0 := cell_regrown d0
    have p1 := cell_regrown d1
    have p2 := cell_regrown d2
    have EQ2 : Hid (isX (n + 1) x e = hasP x.set (e.get 0)) := hide (by rw [EQ.out, ← HTT.out, h]; rfl)
    clear R c0 c1 c2 c3 c4 c5 c6 d0 d1 d2 d3 d4 d5 d6 d7 d8 d9 d10 d11 EQ HTT
    refine wp_region_quiet_below mixed (by kernel_rfl) ?_
    repeat (first | go_big_quiet_step (exact unhide (X _ _)) | quiet_step (exact unhide (X _ _)))
    refine wpQuiet_nil ?_
    intro _ hw'
    obtain ⟨⟨dq, osq⟩, hw''⟩ := hw'
    subst hw''
    have HT2 := hide (HT.out.on (below_regrown wr dq osq))
    clear X p0 p1 p2 q1 q2 q3 q4 q5
    dsimp only
    generalize Sort.grow (redrawn wr dq) osq = w2 at HT2 ⊢
    go_wp2
    go_ret
    exact ⟨ret_bool EQ2.out.symm, HT2.out.b⟩
  · have X := fun (d : Nat) (os : Array Obj) => hide (Calls.regrown_of (R 1 (by omega) (Sort.grow (redrawn wr d) os) (HT.out.b.trans ((below_regrown wr d os).mono HT.out.b.size))).out)
    rw [h] at c1
    have q1 := cell_regrown c1
    have q2 := cell_regrown c2
    have q3 := cell_regrown c3
    have q4 := cell_regrown c4
    have q5 := cell_regrown c5
    have p0 := cell_regrown d3
    have p1 := cell_regrown d4
    have p2 := cell_regrown d5
    have EQ2 : Hid (isX (n + 1) x e = hasP x.set (e.get 1)) := hide (by rw [EQ.out, ← HTT.out, h]; rfl)
    clear R c0 c1 c2 c3 c4 c5 c6 d0 d1 d2 d3 d4 d5 d6 d7 d8 d9 d10 d11 EQ HTT
    refine wp_region_quiet_below mixed (by kernel_rfl) ?_
    repeat (first | go_big_quiet_step (exact unhide (X _ _)) | quiet_step (exact unhide (X _ _)))
    refine wpQuiet_nil ?_
    intro _ hw'
    obtain ⟨⟨dq, osq⟩, hw''⟩ := hw'
    subst hw''
    have HT2 := hide (HT.out.on (below_regrown wr dq osq))
    clear X p0 p1 p2 q1 q2 q3 q4 q5
    dsimp only
    generalize Sort.grow (redrawn wr dq) osq = w2 at HT2 ⊢
    go_wp2
    go_ret
    exact ⟨ret_bool EQ2.out.symm, HT2.out.b⟩
  · have X := fun (d : Nat) (os : Array Obj) => hide (Calls.regrown_of (R 2 (by omega) (Sort.grow (redrawn wr d) os) (HT.out.b.trans ((below_regrown wr d os).mono HT.out.b.size))).out)
    rw [h] at c1
    have q1 := cell_regrown c1
    have q2 := cell_regrown c2
    have q3 := cell_regrown c3
    have q4 := cell_regrown c4
    have q5 := cell_regrown c5
    have p0 := cell_regrown d6
    have p1 := cell_regrown d7
    have p2 := cell_regrown d8
    have EQ2 : Hid (isX (n + 1) x e = hasP x.set (e.get 2)) := hide (by rw [EQ.out, ← HTT.out, h]; rfl)
    clear R c0 c1 c2 c3 c4 c5 c6 d0 d1 d2 d3 d4 d5 d6 d7 d8 d9 d10 d11 EQ HTT
    refine wp_region_quiet_below mixed (by kernel_rfl) ?_
    repeat (first | go_big_quiet_step (exact unhide (X _ _)) | quiet_step (exact unhide (X _ _)))
    refine wpQuiet_nil ?_
    intro _ hw'
    obtain ⟨⟨dq, osq⟩, hw''⟩ := hw'
    subst hw''
    have HT2 := hide (HT.out.on (below_regrown wr dq osq))
    clear X p0 p1 p2 q1 q2 q3 q4 q5
    dsimp only
    generalize Sort.grow (redrawn wr dq) osq = w2 at HT2 ⊢
    go_wp2
    go_ret
    exact ⟨ret_bool EQ2.out.symm, HT2.out.b⟩
  · have X := fun (d : Nat) (os : Array Obj) => hide (Calls.regrown_of (R 3 (by omega) (Sort.grow (redrawn wr d) os) (HT.out.b.trans ((below_regrown wr d os).mono HT.out.b.size))).out)
    rw [h] at c1
    have q1 := cell_regrown c1
    have q2 := cell_regrown c2
    have q3 := cell_regrown c3
    have q4 := cell_regrown c4
    have q5 := cell_regrown c5
    have p0 := cell_regrown d9
    have p1 := cell_regrown d10
    have p2 := cell_regrown d11
    have EQ2 : Hid (isX (n + 1) x e = hasP x.set (e.get 3)) := hide (by rw [EQ.out, ← HTT.out, h]; rfl)
    clear R c0 c1 c2 c3 c4 c5 c6 d0 d1 d2 d3 d4 d5 d6 d7 d8 d9 d10 d11 EQ HTT
    refine wp_region_quiet_below mixed (by kernel_rfl) ?_
    repeat (first | go_big_quiet_step (exact unhide (X _ _)) | quiet_step (exact unhide (X _ _)))
    refine wpQuiet_nil ?_
    intro _ hw'
    obtain ⟨⟨dq, osq⟩, hw''⟩ := hw'
    subst hw''
    have HT2 := hide (HT.out.on (below_regrown wr dq osq))
    clear X p0 p1 p2 q1 q2 q3 q4 q5
    dsimp only
    generalize Sort.grow (redrawn wr dq) osq = w2 at HT2 ⊢
    go_wp2
    go_ret
    exact ⟨ret_bool EQ2.out.symm, HT2.out.b⟩
set_option maxHeartbeats 8000000 in
set_option maxRecDepth 100000 in
theorem isSo_and (n : Nat) (x : ExV) (c : EC) (e : EvV) (w : World) (hx : ExAt (n + 1) w c.val x) (hk : x.kind = 2)
    (IH : ∀ y ∈ x.sub, ∀ (d : EC) (W : World), ExAt n W d.val y → Calls Try.prog 33 #[d.val, evVal e] W fun r W' => r = .returned (.bool (isX n y e)) ∧ Below W.heap.size W W') :
    Calls Try.prog 33 #[c.val, evVal e] w fun r w' => r = .returned (.bool (isX (n + 1) x e)) ∧ Below w.heap.size w w' := by
  obtain ⟨c', hv, hc, _⟩ := id hx
  obtain rfl := ec_inj hv
  have e1 : (c.k == 1) = false := by rw [hc.k, hk]; rfl
  have e2 : (c.k == 2) = true := by rw [hc.k, hk]; rfl
  have e3 : (c.k == 3) = false := by rw [hc.k, hk]; rfl
  have HT := hide (XeAt.new w c e)
  have X := hide (containsFunc1_any (.pointer (some ⟨w.heap.size + 1, 0, none⟩)) n c x _ _ (ExAt.on HT.out.b _ hx) (isSo1_fn e (w.heap.size + 1) n x _ HT.out.e IH))
  have EQ : Hid (isX (n + 1) x e = !((List.range x.sub.length).any fun i => !isX n (x.sub.getD i noX) e)) := hide (by rw [isX_step, if_neg (by omega), if_pos hk, range_any (fun y => !isX n y e) x.sub, ← List.not_all_eq_any_not, Bool.not_not])
  generalize ((List.range x.sub.length).any fun i => !isX n (x.sub.getD i noX) e) = q at X EQ
  clear hx hv hc hk IH
  unfold exObj evObj at HT X
  unfold EC.val evVal
  go_enter Try.func33, Try.ntmps33
  go_wp2_with fail
  refine (unhide X).mono ?_
  rintro r w2 ⟨rfl, b2⟩
  have HT2 := hide (HT.out.on b2)
  clear X b2 HT
  go_wp2
  go_ret
  exact ⟨ret_bool EQ.out.symm, HT2.out.b⟩
set_option maxHeartbeats 8000000 in
set_option maxRecDepth 100000 in
theorem isSo_or (n : Nat) (x : ExV) (c : EC) (e : EvV) (w : World) (hx : ExAt (n + 1) w c.val x) (hk : x.kind = 3)
    (IH : ∀ y ∈ x.sub, ∀ (d : EC) (W : World), ExAt n W d.val y → Calls Try.prog 33 #[d.val, evVal e] W fun r W' => r = .returned (.bool (isX n y e)) ∧ Below W.heap.size W W') :
    Calls Try.prog 33 #[c.val, evVal e] w fun r w' => r = .returned (.bool (isX (n + 1) x e)) ∧ Below w.heap.size w w' := by
  obtain ⟨c', hv, hc, _⟩ := id hx
  obtain rfl := ec_inj hv
  have e1 : (c.k == 1) = false := by rw [hc.k, hk]; rfl
  have e2 : (c.k == 2) = false := by rw [hc.k, hk]; rfl
  have e3 : (c.k == 3) = true := by rw [hc.k, hk]; rfl
  have HT := hide (XeAt.new w c e)
  have X := hide (containsFunc2_any (.pointer (some ⟨w.heap.size + 1, 0, none⟩)) n c x _ _ (ExAt.on HT.out.b _ hx) (isSo2_fn e (w.heap.size + 1) n x _ HT.out.e IH))
  have EQ : Hid (isX (n + 1) x e = (List.range x.sub.length).any fun i => isX n (x.sub.getD i noX) e) := hide (by rw [isX_step, if_neg (by omega), if_neg (by omega), if_pos hk, range_any (fun y => isX n y e) x.sub])
  generalize ((List.range x.sub.length).any fun i => isX n (x.sub.getD i noX) e) = q at X EQ
  clear hx hv hc hk IH
  unfold exObj evObj at HT X
  unfold EC.val evVal
  go_enter Try.func33, Try.ntmps33
  go_wp2_with fail
  refine (unhide X).mono ?_
  rintro r w2 ⟨rfl, b2⟩
  have HT2 := hide (HT.out.on b2)
  clear X b2 HT
  go_wp2
  go_ret
  exact ⟨ret_bool EQ.out.symm, HT2.out.b⟩
set_option maxHeartbeats 8000000 in
set_option maxRecDepth 100000 in
theorem isSo_not (n : Nat) (x : ExV) (c : EC) (e : EvV) (w : World) (hx : ExAt (n + 1) w c.val x) (k1 : ¬ x.kind = 1) (k2 : ¬ x.kind = 2) (k3 : ¬ x.kind = 3) (h1 : x.sub.length = 1)
    (IH : ∀ y ∈ x.sub, ∀ (d : EC) (W : World), ExAt n W d.val y → Calls Try.prog 33 #[d.val, evVal e] W fun r W' => r = .returned (.bool (isX n y e)) ∧ Below W.heap.size W W') :
    Calls Try.prog 33 #[c.val, evVal e] w fun r w' => r = .returned (.bool (isX (n + 1) x e)) ∧ Below w.heap.size w w' := by
  obtain ⟨c', hv, hc, _⟩ := id hx
  obtain rfl := ec_inj hv
  have e1 : (c.k == 1) = false := by rw [hc.k]; simpa using k1
  have e2 : (c.k == 2) = false := by rw [hc.k]; simpa using k2
  have e3 : (c.k == 3) = false := by rw [hc.k]; simpa using k3
  have hn : Hid (c.n = 1) := hide (by rw [hc.n, h1])
  have HT := hide (XeAt.new w c e)
  have hl : 0 < x.sub.length := by omega
  obtain ⟨g, off, d, hp, hg, hd, hy⟩ := hx.part 0 hl
  have R := fun (W : World) (hb : Below w.heap.size w W) => hide (IH _ (getD_mem hl) d W (ExAt.on hb _ hy))
  have EQ : Hid (isX (n + 1) x e = !isX n (x.sub.getD 0 noX) e) := hide (by
    rw [isX_step, if_neg k1, if_neg k2, if_neg k3]
    match hs : x.sub, hl with
    | y :: l, _ => rfl)
  generalize isX n (x.sub.getD 0 noX) e = q at R EQ
  have room := hc.room
  have big := hc.big
  clear hx hv hc IH k1 k2 k3 h1 hy hl
  unfold exObj evObj at HT
  unfold EC.val evVal at R ⊢
  have HC := hide hp
  clear hp
  go_enter Try.func33, Try.ntmps33
  go_wp2
  generalize (w.alloc (Obj.cells #[.int .i64 c.k, .int .i64 c.t, .bool c.s.a, .slice c.s.p c.s.n c.s.c, .bool c.s.d, .slice c.s.q c.s.m c.s.e, .slice c.p c.n c.c] 28)).alloc (Obj.cells #[.int .i64 e.v0.1, .int .i64 e.v0.2.1, .string e.v0.2.2, .int .i64 e.v1.1, .int .i64 e.v1.2.1, .string e.v1.2.2, .int .i64 e.v2.1, .int .i64 e.v2.2.1, .string e.v2.2.2, .int .i64 e.v3.1, .int .i64 e.v3.2.1, .string e.v3.2.2] 32) = wr at HT ⊢
  obtain ⟨c0, c1, c2, c3, c4, c5, c6⟩ := ecCells1 HT.out.x
  obtain ⟨d0, d1, d2, d3, d4, d5, d6, d7, d8, d9, d10, d11⟩ := evCells HT.out.e
  obtain ⟨f0, f1, f2, f3, f4, f5, f6⟩ := hd.on hg HT.out.b
  have X := fun (d : Nat) (os : Array Obj) => hide (Calls.regrown_of (R (Sort.grow (redrawn wr d) os) (HT.out.b.trans ((below_regrown wr d os).mono HT.out.b.size))).out)
  rw [HC.out, hn.out] at c6
  simp only [Nat.zero_mul, Nat.add_zero] at f0 f1 f2 f3 f4 f5 f6
  have q6 := cell_regrown c6
  have r0 := cell_regrown d0
  have r1 := cell_regrown d1
  have r2 := cell_regrown d2
  have r3 := cell_regrown d3
  have r4 := cell_regrown d4
  have r5 := cell_regrown d5
  have r6 := cell_regrown d6
  have r7 := cell_regrown d7
  have r8 := cell_regrown d8
  have r9 := cell_regrown d9
  have r10 := cell_regrown d10
  have r11 := cell_regrown d11
  have s0 := cell_regrown f0
  have s1 := cell_regrown f1
  have s2 := cell_regrown f2
  have s3 := cell_regrown f3
  have s4 := cell_regrown f4
  have s5 := cell_regrown f5
  have s6 := cell_regrown f6
  rw [hn.out] at room
  clear R c0 c1 c2 c3 c4 c5 c6 d0 d1 d2 d3 d4 d5 d6 d7 d8 d9 d10 d11 f0 f1 f2 f3 f4 f5 f6 hd hg HC hn
  refine wp_region_quiet_below mixed (by kernel_rfl) ?_
  repeat (first | go_big_quiet_step (exact unhide (X _ _)) | quiet_step (exact unhide (X _ _)))
  refine wpQuiet_nil ?_
  intro _ hw'
  obtain ⟨⟨dq, osq⟩, hw''⟩ := hw'
  subst hw''
  have HT2 := hide (HT.out.on (below_regrown wr dq osq))
  clear X q6 r0 r1 r2 r3 r4 r5 r6 r7 r8 r9 r10 r11 s0 s1 s2 s3 s4 s5 s6
  dsimp only
  generalize Sort.grow (redrawn wr dq) osq = w2 at HT2 ⊢
  go_wp2
  go_ret
  exact ⟨ret_bool EQ.out.symm, HT2.out.b⟩
theorem isSo_any (e : EvV) (hf : evFit e) : ∀ (n : Nat) (x : ExV) (c : EC) (w : World), ExAt n w c.val x → eachX n x = true →
    Calls Try.prog 33 #[c.val, evVal e] w fun r w' => r = .returned (.bool (isX n x e)) ∧ Below w.heap.size w w' := by
  intro n
  induction n with
  | zero => intro x c w h; cases h
  | succ n ih =>
    intro x c w hx he
    obtain ⟨hn, hs⟩ := each_sub he
    have IH : ∀ y ∈ x.sub, ∀ (d : EC) (W : World), ExAt n W d.val y → Calls Try.prog 33 #[d.val, evVal e] W fun r W' => r = .returned (.bool (isX n y e)) ∧ Below W.heap.size W W' := fun y hy d W h => ih y d W h (hs y hy)
    by_cases k1 : x.kind = 1
    · exact isSo_atom n x c e w hx hn k1 hf
    · by_cases k2 : x.kind = 2
      · exact isSo_and n x c e w hx k2 IH
      · by_cases k3 : x.kind = 3
        · exact isSo_or n x c e w hx k3 IH
        · exact isSo_not n x c e w hx k1 k2 k3 (node_not hn k1 k2 k3) IH
end Go.Proofs.Ytoplmioejebnnaa
