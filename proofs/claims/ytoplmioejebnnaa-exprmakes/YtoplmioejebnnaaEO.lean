/-
  An expression, opened from its reading.
-/
import Derived.Test.YtoplmioejebnnaaEA
set_option linter.unusedSimpArgs false
set_option linter.unusedVariables false
namespace Go.Proofs.Ytoplmioejebnnaa
open Go.Deep Go.ChangeShapes Go.WideShapes Go.ChangeAt Go.WideMaps Go.WideElems Go.RowKit Go.Joins

theorem cellsEx : Try.prog.cellsOf 28 = 7 := by kernel_rfl
theorem cellsExs : Try.prog.cellsOf 26 = 1 := by kernel_rfl
def EC.list (c : EC) : List Value := [.int .i64 c.k, .int .i64 c.t, .bool c.s.a, .slice c.s.p c.s.n c.s.c, .bool c.s.d, .slice c.s.q c.s.m c.s.e, .slice c.p c.n c.c]
theorem seven {α : Type} {l : List α} (h : l.length = 7) : ∃ a0 a1 a2 a3 a4 a5 a6, l = [a0, a1, a2, a3, a4, a5, a6] := by
  match l, h with
  | [a0, a1, a2, a3, a4, a5, a6], _ => exact ⟨a0, a1, a2, a3, a4, a5, a6, rfl⟩
section
variable {H : Type} {enc : TypeId × Value → H} {W : World}
set_option maxHeartbeats 1000000 in
set_option maxRecDepth 100000 in
theorem open_exprc : ∀ (fuel : Nat) (cs : List Value) (y : DataW H × List MemPlace), DataW.trod enc Try.prog W 0 (fun _ => true) true fuel 28 cs = some y → ∃ (c : EC) (x : ExV), cs = c.list ∧ ExAt fuel W c.val x := by
  intro fuel
  induction fuel using Nat.strongRecOn with
  | ind fuel ih =>
  intro cs y h
  obtain ⟨xs, n, rfl, _, hlen, hl, hf⟩ := DataW.trod_struct Try.underlying28 h
  rw [cellsEx] at hlen
  obtain ⟨a0, a1, a2, a3, a4, a5, a6, rfl⟩ := seven hlen
  match xs, hl with
  | [y0, y1, y2, y3], _ =>
    have g0 := hf 0 _ rfl
    have g1 := hf 1 _ rfl
    have g2 := hf 2 _ rfl
    have g3 := hf 3 _ rfl
    simp only [cellsI, cellsSet, cellsExs, List.drop_zero, List.drop_succ_cons, List.take_succ_cons, List.take_zero, List.getElem?_cons_zero, List.getElem?_cons_succ] at g0 g1 g2 g3
    obtain ⟨k, e0, _, wk⟩ := DataW.trod_int Try.underlying3 g0
    obtain ⟨t, e1, _, wt⟩ := DataW.trod_int Try.underlying3 g1
    obtain ⟨S, hS⟩ := open_setc g2
    obtain ⟨s, es⟩ := hS.sc
    have hS' := hS
    rw [es] at hS'
    unfold SC.val at es
    simp [cellsI] at e0 e1 es
    obtain ⟨rfl, rfl, rfl, rfl⟩ := es
    subst e0 e1
    obtain ⟨k0, k1⟩ := bounds_i64 wk
    obtain ⟨t0, t1⟩ := bounds_i64 wt
    rcases DataW.trod_slice Try.underlying26 g3 with ⟨h0, _⟩ | ⟨a, len, cap, elems, rest, n', rfl, h0, _, hb, hlc, hm, hel, he, _, _⟩
    · simp [cellsExs] at h0
      subst h0
      exact ⟨⟨k, t, s, none, 0, 0⟩, ⟨k, t, S, []⟩, rfl, ⟨k, t, s, none, 0, 0⟩, rfl, ⟨rfl, rfl, rfl, k0, k1, t0, t1, hS', Nat.le_refl _, by simp, fun _ => ⟨rfl, rfl⟩⟩, fun i hi => by simp at hi⟩
    · simp [cellsExs] at h0
      subst h0
      have hone : ∀ i, i < len → ∃ cs' z, W.cells? 0 (a.add (i * 7)) 7 = some cs' ∧ DataW.trod enc Try.prog W 0 (fun _ => true) true n' 28 cs' = some z := fun i hi => by
        have h1 := he i hi
        rw [cellsEx, List.getElem?_eq_getElem (by omega), Option.bind_eq_some_iff] at h1
        obtain ⟨cs', h2, h3⟩ := h1
        exact ⟨cs', _, h2, h3⟩
      have hspot : 0 < len → a.spot = none := fun hpos => by
        obtain ⟨cs0, _, z1, _⟩ := hone 0 hpos
        obtain ⟨_, zl, zc⟩ := World.cells?_some z1
        have z0 := zc 0 (by omega)
        rw [List.getElem?_eq_getElem (by omega)] at z0
        simpa [Addr.add] using World.cell?_spot z0
      have hall : ∀ i, i < len → ∃ q : EC × ExV, EcAt W a.block (a.off + i * 7) q.1 ∧ ExAt n' W q.1.val q.2 := fun i hi => by
        obtain ⟨cs', z, h1, h2⟩ := hone i hi
        obtain ⟨d, x, hd, hx⟩ := ih n' (by omega) cs' z h2
        obtain ⟨_, zl, zc⟩ := World.cells?_some h1
        obtain ⟨bk, off, spot⟩ := a
        have hs : spot = none := hspot (by omega)
        subst hs hd
        have fj : ∀ j, ((Addr.mk bk off none).add (i * 7)).add j = ⟨bk, off + i * 7 + j, none⟩ := fun j => by rw [Go.Deep.add_add, Go.WideShapes.add_plain]; congr 1; omega
        have q0 := zc 0 (by omega)
        have q1 := zc 1 (by omega)
        have q2 := zc 2 (by omega)
        have q3 := zc 3 (by omega)
        have q4 := zc 4 (by omega)
        have q5 := zc 5 (by omega)
        have q6 := zc 6 (by omega)
        rw [fj] at q0 q1 q2 q3 q4 q5 q6
        exact ⟨(d, x), ⟨q0, q1, q2, q3, q4, q5, q6⟩, hx⟩
      have : Inhabited (EC × ExV) := ⟨(⟨0, 0, SC.zero, none, 0, 0⟩, noX)⟩
      obtain ⟨f, hf'⟩ := choose_lt hall
      refine ⟨⟨k, t, s, some a, len, cap⟩, ⟨k, t, S, (List.range len).map fun i => (f i).2⟩, rfl, ⟨k, t, s, some a, len, cap⟩, rfl, ⟨rfl, rfl, by simp, k0, k1, t0, t1, hS', hlc, by unfold maxLen at hm; dsimp only; omega, fun e => by cases e⟩, fun i hi => ?_⟩
      simp at hi
      obtain ⟨q1, q2⟩ := hf' i hi
      have hsp := hspot (by omega)
      refine ⟨a.block, a.off, (f i).1, by rw [← hsp], lt_cell (a := ⟨a.block, _, none⟩) q1.c0, q1, ?_⟩
      have hg : ((List.range len).map fun i => (f i).2).getD i noX = (f i).2 := by
        rw [List.getD_eq_getElem?_getD, List.getElem?_map, List.getElem?_range hi]
        rfl
      dsimp only
      rw [hg]
      exact ExAt.more n' (n' + 1) (by omega) q2
set_option maxRecDepth 100000 in
theorem open_exprA {r : Reach} {b0 : Nat} {v : Value} {d : DataW H} {p : List MemPlace} (hv : Value.okWide Try.prog W r b0 28 v) (h : DataW.Trod enc Try.prog W 0 (fun _ => true) true 28 v d p) :
    ∃ (n : Nat) (x : ExV), ExAt n W v x := by
  obtain ⟨cs, rfl, hsz⟩ := okWide_struct Try.underlying28 hv
  obtain ⟨l⟩ := cs
  obtain ⟨fuel, hf⟩ := h
  obtain ⟨c, x, hc, hx⟩ := open_exprc fuel _ _ hf
  refine ⟨fuel, x, ?_⟩
  have : l = c.list := by simpa [Value.cells] using hc
  subst this
  exact hx
end
end Go.Proofs.Ytoplmioejebnnaa
