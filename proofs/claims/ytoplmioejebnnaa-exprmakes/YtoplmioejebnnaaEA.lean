/-
  Expressions in memory: the form of their cells, what such a value is, and that it stays so; opened from an argument's reading.
-/
import Derived.Test.YtoplmioejebnnaaEP
import Derived.Test.YtoplmioejebnnaaSCF
import Derived.OpenShut
import Derived.Carry
import Derived.Deep.Slices
set_option linter.unusedSimpArgs false
set_option linter.unusedVariables false
namespace Go.Proofs.Ytoplmioejebnnaa
open Go.Deep Go.ChangeShapes Go.WideShapes Go.ChangeAt Go.WideMaps Go.WideElems Go.RowKit Go.Joins

/-- The cells of an expression: their form. -/
structure EC where
  k : Int
  t : Int
  s : SC
  p : Option Addr
  n : Nat
  c : Nat
def EC.val (x : EC) : Value := .agg #[.int .i64 x.k, .int .i64 x.t, .bool x.s.a, .slice x.s.p x.s.n x.s.c, .bool x.s.d, .slice x.s.q x.s.m x.s.e, .slice x.p x.n x.c]
def noX : ExV := ⟨0, 0, noSet, []⟩
/-- The cells from here on are just these. -/
structure EcAt (w : World) (g o : Nat) (x : EC) : Prop where
  c0 : w.cell? ⟨g, o, none⟩ = some (.int .i64 x.k)
  c1 : w.cell? ⟨g, o + 1, none⟩ = some (.int .i64 x.t)
  c2 : w.cell? ⟨g, o + 2, none⟩ = some (.bool x.s.a)
  c3 : w.cell? ⟨g, o + 3, none⟩ = some (.slice x.s.p x.s.n x.s.c)
  c4 : w.cell? ⟨g, o + 4, none⟩ = some (.bool x.s.d)
  c5 : w.cell? ⟨g, o + 5, none⟩ = some (.slice x.s.q x.s.m x.s.e)
  c6 : w.cell? ⟨g, o + 6, none⟩ = some (.slice x.p x.n x.c)
theorem EcAt.on {w w' : World} {g o : Nat} {x : EC} (h : EcAt w g o x) (hg : g < w.heap.size) (hb : Below w.heap.size w w') : EcAt w' g o x :=
  ⟨(hb.cell (p := ⟨g, _, none⟩) hg).trans h.c0, (hb.cell (p := ⟨g, _, none⟩) hg).trans h.c1, (hb.cell (p := ⟨g, _, none⟩) hg).trans h.c2, (hb.cell (p := ⟨g, _, none⟩) hg).trans h.c3, (hb.cell (p := ⟨g, _, none⟩) hg).trans h.c4, (hb.cell (p := ⟨g, _, none⟩) hg).trans h.c5, (hb.cell (p := ⟨g, _, none⟩) hg).trans h.c6⟩
/-- What is said of an expression's own cells. -/
structure EcFor (w : World) (c : EC) (x : ExV) : Prop where
  k : c.k = x.kind
  t : c.t = x.attr
  n : c.n = x.sub.length
  k0 : -9223372036854775808 ≤ c.k
  k1 : c.k ≤ 9223372036854775807
  t0 : -9223372036854775808 ≤ c.t
  t1 : c.t ≤ 9223372036854775807
  s : SetAt w c.s.val x.set
  room : c.n ≤ c.c
  big : c.c ≤ 9223372036854775807
  none : c.p = Option.none → c.n = 0 ∧ c.c = 0
theorem EcFor.on {w w' : World} {c : EC} {x : ExV} (h : EcFor w c x) (hb : Below w.heap.size w w') : EcFor w' c x := ⟨h.k, h.t, h.n, h.k0, h.k1, h.t0, h.t1, h.s.on hb, h.room, h.big, h.none⟩
/-- The value is just this expression, no deeper than so many levels. -/
def ExAt : Nat → World → Value → ExV → Prop
  | 0, _, _, _ => False
  | n + 1, w, v, x => ∃ c : EC, v = c.val ∧ EcFor w c x ∧ ∀ i, i < x.sub.length → ∃ (g off : Nat) (d : EC), c.p = some ⟨g, off, Option.none⟩ ∧ g < w.heap.size ∧ EcAt w g (off + i * 7) d ∧ ExAt n w d.val (x.sub.getD i noX)
theorem ExAt.on {w w' : World} (hb : Below w.heap.size w w') : ∀ (n : Nat) {v : Value} {x : ExV}, ExAt n w v x → ExAt n w' v x
  | 0, _, _, h => by cases h
  | n + 1, v, x, ⟨c, hv, hc, hs⟩ => ⟨c, hv, hc.on hb, fun i hi => by
    obtain ⟨g, off, d, hp, hg, hd, hx⟩ := hs i hi
    exact ⟨g, off, d, hp, Nat.lt_of_lt_of_le hg hb.size, hd.on hg hb, ExAt.on hb n hx⟩⟩
theorem ExAt.more {w : World} : ∀ (n m : Nat) {v : Value} {x : ExV}, n ≤ m → ExAt n w v x → ExAt m w v x
  | 0, _, _, _, _, h => by cases h
  | n + 1, m, v, x, hm, ⟨c, hv, hc, hs⟩ => by
    obtain ⟨k, rfl⟩ : ∃ k, m = k + 1 := ⟨m - 1, by omega⟩
    refine ⟨c, hv, hc, fun i hi => ?_⟩
    obtain ⟨g, off, d, hp, hg, hd, hx⟩ := hs i hi
    exact ⟨g, off, d, hp, hg, hd, ExAt.more n k (by omega) hx⟩
theorem ExAt.ec {w : World} {n : Nat} {v : Value} {x : ExV} (h : ExAt n w v x) : ∃ c : EC, v = c.val ∧ EcFor w c x := by
  cases n with
  | zero => cases h
  | succ n =>
    obtain ⟨c, hv, hc, _⟩ := h
    exact ⟨c, hv, hc⟩
theorem ec_inj {c d : EC} (h : c.val = d.val) : c = d := by
  obtain ⟨k, t, ⟨sa, sp, sn, sc, sd, sq, sm, se⟩, p, n, r⟩ := c
  obtain ⟨k', t', ⟨sa', sp', sn', sc', sd', sq', sm', se'⟩, p', n', r'⟩ := d
  unfold EC.val at h
  simp at h
  obtain ⟨rfl, rfl, rfl, ⟨rfl, rfl, rfl⟩, rfl, ⟨rfl, rfl, rfl⟩, rfl, rfl, rfl⟩ := h
  rfl
/-- The part at a place of Sub. -/
theorem ExAt.part {w : World} {n : Nat} {c : EC} {x : ExV} (h : ExAt (n + 1) w c.val x) (i : Nat) (hi : i < x.sub.length) : ∃ (g off : Nat) (d : EC), c.p = some ⟨g, off, Option.none⟩ ∧ g < w.heap.size ∧ EcAt w g (off + i * 7) d ∧ ExAt n w d.val (x.sub.getD i noX) := by
  obtain ⟨c', hv, hc, hs⟩ := h
  have := ec_inj hv
  subst this
  exact hs i hi
theorem getD_mem {l : List ExV} {i : Nat} (h : i < l.length) : l.getD i noX ∈ l := by
  rw [List.getD_eq_getElem?_getD, List.getElem?_eq_getElem h]
  exact List.getElem_mem _
theorem ExAt.low {w : World} : ∀ (n : Nat) {v : Value} {x : ExV}, ExAt n w v x → lowX n x
  | 0, _, _, h => by cases h
  | n + 1, v, x, ⟨c, hv, hc, hs⟩ => fun y hy => by
    obtain ⟨i, hi, rfl⟩ := List.getElem_of_mem hy
    obtain ⟨g, off, d, hp, hg, hd, hx⟩ := hs i hi
    have := ExAt.low n hx
    rwa [List.getD_eq_getElem?_getD, List.getElem?_eq_getElem hi, Option.getD_some] at this
end Go.Proofs.Ytoplmioejebnnaa
