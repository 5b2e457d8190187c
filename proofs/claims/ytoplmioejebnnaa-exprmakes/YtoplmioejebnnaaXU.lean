/-
  A row of expressions of the call's own, put together one by one; a row of them opened from its reading.
-/
import Derived.Test.YtoplmioejebnnaaXR
set_option linter.unusedSimpArgs false
set_option linter.unusedVariables false
namespace Go.Proofs.Ytoplmioejebnnaa
open Go.RowKit

/-- append, and where the new row lies. -/
theorem run_append_where (w : World) (base ty : Nat) (v : Value) (n : Nat) (xs : List Value) (hown : w.ownsRow base 28 7 v n xs)
    (a : Addr) (c : Nat) (news : List Value) (hl : news.length = 7) (hnews : ∀ j u, news[j]? = some u → w.cell? (a.add j) = some u) (h1 : ∀ u ∈ news, u.oneCell' = true) (hn : n ≤ 1000) (hbase : base ≤ w.heap.size) :
    ∃ v' w', (Builtin.append_ #[26, 26] ty #[v, .slice (some a) 1 c]).run Try.prog w = .ok v' w' ∧ w'.ownsRow base 28 7 v' (n + 1) (xs ++ news) ∧ w.grownBy w' v.ownBlock ∧ (∀ g, v'.ownBlock = some g → some g = v.ownBlock ∨ w.heap.size ≤ g) := by
  obtain ⟨i0, hi, hz0, hz1, hz2⟩ := info_parts cInfoX
  obtain ⟨v', w', hr, ho, hg, _⟩ := run_append_own (P := Try.prog) w base 26 ty 28 i0 _ 7 104 Try.underlying26 hi hz0 hz1 hz2 rfl (by decide) v n xs hown a 1 c news (by rw [hl]) hnews h1 (by unfold maxLen; omega) (by omega) hbase
  refine ⟨v', w', hr, ho, hg, ?_⟩
  rcases hown.2 with ⟨rfl, rfl⟩ | ⟨g, cap, cur, rfl, hbg, hgc, hnc, hcm, hcs, htake⟩
  · have hr2 := run_append_nil (P := Try.prog) w 26 ty 28 i0 _ Try.underlying26 hi hz0 a 1 c news (by rw [hl, hz1]) hnews (by omega) (by omega) (by rw [hz2]; omega)
    rw [hr] at hr2
    injection hr2 with e1 e2
    intro g hg'
    rw [e1] at hg'
    simp only [Value.ownBlock, Option.some.injEq] at hg'
    right
    omega
  · by_cases hroom : n + 1 ≤ cap
    · have hr2 := run_append_room (P := Try.prog) w 26 ty 28 i0 Try.underlying26 hi g n cap cur hgc a 1 c news (by rw [hl, hz1]) hnews h1 hroom (by rw [hl, hz1, hcs]; omega)
      rw [hr] at hr2
      injection hr2 with e1 e2
      intro k hk
      rw [e1] at hk
      left
      simp only [Value.ownBlock] at hk ⊢
      exact hk.symm
    · have hr2 := run_append_grow (P := Try.prog) w 26 ty 28 i0 _ Try.underlying26 hi hz0 ⟨g, 0, none⟩ n cap xs (by rw [hz1]; exact hown.1) (hown.cells (g := g) rfl) a 1 c news (by rw [hl, hz1]) hnews (by omega) (by omega) (growslice_fits (by omega) (by rw [hz2]; omega))
      rw [hr] at hr2
      injection hr2 with e1 e2
      intro k hk
      rw [e1] at hk
      simp only [Value.ownBlock, Option.some.injEq] at hk
      right
      omega
section
variable {ops : Array Oper} {Q : Exit → Act → World → Prop} {o : Oper} {a : Act}
theorem wl_appendEx {rest : List Oper} {w : World} (hw : Region.wanted o (yielded ops a.tmps) = true) (s x : Operand) (ho : o.op = .call { callee := .builtin .append, args := #[s, x], argTypes := #[26, 26] })
    (base : Nat) (v : Value) (n : Nat) (xs : List Value) (hs : a.eval s = v) (hown : w.ownsRow base 28 7 v n xs) (ad : Addr) (c : Nat) (news : List Value) (hx : a.eval x = .slice (some ad) 1 c)
    (hl : news.length = 7) (hnews : ∀ j u, news[j]? = some u → w.cell? (ad.add j) = some u) (h1 : ∀ u ∈ news, u.oneCell' = true) (hn : n ≤ 1000) (hbase : base ≤ w.heap.size)
    (h : ∀ v' w', w'.ownsRow base 28 7 v' (n + 1) (xs ++ news) → w.grownBy w' v.ownBlock → (∀ g, v'.ownBlock = some g → some g = v.ownBlock ∨ w.heap.size ≤ g) → wpList Try.prog ops Q rest (a.put o.dst v') w') : wpList Try.prog ops Q (o :: rest) a w := by
  obtain ⟨v', w', hr, h2, h3, h4⟩ := run_append_where w base o.type v n xs hown ad c news hl hnews h1 hn hbase
  refine wl_run hw v' w' ?_ (h v' w' h2 h3 h4)
  unfold execOp
  simp only [ho, resolve, invoke, builtin, Sem.run_bind, Sem.run_pure, Result.andThen_ok, List.map_toArray, List.map_cons, List.map_nil, hs, hx, hr]
end
section
open Go.Deep Go.ChangeShapes Go.WideShapes Go.ChangeAt Go.WideMaps Go.WideElems Go.RowKit Go.Joins
variable {H : Type} {enc : TypeId × Value → H} {W : World}
set_option maxRecDepth 100000 in
theorem open_exprsA {r : Reach} {b0 : Nat} {v : Value} {d : DataW H} {p : List MemPlace} (hv : Value.okWide Try.prog W r b0 26 v) (h : DataW.Trod enc Try.prog W 0 (fun _ => true) true 26 v d p) :
    ∃ (n : Nat) (l : List ExV), RowsX n W v l := by
  obtain ⟨a0, len0, cap0, rfl⟩ := Go.WideShapes.okWide_slice Try.underlying26 hv
  obtain ⟨fuel, hf⟩ := h
  rcases DataW.trod_slice Try.underlying26 hf with ⟨h0, _⟩ | ⟨a, len, cap, elems, rest, n', rfl, h0, _, hb, hlc, hm, hel, he, _, _⟩
  · simp [Value.cells] at h0
    obtain ⟨rfl, rfl, rfl⟩ := h0
    exact ⟨0, [], RowsX.nil 0 W⟩
  · simp [Value.cells] at h0
    obtain ⟨rfl, rfl, rfl⟩ := h0
    have hone : ∀ i, i < len0 → ∃ cs' z, W.cells? 0 (a.add (i * 7)) 7 = some cs' ∧ DataW.trod enc Try.prog W 0 (fun _ => true) true n' 28 cs' = some z := fun i hi => by
      have h1 := he i hi
      rw [cellsEx, List.getElem?_eq_getElem (by omega), Option.bind_eq_some_iff] at h1
      obtain ⟨cs', h2, h3⟩ := h1
      exact ⟨cs', _, h2, h3⟩
    have hspot : 0 < len0 → a.spot = none := fun hpos => by
      obtain ⟨cs0, _, z1, _⟩ := hone 0 hpos
      obtain ⟨_, zl, zc⟩ := World.cells?_some z1
      have z0 := zc 0 (by omega)
      rw [List.getElem?_eq_getElem (by omega)] at z0
      simpa [Addr.add] using World.cell?_spot z0
    have hall : ∀ i, i < len0 → ∃ q : EC × ExV, EcAt W a.block (a.off + i * 7) q.1 ∧ ExAt n' W q.1.val q.2 := fun i hi => by
      obtain ⟨cs', z, h1, h2⟩ := hone i hi
      obtain ⟨d, x, hd, hx⟩ := open_exprc n' cs' z h2
      obtain ⟨_, zl, zc⟩ := World.cells?_some h1
      obtain ⟨bk, off, spot⟩ := a
      have hs : spot = none := hspot (by omega)
      subst hs hd
      have fj : ∀ j, ((Addr.mk bk off none).add (i * 7)).add j = ⟨bk, off + i * 7 + j, none⟩ := fun j => by rw [Go.Deep.add_add, Go.WideShapes.add_plain]; congr 1; omega
      have q0 := zc 0 (by omega)
      have q1 := zc 1 (by omega)
      have q2 := zc 2 (by omega)
      have q3 := zc 3 (by omega)
      have q4 := zc 4 (by omega)
      have q5 := zc 5 (by omega)
      have q6 := zc 6 (by omega)
      rw [fj] at q0 q1 q2 q3 q4 q5 q6
      exact ⟨(d, x), ⟨q0, q1, q2, q3, q4, q5, q6⟩, hx⟩
    have : Inhabited (EC × ExV) := ⟨(ec0, noX)⟩
    obtain ⟨f, hf'⟩ := choose_lt hall
    refine ⟨n', (List.range len0).map fun i => (f i).2, some a, cap0, by simp, by simpa using hlc, by unfold maxLen at hm; omega, fun e => by simp at e, fun i hi => ?_⟩
    simp at hi
    obtain ⟨q1, q2⟩ := hf' i hi
    have hsp := hspot (by omega)
    refine ⟨a.block, a.off, (f i).1, by rw [← hsp], lt_cell (a := ⟨a.block, _, none⟩) q1.c0, q1, ?_⟩
    have hg : ((List.range len0).map fun i => (f i).2).getD i noX = (f i).2 := by
      rw [List.getD_eq_getElem?_getD, List.getElem?_map, List.getElem?_range hi]
      rfl
    rw [hg]
    exact q2
end
end Go.Proofs.Ytoplmioejebnnaa
