import Derived.Test.YtbaijjclofekcaaGreatDoorRG2
import Derived.Test.YtbaijjclofekcaaGreatDoorRG1
import Derived.Test.YtbaijjclofekcaaGreatDoorRows
import Derived.Tactics
import Derived.Tactics2
import Derived.Defers
import Derived.Laws.Pointers
import Derived.Laws.LoneSync
import Derived.Laws.NewBlocks
import Derived.RegionTactic
import Derived.RegionCalls
import Derived.ChangeAlike
import Derived.Lib.AppendIntMem
import Derived.Lib.SmallJoins
import Derived.WalkSmall
set_option linter.unusedSimpArgs false
set_option linter.unusedVariables false
namespace Go.Proofs.YtbaijjclofekcaaGreatDoor
open Go.RowKit
def UpC (m : Nat) (c : SC) : Prop := (∀ a, c.p = some a → m ≤ a.block) ∧ (∀ a, c.q = some a → m ≤ a.block)
theorem UpC.mono {m m' : Nat} {c : SC} (h : UpC m c) (hm : m' ≤ m) : UpC m' c := ⟨fun a e => Nat.le_trans hm (h.1 a e), fun a e => Nat.le_trans hm (h.2 a e)⟩
theorem upC_zero (m : Nat) (a d : Bool) : UpC m ⟨a, none, 0, 0, d, none, 0, 0⟩ := ⟨fun a e => (by cases e), fun a e => (by cases e)⟩
theorem RngsAt.kept {m : Nat} {w w' : World} {p : Option Addr} {n c : Nat} {l : List Rg} (h : RngsAt w (.slice p n c) l) (hp : ∀ a, p = some a → m ≤ a.block) (hk : Kept m w w') : RngsAt w' (.slice p n c) l := by
  obtain ⟨h1, h2, a, cap, hv, h⟩ := h
  refine ⟨h1, h2, a, cap, hv, fun i hi => ?_⟩
  obtain ⟨b, off, ha, hlt, c0, c1⟩ := h i hi
  injection hv with e1 e2 e3
  have hb : m ≤ b := hp _ (e1.trans ha)
  exact ⟨b, off, ha, Nat.lt_of_lt_of_le hlt hk.size, (hk.cell (p := ⟨b, _, none⟩) hb hlt).trans c0, (hk.cell (p := ⟨b, _, none⟩) hb hlt).trans c1⟩
theorem StrsAt.kept {m : Nat} {w w' : World} {p : Option Addr} {n c : Nat} {l : List ByteArray} (h : StrsAt w (.slice p n c) l) (hp : ∀ a, p = some a → m ≤ a.block) (hk : Kept m w w') : StrsAt w' (.slice p n c) l := by
  obtain ⟨h1, h2, a, cap, hv, h⟩ := h
  refine ⟨h1, h2, a, cap, hv, fun i hi => ?_⟩
  obtain ⟨b, off, ha, hlt, c0⟩ := h i hi
  injection hv with e1 e2 e3
  have hb : m ≤ b := hp _ (e1.trans ha)
  exact ⟨b, off, ha, Nat.lt_of_lt_of_le hlt hk.size, (hk.cell (p := ⟨b, _, none⟩) hb hlt).trans c0⟩
theorem SetAt.kept {m : Nat} {w w' : World} {c : SC} {S : SetV} (h : SetAt w c.val S) (hu : UpC m c) (hk : Kept m w w') : SetAt w' c.val S := by
  obtain ⟨vi, vs, e, hI, hS⟩ := h
  unfold SC.val at e
  simp only [Value.agg.injEq, Array.mk.injEq, List.cons.injEq, and_true] at e
  obtain ⟨e1, rfl, e3, rfl⟩ := e
  exact ⟨_, _, by unfold SC.val; rw [e1, e3], hI.kept hu.1 hk, hS.kept hu.2 hk⟩
structure NewSt (m : Nat) (w : World) (cs : List SC) (l : List SetV) : Prop where
  at_ : AllSt w cs l
  up : ∀ c ∈ cs, UpC m c
theorem NewSt.kept {m : Nat} {w w' : World} {cs : List SC} {l : List SetV} (h : NewSt m w cs l) (hk : Kept m w w') : NewSt m w' cs l :=
  ⟨⟨h.at_.1, fun i hi => (h.at_.2 i hi).kept (h.up _ (gD_mem (by rw [h.at_.1]; exact hi))) hk⟩, h.up⟩
theorem NewSt.on {m : Nat} {w w' : World} {cs : List SC} {l : List SetV} (h : NewSt m w cs l) (hb : Below w.heap.size w w') : NewSt m w' cs l := h.kept (Kept.ofBelow hb)
theorem NewSt.mono {m m' : Nat} {w : World} {cs : List SC} {l : List SetV} (h : NewSt m w cs l) (hm : m' ≤ m) : NewSt m' w cs l := ⟨h.at_, fun c hc => (h.up c hc).mono hm⟩
theorem NewSt.append {m : Nat} {w : World} {cs ds : List SC} {l k : List SetV} (h : NewSt m w cs l) (h' : NewSt m w ds k) : NewSt m w (cs ++ ds) (l ++ k) :=
  ⟨allSt_append h.at_ h'.at_, fun c hc => (List.mem_append.1 hc).elim (h.up c) (h'.up c)⟩
theorem NewSt.one {m : Nat} {w : World} {c : SC} {S : SetV} (h : SetAt w c.val S) (hu : UpC m c) : NewSt m w [c] [S] :=
  ⟨⟨rfl, fun i hi => by
    rw [List.length_singleton] at hi
    obtain rfl : i = 0 := by omega
    exact h⟩, fun d hd => by simp at hd; rw [hd]; exact hu⟩
theorem newSt_nil (m : Nat) (w : World) : NewSt m w [] [] := ⟨⟨rfl, fun i hi => absurd hi (Nat.not_lt_zero _)⟩, fun c hc => by simp at hc⟩
theorem noSet_sc (w : World) (a d : Bool) : SetAt w (SC.val ⟨a, none, 0, 0, d, none, 0, 0⟩) ⟨a, [], d, []⟩ :=
  ⟨_, _, rfl, ⟨fun r h => (by cases h), by simp, none, 0, rfl, fun i hi => absurd hi (Nat.not_lt_zero _)⟩, ⟨fun r h => (by cases h), by simp, none, 0, rfl, fun i hi => absurd hi (Nat.not_lt_zero _)⟩⟩
theorem NewSt.sets {B m : Nat} {w w' : World} {v : Value} {cs : List SC} {l : List SetV} (h : NewSt m w cs l) (hown : OwnT w B v cs) (hB : m ≤ B) (hl : cs.length ≤ 1000000) (hk : Kept m w w') : SetsAt w' v l :=
  sets_of_row (OwnT.row (B := B) (ownsRow_kept hown (hk.mono hB)) hl) (h.kept hk).at_
theorem made_zero (N : Nat) : (madeCells SC.zero.val.cells (N * 4)).toList = scCells (List.replicate N SC.zero) := by
  apply List.ext_getElem?
  intro j
  have hl : (madeCells SC.zero.val.cells (N * 4)).toList.length = N * 4 := by simp [madeCells]
  by_cases hj : j < N * 4
  · have h1 := scCells_at (List.replicate N SC.zero) (j / 4) (j % 4) (by simp; omega) (Nat.mod_lt _ (by decide))
    rw [show j / 4 * 4 + j % 4 = j by omega] at h1
    rw [h1, List.getD_eq_getElem?_getD, List.getElem?_replicate, if_pos (by omega), Option.getD_some]
    rw [List.getElem?_eq_getElem (by rw [hl]; exact hj)]
    simp only [madeCells, Array.toList_map, List.getElem_map, Array.toList_range, List.getElem_range]
    have h4 : j % SC.zero.val.cells.size = j % 4 := rfl
    rw [h4]
    have : j % 4 = 0 ∨ j % 4 = 1 ∨ j % 4 = 2 ∨ j % 4 = 3 := by omega
    rcases this with e | e | e | e <;> rw [e] <;> rfl
  · rw [List.getElem?_eq_none (by rw [hl]; omega), List.getElem?_eq_none (by rw [scCells_len]; simp; omega)]
theorem ownU_zero {w : World} {i0 : TypeInfo} (hi : Tryz.prog.info? 43 = some i0) (hz0 : i0.zero = some SC.zero.val) (hz1 : i0.size = 4) (hz2 : i0.bytes = 64) (N : Nat) (hN : N ≤ 100000) :
    ∃ w', (Instr.makeSlice 31 (.int .i64 (N : Int)) (.int .i64 (N : Int))).run Tryz.prog w = .ok (.slice (some ⟨w.heap.size, 0, none⟩) N N) w' ∧ OwnU w' w.heap.size (.slice (some ⟨w.heap.size, 0, none⟩) N N) (List.replicate N SC.zero) ∧ Below w.heap.size w w' := by
  have hr := run_make (P := Tryz.prog) w 31 43 i0 _ Tryz.underlying31 hi hz0 .i64 .i64 N N (by omega) (Int.le_refl _) (by rw [hz2]; omega) (by omega)
  simp only [Int.toNat_natCast, hz1] at hr
  refine ⟨_, hr, ⟨?_, fun g hg => ?_⟩, (Below.refl _ w).alloc (Nat.le_refl _) _⟩
  · refine ⟨by rw [scCells_len], Or.inr ⟨w.heap.size, N, madeCells SC.zero.val.cells (N * 4), by simp, Nat.le_refl _, heap_new w _, by simp, by unfold maxLen; omega, ?_, ?_⟩⟩
    · simp [madeCells]
    · rw [made_zero, List.take_of_length_le (by rw [scCells_len]; exact Nat.le_refl _)]
  · obtain rfl : w.heap.size = g := Option.some.inj hg
    exact ⟨_, heap_new w _, fun x hx => plq_made _ x hx⟩
section
variable {ops : Array Oper} {Q : Exit → Act → World → Prop} {S : World → Prop} {o : Oper} {a : Act}
theorem wq_makeT {rest : List Oper} {w : World} (hw : Region.wanted o (yielded ops a.tmps) = true) (y x : Operand) (ho : o.op = .makeSlice 31 y x) (N : Nat) (hy : a.eval y = .int .i64 N) (hx : a.eval x = .int .i64 N) (hN : N ≤ 100000)
    (h : ∀ W g, w.heap.size ≤ g → OwnU W w.heap.size (.slice (some ⟨g, 0, none⟩) N N) (List.replicate N SC.zero) → Below w.heap.size w W → wpList Tryz.prog ops Q rest (a.put o.dst (.slice (some ⟨g, 0, none⟩) N N)) W) : wpList Tryz.prog ops Q (o :: rest) a w := by
  obtain ⟨i0, hi, hz0, hz1, hz2⟩ := info_parts cInfoT
  obtain ⟨w', h1, h2, h3⟩ := ownU_zero (w := w) hi hz0 hz1 hz2 N hN
  refine wl_run hw _ w' ?_ (h w' _ (Nat.le_refl _) h2 h3)
  simp only [execOp, ho, hy, hx, Sem.run_bind, h1, Result.andThen_ok, Sem.run_pure]
theorem wq_putT {rest : List Oper} {w : World} (hw : Region.wanted o (yielded ops a.tmps) = true) (x y : Operand) (ho : o.op = .store 40 x y) (g k : Nat) (hx : a.eval x = .pointer (some ⟨g, 0 + k * 4 + 1, none⟩)) (p : Option Addr) (n c : Nat) (hy : a.eval y = .slice p n c)
    (B m cap : Nat) (cs : List SC) (hown : OwnU w B (.slice (some ⟨g, 0, none⟩) m cap) cs) (hk : k < cs.length)
    (h : ∀ W, OwnU W B (.slice (some ⟨g, 0, none⟩) m cap) (cs.set k { cs.getD k SC.zero with p := p, n := n, c := c }) → w.grownBy W (some g) → (∀ {y : Value} {b : SetV}, SetAt w y b → SetAt W y b) → wpList Tryz.prog ops Q rest (a.put o.dst undef) W) : wpList Tryz.prog ops Q (o :: rest) a w := by
  obtain ⟨cur, hg, hpl⟩ := hown.pl g rfl
  obtain ⟨g', cap', cur', e, hB, hg', hn, hm, hs⟩ := (hown.own.form).resolve_left (fun e => by cases e.1)
  injection e with e1 e2 e3
  injection e1 with e1
  injection e1 with e1
  subst e1 e2 e3
  rw [hg] at hg'
  injection hg' with e4
  injection e4 with e4
  subst e4
  rw [Nat.zero_add] at hx
  have hsz : k * 4 + 1 < cur.size := by omega
  have hr : (execOp a.eval o).run Tryz.prog w = .ok .skip (w.setCell ⟨g, k * 4 + 1, none⟩ (.slice p n c)) := by
    have h0 : w.cell? ⟨g, k * 4 + 1, none⟩ = some cur[k * 4 + 1] := by rw [cell_heap hg]; exact Array.getElem?_eq_getElem hsz
    have hf : w.frozen? ⟨g, k * 4 + 1, none⟩ = false := frozen_heap hg _
    simp only [execOp, ho, hx, hy]
    go_simp
  have hW := heap_setCell (i := k * 4 + 1) (.slice p n c) hg
  refine wl_skip hw _ hr (h _ ⟨?_, fun k' hk' => ?_⟩ (grown_put w g _ _) (fun q => ?_))
  · have hlen : (cs.set k { cs.getD k SC.zero with p := p, n := n, c := c }).length = cs.length := List.length_set
    have := ownT_of (cs := cs.set k { cs.getD k SC.zero with p := p, n := n, c := c }) hW hB (by rw [hlen]; exact hn) hm (by simp; exact hs) (fun i hi => ?_)
    · rw [hlen] at this; exact this
    · rw [hlen] at hi
      intro j v hv
      have hj : j < 4 := by
        have := (List.getElem?_eq_some_iff.1 hv).1
        rwa [SC.lst_len] at this
      have hold := hown.own.range i hi j
      rw [cell_heap hW]
      by_cases hik : i = k
      · subst hik
        rw [List.getD_eq_getElem?_getD, List.getElem?_set_self (by exact hk), Option.getD_some] at hv
        by_cases hj1 : j = 1
        · subst hj1
          have : v = .slice p n c := by
            unfold SC.lst at hv
            simpa using hv.symm
          rw [this]
          simp [hsz]
        · have h5 := hold v (by
            unfold SC.lst at hv ⊢
            have : j = 0 ∨ j = 2 ∨ j = 3 := by omega
            rcases this with e | e | e <;> subst e <;> simpa using hv)
          rw [cell_heap hg] at h5
          rw [← h5]
          first | (rw [Array.getElem?_setIfInBounds_ne (by omega)]) | (rw [Array.getElem?_set_ne]; omega) | (simp; rw [Array.getElem?_setIfInBounds_ne (by omega)])
      · rw [List.getD_eq_getElem?_getD, List.getElem?_set_ne (by omega), ← List.getD_eq_getElem?_getD] at hv
        have h5 := hold v hv
        rw [cell_heap hg] at h5
        rw [← h5]
        first | (rw [Array.getElem?_setIfInBounds_ne (by omega)]) | (simp; rw [Array.getElem?_setIfInBounds_ne (by omega)])
  · obtain rfl : g = k' := Option.some.inj hk'
    refine ⟨_, hW, fun z hz => ?_⟩
    rcases List.mem_or_eq_of_mem_set (by simpa using hz) with h1 | h1
    · exact hpl z (by simpa using h1)
    · rw [h1]; rfl
  · exact q.asq hg hpl (by simp) (fun i hi hne => Below.heap_setCell _ _ _ _ (fun e => hne (by simpa using e)))
end
end Go.Proofs.YtbaijjclofekcaaGreatDoor
namespace Go.Proofs.YtbaijjclofekcaaGreatDoor
open Go.RowKit
def padN (B : List Int) (k : Nat) : List SetV := (numC B).take k ++ List.replicate (B.length - k) noSet
theorem padN_0 (B : List Int) : padN B 0 = List.replicate B.length noSet := rfl
theorem padN_all (B : List Int) : padN B B.length = numC B := by
  unfold padN
  rw [Nat.sub_self, List.replicate_zero, List.append_nil, List.take_of_length_le (by rw [numC_len]; exact Nat.le_refl _)]
theorem padN_len (B : List Int) (k : Nat) (h : k ≤ B.length) : (padN B k).length = B.length := by
  unfold padN
  rw [List.length_append, List.length_take, numC_len, List.length_replicate]; omega
theorem padN_step (B : List Int) (k : Nat) (h : k < B.length) : padN B (k + 1) = (padN B k).set k (cellN (B.getD k 0) (hiAt B k)) := by
  apply List.ext_getElem?
  intro j
  have hl : (padN B k).length = B.length := padN_len B k (by omega)
  by_cases hj : j < B.length
  · by_cases e : j = k
    · subst e
      rw [List.getElem?_set_self (by rw [hl]; exact hj)]
      unfold padN
      rw [List.getElem?_append_left (by rw [List.length_take, numC_len]; omega), List.getElem?_take_of_lt (by omega), List.getElem?_eq_getElem (by rw [numC_len]; exact hj)]
      have := numC_at B j hj
      rw [List.getD_eq_getElem?_getD, List.getElem?_eq_getElem (by rw [numC_len]; exact hj)] at this
      rw [← this]; rfl
    · rw [List.getElem?_set_ne (by omega)]
      unfold padN
      by_cases h2 : j < k
      · rw [List.getElem?_append_left (by rw [List.length_take, numC_len]; omega), List.getElem?_append_left (by rw [List.length_take, numC_len]; omega), List.getElem?_take_of_lt (by omega), List.getElem?_take_of_lt h2]
      · rw [List.getElem?_append_right (by rw [List.length_take, numC_len]; omega), List.getElem?_append_right (by rw [List.length_take, numC_len]; omega), List.length_take, List.length_take, numC_len, List.getElem?_replicate, List.getElem?_replicate, if_pos (by omega), if_pos (by omega)]
  · rw [List.getElem?_eq_none (by rw [padN_len B (k + 1) (by omega)]; omega), List.getElem?_eq_none (by rw [List.length_set, hl]; omega)]
theorem NewSt.set {m : Nat} {w : World} {cs : List SC} {l : List SetV} {k : Nat} {c : SC} {S : SetV} (h : NewSt m w cs l) (hs : SetAt w c.val S) (hu : UpC m c) (hk : k < l.length) : NewSt m w (cs.set k c) (l.set k S) := by
  refine ⟨⟨by rw [List.length_set, List.length_set]; exact h.at_.1, fun i hi => ?_⟩, fun d hd => ?_⟩
  · rw [List.length_set] at hi
    by_cases e : i = k
    · subst e
      rw [List.getD_eq_getElem?_getD, List.getElem?_set_self (by rw [h.at_.1]; exact hi), List.getD_eq_getElem?_getD, List.getElem?_set_self hi]
      exact hs
    · have e1 : (cs.set k c).getD i SC.zero = cs.getD i SC.zero := by rw [List.getD_eq_getElem?_getD, List.getElem?_set_ne (by omega), ← List.getD_eq_getElem?_getD]
      have e2 : (l.set k S).getD i noSet = l.getD i noSet := by rw [List.getD_eq_getElem?_getD, List.getElem?_set_ne (by omega), ← List.getD_eq_getElem?_getD]
      rw [e1, e2]
      exact h.at_.2 i hi
  · rcases List.mem_or_eq_of_mem_set hd with h1 | h1
    · exact h.up d h1
    · rw [h1]; exact hu
theorem newSt_zero (m : Nat) (w : World) (n : Nat) : NewSt m w (List.replicate n SC.zero) (List.replicate n noSet) :=
  ⟨⟨by simp, fun i hi => by
    rw [List.length_replicate] at hi
    rw [List.getD_eq_getElem?_getD, List.getElem?_replicate, if_pos hi, List.getD_eq_getElem?_getD, List.getElem?_replicate, if_pos hi]
    exact noSet_sc w false false⟩, fun c hc => by rw [List.eq_of_mem_replicate hc]; exact upC_zero _ _ _⟩
theorem one_rng {w : World} {g : Nat} {a b : Int} {T : TypeId} (h : w.heap[g]? = some (.cells #[.int .i64 a, .int .i64 b] T (0, 0))) (h1 : -9223372036854775808 ≤ a ∧ a ≤ 9223372036854775807) (h2 : -9223372036854775808 ≤ b ∧ b ≤ 9223372036854775807) : RngsAt w (.slice (some ⟨g, 0, none⟩) 1 1) [(a, b)] :=
  ⟨fun r hr => (by
    rw [List.mem_singleton] at hr
    subst hr
    exact ⟨h1.1, h1.2, h2.1, h2.2⟩), by simp, some ⟨g, 0, none⟩, 0, rfl, fun i hi => by
    rw [List.length_singleton] at hi
    obtain rfl : i = 0 := by omega
    exact ⟨g, 0, rfl, lt_heap h, cell_heap h 0, cell_heap h 1⟩⟩
theorem one_str {w : World} {g : Nat} {s : ByteArray} {T : TypeId} (h : w.heap[g]? = some (.cells #[.string s] T (0, 0))) (h1 : s.size ≤ 9223372036854775807) : StrsAt w (.slice (some ⟨g, 0, none⟩) 1 1) [s] :=
  ⟨fun r hr => (by
    rw [List.mem_singleton] at hr
    subst hr
    exact h1), by simp, some ⟨g, 0, none⟩, 0, rfl, fun i hi => by
    rw [List.length_singleton] at hi
    obtain rfl : i = 0 := by omega
    exact ⟨g, 0, rfl, lt_heap h, cell_heap h 0⟩⟩
theorem cellN_at {w : World} {g : Nat} {a b : Int} {T : TypeId} (h : w.heap[g]? = some (.cells #[.int .i64 a, .int .i64 b] T (0, 0))) (h1 : -9223372036854775808 ≤ a ∧ a ≤ 9223372036854775807) (h2 : -9223372036854775808 ≤ b ∧ b ≤ 9223372036854775807) : SetAt w (SC.val ⟨false, some ⟨g, 0, none⟩, 1, 1, false, none, 0, 0⟩) (cellN a b) :=
  ⟨_, _, rfl, one_rng h h1 h2, ⟨fun r h => (by cases h), Nat.zero_le _, none, 0, rfl, fun i hi => absurd hi (Nat.not_lt_zero _)⟩⟩
theorem RowN.cellAt {w : World} {B g n cap : Nat} {l : List Int} (h : RowN w B (.slice (some ⟨g, 0, none⟩) n cap) l) (i : Nat) (hi : i < l.length) : w.cell? ⟨g, 0 + i * 1, none⟩ = some (.int .i64 (l.getD i 0)) := by
  rw [Nat.zero_add, Nat.mul_one]
  have hn : n = l.length := by
    rcases h.2 with ⟨e, _⟩ | ⟨g', cap', cur, e, _⟩
    · cases e
    · injection e
  subst hn
  refine ownsRow_cell h i _ ?_
  rw [List.getElem?_map, List.getElem?_eq_getElem hi, List.getD_eq_getElem?_getD, List.getElem?_eq_getElem hi]
  rfl
theorem RowN.form {w : World} {B : Nat} {v : Value} {l : List Int} (h : RowN w B v l) (h0 : 0 < l.length) : ∃ g c, v = .slice (some ⟨g, 0, none⟩) l.length c ∧ B ≤ g ∧ g < w.heap.size := by
  rcases h.2 with ⟨_, e⟩ | ⟨g, cap, cur, e, hB, hg, _⟩
  · omega
  · exact ⟨g, cap, e, hB, lt_heap hg⟩
theorem set_eta (cs : List SC) (k : Nat) (h : k < cs.length) (hz : cs.getD k SC.zero = SC.zero) (p : Option Addr) (n c : Nat) : cs.set k { cs.getD k SC.zero with p := p, n := n, c := c } = cs.set k ⟨false, p, n, c, false, none, 0, 0⟩ := by rw [hz]; rfl
set_option maxHeartbeats 4000000 in
set_option maxRecDepth 100000 in
theorem numberCells_any (v : Value) (R : List Rg) (w : World) (hv : RngsAt w v R) (hR : R.length ≤ 40000) :
    Calls Tryz.prog 40 #[v] w fun r w' => (∃ u cs, r = .returned u ∧ OwnT w' w.heap.size u cs ∧ NewSt w.heap.size w' cs (numC (sortedN (begL R)))) ∧ Below w.heap.size w w' := by
  obtain ⟨a, cap, rfl⟩ := hv.form
  have D : w.grownBy w none := grown_refl _ _
  go_enter Tryz.func40, Tryz.ntmps40
  refine wp_seq_k (fun K1 hK1 => ?_)
  refine wp_region_lit ?_
  refine wl_yield (o := ⟨_, _, _, _, _, _⟩) (.slice none 0 0) (yl_assign (by rfl) _ rfl _ rfl) ?_
  simp only [Act.put, lzA, lzB, lzC]
  refine wpList_nil ?_
  refine hK1 _ _ ?_
  clear hK1 K1
  refine wp_seq_k (fun K2 hK2 => ?_)
  refine wp_region_lit ?_
  refine wl_yield (o := ⟨_, _, _, _, _, _⟩) (.slice a R.length cap) (yl_move (by rfl) _ rfl _ rfl) ?_
  simp only [Act.put, lzA, lzB, lzC]
  refine wt_call (o := ⟨_, _, _, _, _, _⟩) (by rfl) 62 _ _ rfl #[.slice a R.length cap] rfl (run_call Tryz.func62 (by kernel_rfl) (by kernel_rfl)) ?_
  refine (beginnings_any _ R _ (hv.on (below_none D)) (by omega)).mono ?_
  rintro r v1 (⟨⟨u, rfl, hr⟩, kb⟩)
  · replace D := grown_below D kb
    clear kb
    have hB := begs_is R
    generalize hBB : sortedN (begL R) = B at hr hB
    have hp := hB.pos
    have hBl : B.length ≤ 100000 := by rw [← hBB]; have := sortedN_len (begL R); have := begL_len R R.length; rw [List.take_length] at this; omega
    have RB := hr
    clear hr
    obtain ⟨gb, cb, rfl, -, -⟩ := RB.form hp
    refine Or.inl ⟨.slice (some ⟨gb, 0, none⟩) B.length cb, rfl, ?_⟩
    simp only [Act.put, lzA, lzB, lzC]
    refine wl_yield (o := ⟨_, _, _, _, _, _⟩) (.slice (some ⟨gb, 0, none⟩) B.length cb) (yl_assign (by rfl) _ rfl _ rfl) ?_
    simp only [Act.put, lzA, lzB, lzC]
    refine wpList_nil ?_
    refine hK2 _ _ ?_
    clear hK2 K2
    refine wp_seq_k (fun K3 hK3 => ?_)
    refine wp_region_lit ?_
    refine wl_yield (o := ⟨_, _, _, _, _, _⟩) (.slice (some ⟨gb, 0, none⟩) B.length cb) (yl_move (by rfl) _ rfl _ rfl) ?_
    simp only [Act.put, lzA, lzB, lzC]
    refine wl_yield (o := ⟨_, _, _, _, _, _⟩) (.int .i64 (B.length : Nat)) (yt_lenN (by rfl) _ rfl (some ⟨gb, 0, none⟩) B.length cb rfl) ?_
    simp only [Act.put, lzA, lzB, lzC]
    refine wq_makeT (o := ⟨_, _, _, _, _, _⟩) (by rfl) _ _ rfl B.length rfl rfl (by omega) (fun v2 g2 hg OU kb => ?_)
    simp only [Act.put, lzA, lzB, lzC]
    have sz0 := D.size
    replace D := grown_below D kb
    replace RB := RB.on kb
    have NS := newSt_zero w.heap.size v2 B.length
    replace OU := OU.mono sz0
    clear kb
    refine wl_yield (o := ⟨_, _, _, _, _, _⟩) (.slice (some ⟨g2, 0, none⟩) B.length B.length) (yl_assign (by rfl) _ rfl _ rfl) ?_
    simp only [Act.put, lzA, lzB, lzC]
    refine wpList_nil ?_
    refine hK3 _ _ ?_
    clear hK3 K3
    refine wp_seq_k (fun K4 hK4 => ?_)
    refine wp_seq_k (fun K5 hK5 => ?_)
    refine wp_region_lit ?_
    refine wl_yield (o := ⟨_, _, _, _, _, _⟩) (.slice (some ⟨gb, 0, none⟩) B.length cb) (yl_move (by rfl) _ rfl _ rfl) ?_
    simp only [Act.put, lzA, lzB, lzC]
    refine wl_yield (o := ⟨_, _, _, _, _, _⟩) (.int .i64 (B.length : Nat)) (yt_lenN (by rfl) _ rfl (some ⟨gb, 0, none⟩) B.length cb rfl) ?_
    simp only [Act.put, lzA, lzB, lzC]
    refine wl_yield (o := ⟨_, _, _, _, _, _⟩) (.int .i64 0) (yl_move (by rfl) _ rfl _ rfl) ?_
    simp only [Act.put, lzA, lzB, lzC]
    refine wpList_nil ?_
    refine hK5 _ _ ?_
    clear hK5 K5
    refine wp_block ?_
    go_loopw [15] (fun i wr => ∃ (k : Nat) (cs : List SC), i = .int .i64 ((k : Nat) : Int) ∧ k ≤ B.length ∧ OwnU wr w.heap.size (.slice (some ⟨g2, 0, none⟩) B.length B.length) cs ∧ cs.length = B.length ∧ (∀ j, k ≤ j → j < B.length → cs.getD j SC.zero = SC.zero) ∧ NewSt w.heap.size wr cs (padN B k) ∧ RowN wr w.heap.size (.slice (some ⟨gb, 0, none⟩) B.length cb) B ∧ w.grownBy wr none) (fun i _ => B.length - (intOf i).toNat)
    case atStart => exact ⟨0, List.replicate B.length SC.zero, rfl, Nat.zero_le _, OU, by simp, fun j _ hj => by rw [List.getD_eq_getElem?_getD, List.getElem?_replicate, if_pos hj]; rfl, by rw [padN_0]; exact NS, RB, D⟩
    case round =>
      clear D RB OU NS
      obtain ⟨k, cs, rfl, hk, OU, hcl, hz, NS, RB, D⟩ := hrel
      by_cases hlt : k < B.length
      · have C0 := RB.cellAt k hlt
        have hin := begL_in hv.1 ((hB.mem _).1 (gD_mem (d := 0) hlt))
        have hhi : hiAt B k = if k + 1 < B.length then B.getD (k + 1) 0 - 1 else 9223372036854775807 := rfl
        have hzk := hz k (Nat.le_refl _) hlt
        by_cases h1 : k + 1 < B.length
        · rw [if_pos h1] at hhi
          have C1 := RB.cellAt (k + 1) h1
          have hin1 := begL_in hv.1 ((hB.mem _).1 (gD_mem (d := 0) h1))
          have hup := risesI_lt hB.up k (k + 1) (by omega) h1
          refine wp_seq_k (fun K6 hK6 => ?_)
          refine wp_region_lit ?_
          refine wl_yield (o := ⟨_, _, _, _, _, _⟩) (.bool true) (yt_lssI (by rfl) _ _ _ rfl ((k : Nat) : Int) ((B.length : Nat) : Int) true rfl rfl (decide_eq_true (by omega))) ?_
          simp only [Act.put, lzA, lzB, lzC]
          refine wpList_nil ?_
          refine hK6 _ _ ?_
          clear hK6 K6
          refine wp_seq_k (fun K7 hK7 => ?_)
          refine wp_cond_true rfl ?_
          refine wp_skip ?_
          refine hK7 _ _ ?_
          clear hK7 K7
          refine wp_seq_k (fun K8 hK8 => ?_)
          refine wp_block ?_
          refine wp_seq_k (fun K9 hK9 => ?_)
          refine wp_region_lit ?_
          refine wl_yield (o := ⟨_, _, _, _, _, _⟩) (.int .i64 (k : Nat)) (yl_move (by rfl) _ rfl _ rfl) ?_
          simp only [Act.put, lzA, lzB, lzC]
          refine wl_yield (o := ⟨_, _, _, _, _, _⟩) (.pointer (some ⟨gb, 0 + k * 1, none⟩)) (yt_atN (by rfl) _ _ rfl gb 0 _ _ k rfl rfl (hlt)) ?_
          simp only [Act.put, lzA, lzB, lzC]
          refine wl_yield (o := ⟨_, _, _, _, _, _⟩) (.int .i64 (B.getD k 0)) (yt_ldI (by rfl) _ rfl _ _ rfl _ (fun _ h => by subst h; exact C0)) ?_
          simp only [Act.put, lzA, lzB, lzC]
          refine wl_yield (o := ⟨_, _, _, _, _, _⟩) (.int .i64 (k : Nat)) (yl_assign (by rfl) _ rfl _ rfl) ?_
          simp only [Act.put, lzA, lzB, lzC]
          refine wl_yield (o := ⟨_, _, _, _, _, _⟩) (.int .i64 (B.getD k 0)) (yl_assign (by rfl) _ rfl _ rfl) ?_
          simp only [Act.put, lzA, lzB, lzC]
          refine wpList_nil ?_
          refine hK9 _ _ ?_
          clear hK9 K9
          refine wp_seq_k (fun K10 hK10 => ?_)
          refine wp_region_lit ?_
          refine wl_yield (o := ⟨_, _, _, _, _, _⟩) (.int .i64 9223372036854775807) (yl_assign (by rfl) _ rfl _ rfl) ?_
          simp only [Act.put, lzA, lzB, lzC]
          refine wpList_nil ?_
          refine hK10 _ _ ?_
          clear hK10 K10
          refine wp_seq_k (fun K11 hK11 => ?_)
          refine wp_seq_k (fun K12 hK12 => ?_)
          refine wp_region_lit ?_
          refine wl_yield (o := ⟨_, _, _, _, _, _⟩) (.int .i64 (k : Nat)) (yl_move (by rfl) _ rfl _ rfl) ?_
          simp only [Act.put, lzA, lzB, lzC]
          refine wl_yield (o := ⟨_, _, _, _, _, _⟩) (.int .i64 (k + 1 : Nat)) (yt_addI (by rfl) _ _ _ rfl ((k : Nat) : Int) 1 ((k + 1 : Nat) : Int) rfl rfl (by omega) (by omega) (by omega)) ?_
          simp only [Act.put, lzA, lzB, lzC]
          refine wl_yield (o := ⟨_, _, _, _, _, _⟩) (.slice (some ⟨gb, 0, none⟩) B.length cb) (yl_move (by rfl) _ rfl _ rfl) ?_
          simp only [Act.put, lzA, lzB, lzC]
          refine wl_yield (o := ⟨_, _, _, _, _, _⟩) (.int .i64 (B.length : Nat)) (yt_lenN (by rfl) _ rfl (some ⟨gb, 0, none⟩) B.length cb rfl) ?_
          simp only [Act.put, lzA, lzB, lzC]
          refine wl_yield (o := ⟨_, _, _, _, _, _⟩) (.bool true) (yt_lssI (by rfl) _ _ _ rfl ((k + 1 : Nat) : Int) ((B.length : Nat) : Int) true rfl rfl (decide_eq_true (by omega))) ?_
          simp only [Act.put, lzA, lzB, lzC]
          refine wpList_nil ?_
          refine hK12 _ _ ?_
          clear hK12 K12
          refine wp_cond_true rfl ?_
          refine wp_region_lit ?_
          refine wl_yield (o := ⟨_, _, _, _, _, _⟩) (.slice (some ⟨gb, 0, none⟩) B.length cb) (yl_move (by rfl) _ rfl _ rfl) ?_
          simp only [Act.put, lzA, lzB, lzC]
          refine wl_yield (o := ⟨_, _, _, _, _, _⟩) (.int .i64 (k : Nat)) (yl_move (by rfl) _ rfl _ rfl) ?_
          simp only [Act.put, lzA, lzB, lzC]
          refine wl_yield (o := ⟨_, _, _, _, _, _⟩) (.int .i64 (k + 1 : Nat)) (yt_addI (by rfl) _ _ _ rfl ((k : Nat) : Int) 1 ((k + 1 : Nat) : Int) rfl rfl (by omega) (by omega) (by omega)) ?_
          simp only [Act.put, lzA, lzB, lzC]
          refine wl_yield (o := ⟨_, _, _, _, _, _⟩) (.pointer (some ⟨gb, 0 + (k + 1) * 1, none⟩)) (yt_atN (by rfl) _ _ rfl gb 0 _ _ (k + 1) rfl rfl (h1)) ?_
          simp only [Act.put, lzA, lzB, lzC]
          refine wl_yield (o := ⟨_, _, _, _, _, _⟩) (.int .i64 (B.getD (k + 1) 0)) (yt_ldI (by rfl) _ rfl _ _ rfl _ (fun _ h => by subst h; exact C1)) ?_
          simp only [Act.put, lzA, lzB, lzC]
          refine wl_yield (o := ⟨_, _, _, _, _, _⟩) (.int .i64 (B.getD (k + 1) 0 - 1)) (yt_subI (by rfl) _ _ _ rfl (B.getD (k + 1) 0) 1 (B.getD (k + 1) 0 - 1) rfl rfl (by omega) (by omega) (by omega)) ?_
          simp only [Act.put, lzA, lzB, lzC]
          refine wl_yield (o := ⟨_, _, _, _, _, _⟩) (.int .i64 (B.getD (k + 1) 0 - 1)) (yl_assign (by rfl) _ rfl _ rfl) ?_
          simp only [Act.put, lzA, lzB, lzC]
          refine wpList_nil ?_
          refine hK11 _ _ ?_
          clear hK11 K11
          refine wp_region_lit ?_
          refine wl_yield (o := ⟨_, _, _, _, _, _⟩) (.slice (some ⟨g2, 0, none⟩) B.length B.length) (yl_move (by rfl) _ rfl _ rfl) ?_
          simp only [Act.put, lzA, lzB, lzC]
          refine wl_yield (o := ⟨_, _, _, _, _, _⟩) (.int .i64 (k : Nat)) (yl_move (by rfl) _ rfl _ rfl) ?_
          simp only [Act.put, lzA, lzB, lzC]
          refine wl_yield (o := ⟨_, _, _, _, _, _⟩) (.int .i64 (B.getD k 0)) (yl_move (by rfl) _ rfl _ rfl) ?_
          simp only [Act.put, lzA, lzB, lzC]
          refine wl_yield (o := ⟨_, _, _, _, _, _⟩) (.int .i64 (B.getD (k + 1) 0 - 1)) (yl_move (by rfl) _ rfl _ rfl) ?_
          simp only [Act.put, lzA, lzB, lzC]
          refine wl_yield (o := ⟨_, _, _, _, _, _⟩) (.agg #[.int .i64 (B.getD k 0), .int .i64 (B.getD (k + 1) 0 - 1)]) (yt_buildR (by rfl) _ _ rfl (B.getD k 0) (B.getD (k + 1) 0 - 1) rfl rfl) ?_
          simp only [Act.put, lzA, lzB, lzC]
          refine wt_row1R (o := ⟨_, _, _, _, _, _⟩) (by rfl) _ rfl (B.getD k 0, B.getD (k + 1) 0 - 1) rfl (fun v3 g3 hg G3 kb => ?_)
          have ge_g3 : w.heap.size ≤ g3 := Nat.le_trans D.size hg
          clear hg
          replace D := grown_below D kb
          replace OU := OU.on kb
          replace NS := NS.on kb
          replace RB := RB.on kb
          clear kb
          simp only [Act.put, lzA, lzB, lzC]
          refine wl_yield (o := ⟨_, _, _, _, _, _⟩) (.pointer (some ⟨g2, 0 + k * 4, none⟩)) (yt_atQ (by rfl) _ _ rfl g2 0 _ _ k rfl rfl (hlt)) ?_
          simp only [Act.put, lzA, lzB, lzC]
          refine wl_yield (o := ⟨_, _, _, _, _, _⟩) (.pointer (some ⟨g2, 0 + k * 4 + 1, none⟩)) (yt_fSt1 (by rfl) _ rfl g2 (0 + k * 4) rfl) ?_
          simp only [Act.put, lzA, lzB, lzC]
          have hSk : SetAt v3 (SC.val ⟨false, some ⟨g3, 0, none⟩, 1, 1, false, none, 0, 0⟩) (cellN (B.getD k 0) (hiAt B k)) := by rw [hhi]; exact cellN_at G3 ⟨by omega, by omega⟩ ⟨by omega, by omega⟩
          have hup1 : w.heap.size ≤ g3 := ge_g3
          refine wq_putT (o := ⟨_, _, _, _, _, _⟩) (by rfl) _ _ rfl g2 k rfl (some ⟨g3, 0, none⟩) 1 1 rfl w.heap.size B.length B.length cs OU (by omega) (fun v4 OU' kg hc => ?_)
          simp only [Act.put, lzA, lzB, lzC]
          rw [set_eta cs k (by omega) hzk] at OU'
          have NS1 := NewSt.set NS hSk ⟨fun a e => by cases e; exact hup1, fun a e => (by cases e)⟩ (by rw [padN_len B k hk]; exact hlt)
          rw [← padN_step B k hlt] at NS1
          have hgW := (World.ownsRow.lt OU.own g2 rfl)
          replace NS : NewSt w.heap.size v4 _ _ := ⟨⟨NS1.at_.1, fun i hi => hc (NS1.at_.2 i hi)⟩, NS1.up⟩
          obtain ⟨cur, hcur, -⟩ := OU.pl g2 rfl
          replace RB : RowN v4 w.heap.size (.slice (some ⟨gb, 0, none⟩) B.length cb) B := row_gr_heap RB kg hcur (by decide)
          replace D := gr_new D hgW.1 kg
          replace OU := OU'
          clear OU' NS1 hc kg hSk hcur G3
          refine wpList_nil ?_
          refine hK8 _ _ ?_
          clear hK8 K8
          refine wp_region_lit ?_
          refine wl_yield (o := ⟨_, _, _, _, _, _⟩) (.int .i64 (k + 1 : Nat)) (yt_addI (by rfl) _ _ _ rfl ((k : Nat) : Int) 1 ((k + 1 : Nat) : Int) rfl rfl (by omega) (by omega) (by omega)) ?_
          simp only [Act.put, lzA, lzB, lzC]
          refine wl_yield (o := ⟨_, _, _, _, _, _⟩) (.int .i64 (k + 1 : Nat)) (yl_move (by rfl) _ rfl _ rfl) ?_
          simp only [Act.put, lzA, lzB, lzC]
          refine wpList_nil ?_
          show _ ∧ _
          go_roundw
          case rel => exact ⟨k + 1, _, rfl, by omega, OU, by rw [List.length_set]; exact hcl, fun j h1 h2 => by rw [List.getD_eq_getElem?_getD, List.getElem?_set_ne (by omega), ← List.getD_eq_getElem?_getD]; exact hz j (by omega) h2, NS, RB, D⟩
          case measure => simp [intOf]; omega
        · rw [if_neg h1] at hhi
          refine wp_seq_k (fun K6 hK6 => ?_)
          refine wp_region_lit ?_
          refine wl_yield (o := ⟨_, _, _, _, _, _⟩) (.bool true) (yt_lssI (by rfl) _ _ _ rfl ((k : Nat) : Int) ((B.length : Nat) : Int) true rfl rfl (decide_eq_true (by omega))) ?_
          simp only [Act.put, lzA, lzB, lzC]
          refine wpList_nil ?_
          refine hK6 _ _ ?_
          clear hK6 K6
          refine wp_seq_k (fun K7 hK7 => ?_)
          refine wp_cond_true rfl ?_
          refine wp_skip ?_
          refine hK7 _ _ ?_
          clear hK7 K7
          refine wp_seq_k (fun K8 hK8 => ?_)
          refine wp_block ?_
          refine wp_seq_k (fun K9 hK9 => ?_)
          refine wp_region_lit ?_
          refine wl_yield (o := ⟨_, _, _, _, _, _⟩) (.int .i64 (k : Nat)) (yl_move (by rfl) _ rfl _ rfl) ?_
          simp only [Act.put, lzA, lzB, lzC]
          refine wl_yield (o := ⟨_, _, _, _, _, _⟩) (.pointer (some ⟨gb, 0 + k * 1, none⟩)) (yt_atN (by rfl) _ _ rfl gb 0 _ _ k rfl rfl (hlt)) ?_
          simp only [Act.put, lzA, lzB, lzC]
          refine wl_yield (o := ⟨_, _, _, _, _, _⟩) (.int .i64 (B.getD k 0)) (yt_ldI (by rfl) _ rfl _ _ rfl _ (fun _ h => by subst h; exact C0)) ?_
          simp only [Act.put, lzA, lzB, lzC]
          refine wl_yield (o := ⟨_, _, _, _, _, _⟩) (.int .i64 (k : Nat)) (yl_assign (by rfl) _ rfl _ rfl) ?_
          simp only [Act.put, lzA, lzB, lzC]
          refine wl_yield (o := ⟨_, _, _, _, _, _⟩) (.int .i64 (B.getD k 0)) (yl_assign (by rfl) _ rfl _ rfl) ?_
          simp only [Act.put, lzA, lzB, lzC]
          refine wpList_nil ?_
          refine hK9 _ _ ?_
          clear hK9 K9
          refine wp_seq_k (fun K10 hK10 => ?_)
          refine wp_region_lit ?_
          refine wl_yield (o := ⟨_, _, _, _, _, _⟩) (.int .i64 9223372036854775807) (yl_assign (by rfl) _ rfl _ rfl) ?_
          simp only [Act.put, lzA, lzB, lzC]
          refine wpList_nil ?_
          refine hK10 _ _ ?_
          clear hK10 K10
          refine wp_seq_k (fun K11 hK11 => ?_)
          refine wp_seq_k (fun K12 hK12 => ?_)
          refine wp_region_lit ?_
          refine wl_yield (o := ⟨_, _, _, _, _, _⟩) (.int .i64 (k : Nat)) (yl_move (by rfl) _ rfl _ rfl) ?_
          simp only [Act.put, lzA, lzB, lzC]
          refine wl_yield (o := ⟨_, _, _, _, _, _⟩) (.int .i64 (k + 1 : Nat)) (yt_addI (by rfl) _ _ _ rfl ((k : Nat) : Int) 1 ((k + 1 : Nat) : Int) rfl rfl (by omega) (by omega) (by omega)) ?_
          simp only [Act.put, lzA, lzB, lzC]
          refine wl_yield (o := ⟨_, _, _, _, _, _⟩) (.slice (some ⟨gb, 0, none⟩) B.length cb) (yl_move (by rfl) _ rfl _ rfl) ?_
          simp only [Act.put, lzA, lzB, lzC]
          refine wl_yield (o := ⟨_, _, _, _, _, _⟩) (.int .i64 (B.length : Nat)) (yt_lenN (by rfl) _ rfl (some ⟨gb, 0, none⟩) B.length cb rfl) ?_
          simp only [Act.put, lzA, lzB, lzC]
          refine wl_yield (o := ⟨_, _, _, _, _, _⟩) (.bool false) (yt_lssI (by rfl) _ _ _ rfl ((k + 1 : Nat) : Int) ((B.length : Nat) : Int) false rfl rfl (decide_eq_false (by omega))) ?_
          simp only [Act.put, lzA, lzB, lzC]
          refine wpList_nil ?_
          refine hK12 _ _ ?_
          clear hK12 K12
          refine wp_cond_false rfl ?_
          refine wp_skip ?_
          refine hK11 _ _ ?_
          clear hK11 K11
          refine wp_region_lit ?_
          refine wl_yield (o := ⟨_, _, _, _, _, _⟩) (.slice (some ⟨g2, 0, none⟩) B.length B.length) (yl_move (by rfl) _ rfl _ rfl) ?_
          simp only [Act.put, lzA, lzB, lzC]
          refine wl_yield (o := ⟨_, _, _, _, _, _⟩) (.int .i64 (k : Nat)) (yl_move (by rfl) _ rfl _ rfl) ?_
          simp only [Act.put, lzA, lzB, lzC]
          refine wl_yield (o := ⟨_, _, _, _, _, _⟩) (.int .i64 (B.getD k 0)) (yl_move (by rfl) _ rfl _ rfl) ?_
          simp only [Act.put, lzA, lzB, lzC]
          refine wl_yield (o := ⟨_, _, _, _, _, _⟩) (.int .i64 9223372036854775807) (yl_move (by rfl) _ rfl _ rfl) ?_
          simp only [Act.put, lzA, lzB, lzC]
          refine wl_yield (o := ⟨_, _, _, _, _, _⟩) (.agg #[.int .i64 (B.getD k 0), .int .i64 9223372036854775807]) (yt_buildR (by rfl) _ _ rfl (B.getD k 0) 9223372036854775807 rfl rfl) ?_
          simp only [Act.put, lzA, lzB, lzC]
          refine wt_row1R (o := ⟨_, _, _, _, _, _⟩) (by rfl) _ rfl (B.getD k 0, 9223372036854775807) rfl (fun v3 g3 hg G3 kb => ?_)
          have ge_g3 : w.heap.size ≤ g3 := Nat.le_trans D.size hg
          clear hg
          replace D := grown_below D kb
          replace OU := OU.on kb
          replace NS := NS.on kb
          replace RB := RB.on kb
          clear kb
          simp only [Act.put, lzA, lzB, lzC]
          refine wl_yield (o := ⟨_, _, _, _, _, _⟩) (.pointer (some ⟨g2, 0 + k * 4, none⟩)) (yt_atQ (by rfl) _ _ rfl g2 0 _ _ k rfl rfl (hlt)) ?_
          simp only [Act.put, lzA, lzB, lzC]
          refine wl_yield (o := ⟨_, _, _, _, _, _⟩) (.pointer (some ⟨g2, 0 + k * 4 + 1, none⟩)) (yt_fSt1 (by rfl) _ rfl g2 (0 + k * 4) rfl) ?_
          simp only [Act.put, lzA, lzB, lzC]
          have hSk : SetAt v3 (SC.val ⟨false, some ⟨g3, 0, none⟩, 1, 1, false, none, 0, 0⟩) (cellN (B.getD k 0) (hiAt B k)) := by rw [hhi]; exact cellN_at G3 ⟨by omega, by omega⟩ ⟨by omega, by omega⟩
          have hup1 : w.heap.size ≤ g3 := ge_g3
          refine wq_putT (o := ⟨_, _, _, _, _, _⟩) (by rfl) _ _ rfl g2 k rfl (some ⟨g3, 0, none⟩) 1 1 rfl w.heap.size B.length B.length cs OU (by omega) (fun v4 OU' kg hc => ?_)
          simp only [Act.put, lzA, lzB, lzC]
          rw [set_eta cs k (by omega) hzk] at OU'
          have NS1 := NewSt.set NS hSk ⟨fun a e => by cases e; exact hup1, fun a e => (by cases e)⟩ (by rw [padN_len B k hk]; exact hlt)
          rw [← padN_step B k hlt] at NS1
          have hgW := (World.ownsRow.lt OU.own g2 rfl)
          replace NS : NewSt w.heap.size v4 _ _ := ⟨⟨NS1.at_.1, fun i hi => hc (NS1.at_.2 i hi)⟩, NS1.up⟩
          obtain ⟨cur, hcur, -⟩ := OU.pl g2 rfl
          replace RB : RowN v4 w.heap.size (.slice (some ⟨gb, 0, none⟩) B.length cb) B := row_gr_heap RB kg hcur (by decide)
          replace D := gr_new D hgW.1 kg
          replace OU := OU'
          clear OU' NS1 hc kg hSk hcur G3
          refine wpList_nil ?_
          refine hK8 _ _ ?_
          clear hK8 K8
          refine wp_region_lit ?_
          refine wl_yield (o := ⟨_, _, _, _, _, _⟩) (.int .i64 (k + 1 : Nat)) (yt_addI (by rfl) _ _ _ rfl ((k : Nat) : Int) 1 ((k + 1 : Nat) : Int) rfl rfl (by omega) (by omega) (by omega)) ?_
          simp only [Act.put, lzA, lzB, lzC]
          refine wl_yield (o := ⟨_, _, _, _, _, _⟩) (.int .i64 (k + 1 : Nat)) (yl_move (by rfl) _ rfl _ rfl) ?_
          simp only [Act.put, lzA, lzB, lzC]
          refine wpList_nil ?_
          show _ ∧ _
          go_roundw
          case rel => exact ⟨k + 1, _, rfl, by omega, OU, by rw [List.length_set]; exact hcl, fun j h1 h2 => by rw [List.getD_eq_getElem?_getD, List.getElem?_set_ne (by omega), ← List.getD_eq_getElem?_getD]; exact hz j (by omega) h2, NS, RB, D⟩
          case measure => simp [intOf]; omega
      · obtain rfl : k = B.length := by omega
        refine wp_seq_k (fun K6 hK6 => ?_)
        refine wp_region_lit ?_
        refine wl_yield (o := ⟨_, _, _, _, _, _⟩) (.bool false) (yt_lssI (by rfl) _ _ _ rfl ((B.length : Nat) : Int) ((B.length : Nat) : Int) false rfl rfl (decide_eq_false (by omega))) ?_
        simp only [Act.put, lzA, lzB, lzC]
        refine wpList_nil ?_
        refine hK6 _ _ ?_
        clear hK6 K6
        refine wp_seq_k (fun K7 hK7 => ?_)
        refine wp_cond_false rfl ?_
        refine wp_exit ?_
        refine hK4 _ _ ?_
        clear hK7 K7 hK4 K4
        refine wp_seq_k (fun K8 hK8 => ?_)
        refine wp_region_lit ?_
        refine wl_yield (o := ⟨_, _, _, _, _, _⟩) (.slice (some ⟨g2, 0, none⟩) B.length B.length) (yl_move (by rfl) _ rfl _ rfl) ?_
        simp only [Act.put, lzA, lzB, lzC]
        refine wl_yield (o := ⟨_, _, _, _, _, _⟩) (.slice (some ⟨g2, 0, none⟩) B.length B.length) (yl_assign (by rfl) _ rfl _ rfl) ?_
        simp only [Act.put, lzA, lzB, lzC]
        refine wpList_nil ?_
        refine hK8 _ _ ?_
        clear hK8 K8
        refine wp_ret ?_
        try simp only [Exit.inBlock, Exit.then]
        rw [padN_all] at NS
        go_ret
        exact ⟨⟨_, cs, rfl, OU.own, by rw [hBB]; exact NS⟩, below_none D⟩
end Go.Proofs.YtbaijjclofekcaaGreatDoor
namespace Go.Proofs.YtbaijjclofekcaaGreatDoor
open Go.RowKit
def namesOf (l : List ByteArray) : List ByteArray := (Lib.compact ((l.map (·.data.toList)).mergeSort fun x y => decide (x ≤ y))).map ofSt
theorem ofSt_data (s : ByteArray) : ofSt s.data.toList = s := by
  apply toList_inj
  rw [ofSt_toList, data_toList]
theorem nams_is (l : List ByteArray) : Nams l (namesOf l) := by
  obtain ⟨c1, c2, _⟩ := compact_sorted (l.map (·.data.toList))
  unfold namesOf
  generalize Lib.compact ((l.map (·.data.toList)).mergeSort fun x y => decide (x ≤ y)) = c at c1 c2 ⊢
  refine ⟨?_, fun x => ?_⟩
  · rw [List.map_map]
    have : (fun b : ByteArray => b.toList) ∘ ofSt = id := funext fun l => ofSt_toList l
    rw [this, List.map_id]
    exact c1
  · rw [List.mem_map]
    constructor
    · rintro ⟨y, hy, rfl⟩
      obtain ⟨z, hz, e⟩ := List.mem_map.1 ((c2 y).1 hy)
      rw [← e, ofSt_data]
      exact hz
    · exact fun hx => ⟨x.data.toList, (c2 _).2 (List.mem_map.2 ⟨x, hx, rfl⟩), ofSt_data x⟩
theorem namesOf_len (l : List ByteArray) : (namesOf l).length ≤ l.length := by
  unfold namesOf
  rw [List.length_map]
  refine Nat.le_trans (compact_len _) ?_
  rw [List.length_mergeSort, List.length_map]
  exact Nat.le_refl _
theorem ownsRow_asd {w w' : World} {B B' B'' : Nat} {e : TypeId} {size n : Nat} {v u : Value} {xs : List Value} {cs : List SC} (h : w.ownsRow B e size v n xs) (hU : OwnU w B' u cs) (ha : Asd u.ownBlock B'' w w') (hne : e ≠ 43) : w'.ownsRow B e size v n xs := by
  refine ⟨h.1, ?_⟩
  rcases h.2 with h | ⟨g, cap, cur, e1, hB, hg, r⟩
  · exact Or.inl h
  · refine Or.inr ⟨g, cap, cur, e1, hB, (ha.k g (lt_heap hg) (fun e2 => ?_)).trans hg, r⟩
    obtain ⟨cur2, h2, _⟩ := hU.pl g e2.symm
    rw [hg] at h2
    injection h2 with h2
    injection h2 with _ h2 _
    exact hne h2
theorem cellS_at {w : World} {g : Nat} {s : ByteArray} {T : TypeId} (h : w.heap[g]? = some (.cells #[.string s] T (0, 0))) (h1 : s.size ≤ 9223372036854775807) : SetAt w (SC.val ⟨false, none, 0, 0, false, some ⟨g, 0, none⟩, 1, 1⟩) (cellS s) :=
  ⟨_, _, rfl, ⟨fun r h => (by cases h), Nat.zero_le _, none, 0, rfl, fun i hi => absurd hi (Nat.not_lt_zero _)⟩, one_str h h1⟩
theorem OwnS.frmN {w : World} {B : Nat} {v : Value} {l : List ByteArray} (h : OwnS w B v l) : ∃ a cap, v = .slice a l.length cap ∧ ∀ b, a = some b → B ≤ b.block := by
  rcases h.2 with ⟨e, h0⟩ | ⟨g, cap, cur, e, hB, _⟩
  · exact ⟨none, 0, by rw [e, h0], fun b e => (by cases e)⟩
  · exact ⟨_, cap, e, fun b e => by cases e; exact hB⟩
theorem NewSt.snoc {m : Nat} {w : World} {cs : List SC} {l : List SetV} {c : SC} {S : SetV} (h : NewSt m w cs l) (hs : SetAt w c.val S) (hu : UpC m c) : NewSt m w (cs ++ [c]) (l ++ [S]) := h.append (NewSt.one hs hu)
theorem OwnS.at_ {w : World} {B g n cap : Nat} {l : List ByteArray} (h : OwnS w B (.slice (some ⟨g, 0, none⟩) n cap) l) (i : Nat) (hi : i < l.length) : w.cell? ⟨g, 0 + i * 1, none⟩ = some (.string (l.getD i ⟨#[]⟩)) := by
  rw [Nat.zero_add, Nat.mul_one]; exact h.cellAt i hi
set_option maxHeartbeats 4000000 in
set_option maxRecDepth 100000 in
theorem stringCells_any (v : Value) (l : List ByteArray) (B : Nat) (w : World) (RS : OwnS w B v l) (hl : l.length ≤ 900) (h8 : ∀ s ∈ l, s.size ≤ 9223372036854775807) (hB : B ≤ w.heap.size) :
    Calls Tryz.prog 41 #[v] w fun r w' => (∃ u cs, r = .returned u ∧ OwnT w' w.heap.size u cs ∧ NewSt B w' cs (strC (namesOf l))) ∧ w.grownBy w' v.ownBlock := by
  have D : w.grownBy w v.ownBlock := grown_refl _ _
  go_enter Tryz.func41, Tryz.ntmps41
  refine wp_seq_k (fun K1 hK1 => ?_)
  refine wp_region_lit ?_
  refine wl_yield (o := ⟨_, _, _, _, _, _⟩) (.slice none 0 0) (yl_assign (by rfl) _ rfl _ rfl) ?_
  simp only [Act.put, lzA, lzB, lzC]
  refine wpList_nil ?_
  refine hK1 _ _ ?_
  clear hK1 K1
  refine wp_seq_k (fun K2 hK2 => ?_)
  refine wp_region_lit ?_
  refine wl_yield (o := ⟨_, _, _, _, _, _⟩) (v) (yl_move (by rfl) _ rfl _ rfl) ?_
  simp only [Act.put, lzA, lzB, lzC]
  refine wt_call (o := ⟨_, _, _, _, _, _⟩) (by rfl) 63 _ _ rfl #[v] rfl (run_call Tryz.func63 (by kernel_rfl) (by kernel_rfl)) ?_
  refine (sortS_any _ l B _ RS (by omega) (Nat.le_trans hB D.size)).mono ?_
  rintro r v1 (⟨rfl, hr, kg⟩)
  · replace D := grown_trans D kg
    replace RS := hr
    clear hr kg
    refine Or.inl ⟨.tuple #[], rfl, ?_⟩
    simp only [Act.put, lzA, lzB, lzC]
    refine wpList_nil ?_
    refine hK2 _ _ ?_
    clear hK2 K2
    refine wp_seq_k (fun K3 hK3 => ?_)
    refine wp_region_lit ?_
    refine wl_yield (o := ⟨_, _, _, _, _, _⟩) (v) (yl_move (by rfl) _ rfl _ rfl) ?_
    simp only [Act.put, lzA, lzB, lzC]
    refine wt_call (o := ⟨_, _, _, _, _, _⟩) (by rfl) 64 _ _ rfl #[v] rfl (run_call Tryz.func64 (by kernel_rfl) (by kernel_rfl)) ?_
    refine (compactS_any _ _ B _ RS (by rw [List.length_mergeSort, List.length_map]; omega) (Nat.le_trans hB D.size)).mono ?_
    rintro r v2 (⟨⟨u, rfl, hr⟩, kg⟩)
    · replace D := grown_trans D kg
      have hN8 : ∀ s ∈ namesOf l, s.size ≤ 9223372036854775807 := fun s hs => h8 s (((nams_is l).mem s).1 hs)
      have hNl := namesOf_len l
      generalize hNN : namesOf l = N at hN8 hNl
      replace RS : OwnS v2 B u N := by rw [← hNN]; exact hr
      clear hr kg
      obtain ⟨p, cN, rfl, hpB⟩ := RS.frmN
      have D1 := D
      have hB1 := Nat.le_trans hB D.size
      clear D
      have D : v2.grownBy v2 none := grown_refl _ _
      refine Or.inl ⟨.slice p N.length cN, rfl, ?_⟩
      simp only [Act.put, lzA, lzB, lzC]
      refine wl_yield (o := ⟨_, _, _, _, _, _⟩) (.slice p N.length cN) (yl_assign (by rfl) _ rfl _ rfl) ?_
      simp only [Act.put, lzA, lzB, lzC]
      refine wpList_nil ?_
      refine hK3 _ _ ?_
      clear hK3 K3
      refine wp_seq_k (fun K4 hK4 => ?_)
      refine wp_region_lit ?_
      refine wl_yield (o := ⟨_, _, _, _, _, _⟩) (.slice p N.length cN) (yl_move (by rfl) _ rfl _ rfl) ?_
      simp only [Act.put, lzA, lzB, lzC]
      refine wl_yield (o := ⟨_, _, _, _, _, _⟩) (.int .i64 (N.length : Nat)) (yt_lenT (by rfl) _ rfl p N.length cN rfl) ?_
      simp only [Act.put, lzA, lzB, lzC]
      refine wl_yield (o := ⟨_, _, _, _, _, _⟩) (.int .i64 (N.length + 1 : Nat)) (yt_addI (by rfl) _ _ _ rfl ((N.length : Nat) : Int) 1 ((N.length + 1 : Nat) : Int) rfl rfl (by omega) (by omega) (by omega)) ?_
      simp only [Act.put, lzA, lzB, lzC]
      refine wl_makeU (o := ⟨_, _, _, _, _, _⟩) (by rfl) _ _ rfl rfl (N.length + 1) rfl (by omega) (fun u0 v3 OU kb => ?_)
      simp only [Act.put, lzA, lzB, lzC]
      replace D := grown_below D kb
      replace RS := RS.on kb
      have NS := newSt_nil B v3
      replace OU := OU.mono (show v2.heap.size ≤ _ from Nat.le_refl _)
      clear kb
      refine wl_yield (o := ⟨_, _, _, _, _, _⟩) (u0) (yl_assign (by rfl) _ rfl _ rfl) ?_
      simp only [Act.put, lzA, lzB, lzC]
      refine wpList_nil ?_
      refine hK4 _ _ ?_
      clear hK4 K4
      refine wp_seq_k (fun K5 hK5 => ?_)
      refine wp_seq_k (fun K6 hK6 => ?_)
      refine wp_region_lit ?_
      refine wl_yield (o := ⟨_, _, _, _, _, _⟩) (.slice p N.length cN) (yl_move (by rfl) _ rfl _ rfl) ?_
      simp only [Act.put, lzA, lzB, lzC]
      refine wl_yield (o := ⟨_, _, _, _, _, _⟩) (.int .i64 (N.length : Nat)) (yt_lenT (by rfl) _ rfl p N.length cN rfl) ?_
      simp only [Act.put, lzA, lzB, lzC]
      refine wl_yield (o := ⟨_, _, _, _, _, _⟩) (.int .i64 0) (yl_move (by rfl) _ rfl _ rfl) ?_
      simp only [Act.put, lzA, lzB, lzC]
      refine wpList_nil ?_
      refine hK6 _ _ ?_
      clear hK6 K6
      refine wp_block ?_
      go_loopw [3, 16] (fun x i wr => ∃ (k : Nat) (cs : List SC), i = .int .i64 ((k : Nat) : Int) ∧ k ≤ N.length ∧ OwnU wr v2.heap.size x cs ∧ cs.length = k ∧ NewSt B wr cs ((N.take k).map cellS) ∧ OwnS wr B (.slice p N.length cN) N ∧ v2.grownBy wr none) (fun _ i _ => N.length - (intOf i).toNat)
      case atStart => exact ⟨0, [], rfl, Nat.zero_le _, OU, rfl, NS, RS, D⟩
      case round =>
        clear D RS OU NS
        obtain ⟨k, cs, rfl, hk, OU, hcl, NS, RS, D⟩ := hrel
        by_cases hlt : k < N.length
        · have hg : ∃ gN, p = some ⟨gN, 0, none⟩ := by
            rcases RS.2 with ⟨_, h0⟩ | ⟨g, _, _, e, _⟩
            · omega
            · injection e with e _ _; exact ⟨g, e⟩
          obtain ⟨gN, rfl⟩ := hg
          have C0 := RS.at_ k hlt
          refine wp_seq_k (fun K7 hK7 => ?_)
          refine wp_region_lit ?_
          refine wl_yield (o := ⟨_, _, _, _, _, _⟩) (.bool true) (yt_lssI (by rfl) _ _ _ rfl ((k : Nat) : Int) ((N.length : Nat) : Int) true rfl rfl (decide_eq_true (by omega))) ?_
          simp only [Act.put, lzA, lzB, lzC]
          refine wpList_nil ?_
          refine hK7 _ _ ?_
          clear hK7 K7
          refine wp_seq_k (fun K8 hK8 => ?_)
          refine wp_cond_true rfl ?_
          refine wp_skip ?_
          refine hK8 _ _ ?_
          clear hK8 K8
          refine wp_seq_k (fun K9 hK9 => ?_)
          refine wp_block ?_
          refine wp_seq_k (fun K10 hK10 => ?_)
          refine wp_region_lit ?_
          refine wl_yield (o := ⟨_, _, _, _, _, _⟩) (.pointer (some ⟨gN, 0 + k * 1, none⟩)) (yt_atT (by rfl) _ _ rfl gN 0 _ _ k rfl rfl (hlt)) ?_
          simp only [Act.put, lzA, lzB, lzC]
          refine wl_yield (o := ⟨_, _, _, _, _, _⟩) (.string (N.getD k ⟨#[]⟩)) (yt_ldS (by rfl) _ rfl _ _ rfl _ (fun _ h => by subst h; exact C0)) ?_
          simp only [Act.put, lzA, lzB, lzC]
          refine wl_yield (o := ⟨_, _, _, _, _, _⟩) (.string (N.getD k ⟨#[]⟩)) (yl_assign (by rfl) _ rfl _ rfl) ?_
          simp only [Act.put, lzA, lzB, lzC]
          refine wpList_nil ?_
          refine hK10 _ _ ?_
          clear hK10 K10
          refine wp_region_lit ?_
          refine wl_yield (o := ⟨_, _, _, _, _, _⟩) (u3) (yl_move (by rfl) _ rfl _ rfl) ?_
          simp only [Act.put, lzA, lzB, lzC]
          refine wl_yield (o := ⟨_, _, _, _, _, _⟩) (.string (N.getD k ⟨#[]⟩)) (yl_move (by rfl) _ rfl _ rfl) ?_
          simp only [Act.put, lzA, lzB, lzC]
          refine wt_row1S (o := ⟨_, _, _, _, _, _⟩) (by rfl) _ rfl ((N.getD k ⟨#[]⟩)) rfl (fun v4 g4 hg G4 kb => ?_)
          have ge_g4 : v2.heap.size ≤ g4 := Nat.le_trans D.size hg
          clear hg
          replace D := grown_below D kb
          replace OU := OwnU.on OU kb
          replace NS := NS.on kb
          replace RS := RS.on kb
          clear kb
          simp only [Act.put, lzA, lzB, lzC]
          refine wl_yield (o := ⟨_, _, _, _, _, _⟩) (.agg #[.bool false, .slice none 0 0, .bool false, .slice (some ⟨g4, 0, none⟩) 1 1]) (yq_bS3 (by rfl) _ rfl (some ⟨g4, 0, none⟩) 1 1 rfl) ?_
          simp only [Act.put, lzA, lzB, lzC]
          refine wq_row1Q (o := ⟨_, _, _, _, _, _⟩) (by rfl) _ rfl ⟨false, none, 0, 0, false, (some ⟨g4, 0, none⟩), 1, 1⟩ rfl (fun v5 g5 hg G5 kb => ?_)
          have n_g4_g5 : g4 ≠ g5 := by have := lt_heap G4; omega
          have ge_g5 : v2.heap.size ≤ g5 := Nat.le_trans D.size hg
          clear hg
          replace D := grown_below D kb
          replace OU := OwnU.on OU kb
          replace NS := NS.on kb
          replace RS := RS.on kb
          replace G4 := heap_on G4 kb
          clear kb
          replace G5 : v5.heap[g5]? = some (.cells #[.bool false, .slice none 0 0, .bool false, .slice (some ⟨g4, 0, none⟩) 1 1] 43 (0, 0)) := G5
          simp only [Act.put, lzA, lzB, lzC]
          have hS1 : SetAt v5 (SC.val ⟨false, none, 0, 0, false, (some ⟨g4, 0, none⟩), 1, 1⟩) (cellS (N.getD k ⟨#[]⟩)) := cellS_at G4 (hN8 _ (gD_mem hlt))
          have hU1 : UpC B ⟨false, none, 0, 0, false, (some ⟨g4, 0, none⟩), 1, 1⟩ := ⟨fun a e => (by cases e), fun a e => (by cases e; exact Nat.le_trans hB1 ge_g4)⟩
          refine wl_appU (o := ⟨_, _, _, _, _, _⟩) (by rfl) _ _ rfl v2.heap.size u3 cs rfl OU g5 ⟨false, none, 0, 0, false, (some ⟨g4, 0, none⟩), 1, 1⟩ rfl G5 (by omega) D.size (fun v6' v6 OU' ha hw hc => ?_)
          simp only [Act.put, lzA, lzB, lzC]
          replace NS := NS.snoc hS1 hU1
          replace NS : NewSt B v6 _ _ := ⟨⟨NS.at_.1, fun i hi => hc (NS.at_.2 i hi)⟩, NS.up⟩
          replace RS : OwnS v6 B _ N := ownsRow_asd RS OU ha (by decide)
          replace D := grown_none ((below_none D).trans ha.b)
          replace OU := OU'
          clear OU' ha hw hc hS1 hU1 G4 G5
          refine wl_yield (o := ⟨_, _, _, _, _, _⟩) (v6') (yl_assign (by rfl) _ rfl _ rfl) ?_
          simp only [Act.put, lzA, lzB, lzC]
          refine wpList_nil ?_
          refine hK9 _ _ ?_
          clear hK9 K9
          refine wp_region_lit ?_
          refine wl_yield (o := ⟨_, _, _, _, _, _⟩) (.int .i64 (k + 1 : Nat)) (yt_addI (by rfl) _ _ _ rfl ((k : Nat) : Int) 1 ((k + 1 : Nat) : Int) rfl rfl (by omega) (by omega) (by omega)) ?_
          simp only [Act.put, lzA, lzB, lzC]
          refine wl_yield (o := ⟨_, _, _, _, _, _⟩) (.int .i64 (k + 1 : Nat)) (yl_move (by rfl) _ rfl _ rfl) ?_
          simp only [Act.put, lzA, lzB, lzC]
          refine wpList_nil ?_
          show _ ∧ _
          go_roundw
          case rel => exact ⟨k + 1, _, rfl, by omega, OU, by rw [List.length_append, List.length_singleton]; omega, by rw [take_map _ N k ⟨#[]⟩ hlt]; exact NS, RS, D⟩
          case measure => simp [intOf]; omega
        · obtain rfl : k = N.length := by omega
          refine wp_seq_k (fun K7 hK7 => ?_)
          refine wp_region_lit ?_
          refine wl_yield (o := ⟨_, _, _, _, _, _⟩) (.bool false) (yt_lssI (by rfl) _ _ _ rfl ((N.length : Nat) : Int) ((N.length : Nat) : Int) false rfl rfl (decide_eq_false (by omega))) ?_
          simp only [Act.put, lzA, lzB, lzC]
          refine wpList_nil ?_
          refine hK7 _ _ ?_
          clear hK7 K7
          refine wp_seq_k (fun K8 hK8 => ?_)
          refine wp_cond_false rfl ?_
          refine wp_exit ?_
          refine hK5 _ _ ?_
          clear hK8 K8 hK5 K5
          refine wp_seq_k (fun K9 hK9 => ?_)
          refine wp_region_lit ?_
          refine wl_yield (o := ⟨_, _, _, _, _, _⟩) (u3) (yl_move (by rfl) _ rfl _ rfl) ?_
          simp only [Act.put, lzA, lzB, lzC]
          refine wl_yield (o := ⟨_, _, _, _, _, _⟩) (.slice p N.length cN) (yl_move (by rfl) _ rfl _ rfl) ?_
          simp only [Act.put, lzA, lzB, lzC]
          refine wl_yield (o := ⟨_, _, _, _, _, _⟩) (.agg #[.bool false, .slice none 0 0, .bool true, .slice p N.length cN]) (yq_bS23 (by rfl) _ _ rfl true p N.length cN rfl rfl) ?_
          simp only [Act.put, lzA, lzB, lzC]
          refine wq_row1Q (o := ⟨_, _, _, _, _, _⟩) (by rfl) _ rfl ⟨false, none, 0, 0, true, p, N.length, cN⟩ rfl (fun v4 g4 hg G4 kb => ?_)
          have ge_g4 : v2.heap.size ≤ g4 := Nat.le_trans D.size hg
          clear hg
          replace D := grown_below D kb
          replace OU := OwnU.on OU kb
          replace NS := NS.on kb
          replace RS := RS.on kb
          clear kb
          replace G4 : v4.heap[g4]? = some (.cells #[.bool false, .slice none 0 0, .bool true, .slice p N.length cN] 43 (0, 0)) := G4
          simp only [Act.put, lzA, lzB, lzC]
          have hS1 : SetAt v4 (SC.val ⟨false, none, 0, 0, true, p, N.length, cN⟩) ⟨false, [], true, N⟩ := ⟨_, _, rfl, ⟨fun r h => (by cases h), Nat.zero_le _, none, 0, rfl, fun i hi => absurd hi (Nat.not_lt_zero _)⟩, RS.strs hN8 (by omega)⟩
          have hU1 : UpC B ⟨false, none, 0, 0, true, p, N.length, cN⟩ := ⟨fun a e => (by cases e), hpB⟩
          refine wl_appU (o := ⟨_, _, _, _, _, _⟩) (by rfl) _ _ rfl v2.heap.size u3 cs rfl OU g4 ⟨false, none, 0, 0, true, p, N.length, cN⟩ rfl G4 (by omega) D.size (fun v5' v5 OU' ha hw hc => ?_)
          simp only [Act.put, lzA, lzB, lzC]
          replace NS := NS.snoc hS1 hU1
          replace NS : NewSt B v5 _ _ := ⟨⟨NS.at_.1, fun i hi => hc (NS.at_.2 i hi)⟩, NS.up⟩
          replace RS : OwnS v5 B _ N := ownsRow_asd RS OU ha (by decide)
          replace D := grown_none ((below_none D).trans ha.b)
          replace OU := OU'
          clear OU' ha hw hc hS1 hU1 G4
          refine wl_yield (o := ⟨_, _, _, _, _, _⟩) (v5') (yl_assign (by rfl) _ rfl _ rfl) ?_
          simp only [Act.put, lzA, lzB, lzC]
          refine wpList_nil ?_
          refine hK9 _ _ ?_
          clear hK9 K9
          refine wp_ret ?_
          try simp only [Exit.inBlock, Exit.then]
          rw [List.take_length] at NS
          go_ret
          exact ⟨⟨_, _, rfl, OU.own.mono D1.size, by rw [hNN]; exact NS⟩, grown_trans D1 (grown_below (grown_refl _ _) (below_none D))⟩
end Go.Proofs.YtbaijjclofekcaaGreatDoor
namespace Go.Proofs.YtbaijjclofekcaaGreatDoor
open Go.RowKit
theorem allR_take (l : List SetV) (k : Nat) (h : k < l.length) : allR (l.take (k + 1)) = allR (l.take k) ++ (if rightSet (l.getD k noSet) = true then (l.getD k noSet).ints else []) := by
  unfold allR
  rw [List.take_succ_eq_append_getElem h, List.filter_append, List.flatMap_append, List.getD_eq_getElem?_getD, List.getElem?_eq_getElem h, Option.getD_some]
  congr 1
  by_cases e : rightSet l[k] = true
  · rw [if_pos e, List.filter_cons_of_pos e]; simp
  · rw [if_neg e, List.filter_cons_of_neg e]; simp
theorem allS_take (l : List SetV) (k : Nat) (h : k < l.length) : allS (l.take (k + 1)) = allS (l.take k) ++ (if rightSet (l.getD k noSet) = true then (l.getD k noSet).strs else []) := by
  unfold allS
  rw [List.take_succ_eq_append_getElem h, List.filter_append, List.flatMap_append, List.getD_eq_getElem?_getD, List.getElem?_eq_getElem h, Option.getD_some]
  congr 1
  by_cases e : rightSet l[k] = true
  · rw [if_pos e, List.filter_cons_of_pos e]; simp
  · rw [if_neg e, List.filter_cons_of_neg e]; simp
theorem allR_len (l : List SetV) (c : Nat) (h : ∀ S ∈ l, S.ints.length ≤ c) : (allR l).length ≤ l.length * c := by
  unfold allR
  exact Nat.le_trans (flat_len _ c _ (fun S hS => h S (List.mem_filter.1 hS).1)) (Nat.mul_le_mul_right c (List.length_filter_le _ _))
theorem allS_len (l : List SetV) (c : Nat) (h : ∀ S ∈ l, S.strs.length ≤ c) : (allS l).length ≤ l.length * c := by
  unfold allS
  exact Nat.le_trans (flat_len _ c _ (fun S hS => h S (List.mem_filter.1 hS).1)) (Nat.mul_le_mul_right c (List.length_filter_le _ _))
structure FewC (l : List SetV) : Prop where
  r : ∀ k, (allR (l.take k)).length ≤ 30000
  s : ∀ k, (allS (l.take k)).length ≤ 900
theorem fewC_of {l : List SetV} (h1 : ∀ S ∈ l, S.ints.length ≤ 60 ∧ S.strs.length ≤ 60) (h2 : l.length ≤ 15) : FewC l := by
  refine ⟨fun k => ?_, fun k => ?_⟩
  · have a := allR_len (l.take k) 60 (fun S hS => (h1 S (List.mem_of_mem_take hS)).1)
    have b : (l.take k).length ≤ 15 := Nat.le_trans (List.length_take_le' _ _) h2
    have := Nat.mul_le_mul_right 60 b; omega
  · have a := allS_len (l.take k) 60 (fun S hS => (h1 S (List.mem_of_mem_take hS)).2)
    have b : (l.take k).length ≤ 15 := Nat.le_trans (List.length_take_le' _ _) h2
    have := Nat.mul_le_mul_right 60 b; omega
def InL (l : List SetV) : Prop := ∀ S ∈ l, inI64 S.ints ∧ ∀ s ∈ S.strs, s.size ≤ 9223372036854775807
theorem SetsAt.inL {w : World} {v : Value} {l : List SetV} (h : SetsAt w v l) : InL l := by
  intro S hS
  obtain ⟨i, hi, e⟩ := mem_getD noSet hS
  obtain ⟨_, a, cap, rfl, h⟩ := h
  obtain ⟨_, _, _, _, _, _, _, _, _, _, hI, hT⟩ := h i hi
  rw [e] at hI hT
  exact ⟨hI.1, hT.1⟩
def cutL (l : List SetV) : List SetV := cellL (sortedN (begL (allR l))) (namesOf (allS l))
theorem cut_of {l : List SetV} (h : InL l) : CutOf l (sortedN (begL (allR l))) (namesOf (allS l)) := ⟨begs_is _, nams_is _, fun r hr => by
  obtain ⟨S, hS, _, hm⟩ := mem_allR.1 hr
  exact (h S hS).1 r hm⟩
def CutAt (m : Nat) (w : World) (v : Value) (l : List SetV) : Prop := ∃ cs : List SC, w.ownsRow m 43 4 v cs.length (scCells cs) ∧ cs.length ≤ 100000 ∧ NewSt m w cs (cutL l)
theorem CutAt.sets {m : Nat} {w w' : World} {v : Value} {l : List SetV} (h : CutAt m w v l) (hk : Kept m w w') : SetsAt w' v (cutL l) := by
  obtain ⟨cs, h1, h2, h3⟩ := h
  exact h3.sets h1 (Nat.le_refl _) (by omega) hk
theorem CutAt.on {m : Nat} {w w' : World} {v : Value} {l : List SetV} (h : CutAt m w v l) (hb : Below w.heap.size w w') : CutAt m w' v l := by
  obtain ⟨cs, h1, h2, h3⟩ := h
  exact ⟨cs, ownsRow_on h1 hb, h2, h3.on hb⟩
theorem OwnR.frmN {w : World} {B : Nat} {v : Value} {l : List Rg} (h : OwnR w B v l) : ∃ a cap, v = .slice a l.length cap := by
  rcases h.2 with ⟨e, h0⟩ | ⟨g, cap, cur, e, hB, _⟩
  · exact ⟨none, 0, by rw [e, h0]⟩
  · exact ⟨_, cap, e⟩
theorem OwnT.frm {w : World} {B : Nat} {v : Value} {cs : List SC} (h : OwnT w B v cs) : ∃ a cap, v = .slice a cs.length cap := by
  rcases h.form with ⟨rfl, rfl⟩ | ⟨g, cap, cur, rfl, _⟩
  · exact ⟨none, 0, rfl⟩
  · exact ⟨_, cap, rfl⟩
theorem ownT_one {w : World} {g B : Nat} {c : SC} (h : StIn w g c) (hB : B ≤ g) : OwnT w B (.slice (some ⟨g, 0, none⟩) 1 1) [c] :=
  ⟨by rw [scCells_len], Or.inr ⟨g, 1, _, rfl, hB, h, Nat.le_refl _, by unfold maxLen; omega, rfl, rfl⟩⟩
set_option maxHeartbeats 4000000 in
set_option maxRecDepth 100000 in
theorem cut_any (v : Value) (l : List SetV) (w : World) (hv : SetsAt w v l) (hf : FewC l) :
    Calls Tryz.prog 20 #[v] w fun r w' => (∃ u, r = .returned u ∧ CutAt w.heap.size w' u l) ∧ Below w.heap.size w w' := by
  obtain ⟨a, cap, rfl, -⟩ := hv.2
  have hl64 := hv.1
  have D : w.grownBy w none := grown_refl _ _
  go_enter Tryz.func20, Tryz.ntmps20
  refine wp_seq_k (fun K1 hK1 => ?_)
  refine wp_region_lit ?_
  refine wl_yield (o := ⟨_, _, _, _, _, _⟩) (.slice none 0 0) (yl_assign (by rfl) _ rfl _ rfl) ?_
  simp only [Act.put, lzA, lzB, lzC]
  refine wpList_nil ?_
  refine hK1 _ _ ?_
  clear hK1 K1
  refine wp_seq_k (fun K2 hK2 => ?_)
  refine wp_region_lit ?_
  refine wl_yield (o := ⟨_, _, _, _, _, _⟩) (.slice none 0 0) (yl_assign (by rfl) _ rfl _ rfl) ?_
  simp only [Act.put, lzA, lzB, lzC]
  refine wpList_nil ?_
  refine hK2 _ _ ?_
  clear hK2 K2
  refine wp_seq_k (fun K3 hK3 => ?_)
  refine wp_region_lit ?_
  refine wl_yield (o := ⟨_, _, _, _, _, _⟩) (.slice none 0 0) (yl_assign (by rfl) _ rfl _ rfl) ?_
  simp only [Act.put, lzA, lzB, lzC]
  refine wpList_nil ?_
  refine hK3 _ _ ?_
  clear hK3 K3
  refine wp_seq_k (fun K4 hK4 => ?_)
  refine wp_seq_k (fun K5 hK5 => ?_)
  refine wp_region_lit ?_
  refine wl_yield (o := ⟨_, _, _, _, _, _⟩) (.slice a l.length cap) (yl_move (by rfl) _ rfl _ rfl) ?_
  simp only [Act.put, lzA, lzB, lzC]
  refine wl_yield (o := ⟨_, _, _, _, _, _⟩) (.int .i64 (l.length : Nat)) (yt_lenQ (by rfl) _ rfl a l.length cap rfl) ?_
  simp only [Act.put, lzA, lzB, lzC]
  refine wl_yield (o := ⟨_, _, _, _, _, _⟩) (.int .i64 0) (yl_move (by rfl) _ rfl _ rfl) ?_
  simp only [Act.put, lzA, lzB, lzC]
  refine wpList_nil ?_
  refine hK5 _ _ ?_
  clear hK5 K5
  refine wp_block ?_
  go_loopw [3, 4, 9] (fun x y i wr => ∃ (k : Nat), i = .int .i64 ((k : Nat) : Int) ∧ k ≤ l.length ∧ OwnR wr w.heap.size x (allR (l.take k)) ∧ OwnS wr w.heap.size y (allS (l.take k)) ∧ w.grownBy wr none) (fun _ _ i _ => l.length - (intOf i).toNat)
  case atStart => exact ⟨0, rfl, Nat.zero_le _, ⟨rfl, Or.inl ⟨rfl, rfl⟩⟩, ownS_none _ _, D⟩
  case round =>
    clear D
    obtain ⟨k, rfl, hk, RR, RS, D⟩ := hrel
    by_cases hlt : k < l.length
    · obtain ⟨g1, o1, vi, vs, rfl, hg1, C0, C1, C2, C3, hI, hT⟩ := hv.at.2 k hlt
      have hfr := hf.r (k + 1)
      have hfs := hf.s (k + 1)
      rw [allR_take l k hlt] at hfr
      rw [allS_take l k hlt] at hfs
      generalize hS : l.getD k noSet = S at C0 C2 hI hT hfr hfs
      obtain ⟨ai, ci, rfl⟩ := hI.form
      obtain ⟨az, cz0, rfl⟩ := hT.form
      have cellD := fun (j : Nat) => (below_none D).cell (p := ⟨g1, j, none⟩) hg1
      refine wp_seq_k (fun K6 hK6 => ?_)
      refine wp_region_lit ?_
      refine wl_yield (o := ⟨_, _, _, _, _, _⟩) (.bool true) (yt_lssI (by rfl) _ _ _ rfl ((k : Nat) : Int) ((l.length : Nat) : Int) true rfl rfl (decide_eq_true (by omega))) ?_
      simp only [Act.put, lzA, lzB, lzC]
      refine wpList_nil ?_
      refine hK6 _ _ ?_
      clear hK6 K6
      refine wp_seq_k (fun K7 hK7 => ?_)
      refine wp_cond_true rfl ?_
      refine wp_skip ?_
      refine hK7 _ _ ?_
      clear hK7 K7
      refine wp_seq_k (fun K8 hK8 => ?_)
      refine wp_block ?_
      refine wp_seq_k (fun K9 hK9 => ?_)
      refine wp_region_lit ?_
      refine wl_yield (o := ⟨_, _, _, _, _, _⟩) (.pointer (some ⟨g1, o1 + k * 4, none⟩)) (yt_atQ (by rfl) _ _ rfl g1 o1 _ _ k rfl rfl (hlt)) ?_
      simp only [Act.put, lzA, lzB, lzC]
      refine wl_yield (o := ⟨_, _, _, _, _, _⟩) (.agg #[.bool (S.absent), .slice ai S.ints.length ci, .bool (S.co), .slice az S.strs.length cz0]) (yl_set (by rfl) _ rfl _ _ rfl _ _ _ _ (fun _ h => by subst h; exact ⟨(cellD _).trans C0, (cellD _).trans C1, (cellD _).trans C2, (cellD _).trans C3⟩)) ?_
      simp only [Act.put, lzA, lzB, lzC]
      refine wt_allocSt (o := ⟨_, _, _, _, _, _⟩) (by rfl) rfl (fun v1 g1 hg G1 kb => ?_)
      simp only [Act.put, lzA, lzB, lzC]
      have ge_g1 : w.heap.size ≤ g1 := Nat.le_trans D.size hg
      clear hg
      replace D := grown_below D kb
      replace RR := ownsRow_on RR kb
      replace RS := ownsRow_on RS kb
      clear kb
      replace G1 : v1.heap[g1]? = some (.cells #[.bool false, .slice none 0 0, .bool false, .slice none 0 0] 43 (0, 0)) := G1
      refine wt_putSt (o := ⟨_, _, _, _, _, _⟩) rfl _ _ rfl _ rfl (⟨S.absent, ai, S.ints.length, ci, S.co, az, S.strs.length, cz0⟩) rfl G1 rfl (fun v2 X kg => ?_)
      simp only [Act.put, lzA, lzB, lzC]
      replace D := gr_new D ge_g1 kg
      replace RR := row_gr_heap RR kg G1 (by decide)
      replace RS := row_gr_heap RS kg G1 (by decide)
      clear kg
      replace G1 : v2.heap[g1]? = some (.cells #[.bool (S.absent), .slice ai S.ints.length ci, .bool (S.co), .slice az S.strs.length cz0] 43 (0, 0)) := X
      clear X
      refine wpList_nil ?_
      refine hK9 _ _ ?_
      clear hK9 K9
      refine wp_seq_k (fun K10 hK10 => ?_)
      refine wp_region_lit ?_
      refine wl_yield (o := ⟨_, _, _, _, _, _⟩) (.agg #[.bool (S.absent), .slice ai S.ints.length ci, .bool (S.co), .slice az S.strs.length cz0]) (yl_set (by rfl) _ rfl _ 0 rfl _ _ _ _ (fun _ h => by subst h; exact ⟨cell_heap G1 0, cell_heap G1 1, cell_heap G1 2, cell_heap G1 3⟩)) ?_
      simp only [Act.put, lzA, lzB, lzC]
      cases hr : rightSet S
      · refine wt_call (o := ⟨_, _, _, _, _, _⟩) (by rfl) 33 _ _ rfl #[.agg #[.bool (S.absent), .slice ai S.ints.length ci, .bool (S.co), .slice az S.strs.length cz0]] rfl (run_call Tryz.func33 (by kernel_rfl) (by kernel_rfl)) ?_
        refine (setRight_any (SC.val ⟨S.absent, ai, S.ints.length, ci, S.co, az, S.strs.length, cz0⟩) S _ ⟨_, _, rfl, hI.on (below_none D), hT.on (below_none D)⟩).mono ?_
        rintro r v3 (⟨rfl, kb⟩)
        · replace D := grown_below D kb
          replace RR := ownsRow_on RR kb
          replace RS := ownsRow_on RS kb
          replace G1 := heap_on G1 kb
          clear kb
          refine Or.inl ⟨.bool false, ret_bool hr, ?_⟩
          simp only [Act.put, lzA, lzB, lzC]
          refine wpList_nil ?_
          refine hK10 _ _ ?_
          clear hK10 K10
          refine wp_cond_false rfl ?_
          refine wp_skip ?_
          refine hK8 _ _ ?_
          clear hK8 K8
          refine wp_region_lit ?_
          refine wl_yield (o := ⟨_, _, _, _, _, _⟩) (.int .i64 (k + 1 : Nat)) (yt_addI (by rfl) _ _ _ rfl ((k : Nat) : Int) 1 ((k + 1 : Nat) : Int) rfl rfl (by omega) (by omega) (by omega)) ?_
          simp only [Act.put, lzA, lzB, lzC]
          refine wl_yield (o := ⟨_, _, _, _, _, _⟩) (.int .i64 (k + 1 : Nat)) (yl_move (by rfl) _ rfl _ rfl) ?_
          simp only [Act.put, lzA, lzB, lzC]
          refine wpList_nil ?_
          show _ ∧ _
          go_roundw
          case rel => exact ⟨k + 1, rfl, by omega, by rw [allR_take l k hlt, hS, if_neg (by rw [hr]; decide), List.append_nil]; exact RR, by rw [allS_take l k hlt, hS, if_neg (by rw [hr]; decide), List.append_nil]; exact RS, D⟩
          case measure => simp [intOf]; omega
      · refine wt_call (o := ⟨_, _, _, _, _, _⟩) (by rfl) 33 _ _ rfl #[.agg #[.bool (S.absent), .slice ai S.ints.length ci, .bool (S.co), .slice az S.strs.length cz0]] rfl (run_call Tryz.func33 (by kernel_rfl) (by kernel_rfl)) ?_
        refine (setRight_any (SC.val ⟨S.absent, ai, S.ints.length, ci, S.co, az, S.strs.length, cz0⟩) S _ ⟨_, _, rfl, hI.on (below_none D), hT.on (below_none D)⟩).mono ?_
        rintro r v3 (⟨rfl, kb⟩)
        · replace D := grown_below D kb
          replace RR := ownsRow_on RR kb
          replace RS := ownsRow_on RS kb
          replace G1 := heap_on G1 kb
          clear kb
          refine Or.inl ⟨.bool true, ret_bool hr, ?_⟩
          simp only [Act.put, lzA, lzB, lzC]
          refine wpList_nil ?_
          refine hK10 _ _ ?_
          clear hK10 K10
          refine wp_cond_true rfl ?_
          refine wp_seq_k (fun K11 hK11 => ?_)
          refine wp_region_lit ?_
          refine wl_yield (o := ⟨_, _, _, _, _, _⟩) (u3) (yl_move (by rfl) _ rfl _ rfl) ?_
          simp only [Act.put, lzA, lzB, lzC]
          refine wl_yield (o := ⟨_, _, _, _, _, _⟩) (.pointer (some ⟨g1, 1, none⟩)) (yt_fSt1 (by rfl) _ rfl g1 0 rfl) ?_
          simp only [Act.put, lzA, lzB, lzC]
          refine wl_yield (o := ⟨_, _, _, _, _, _⟩) (.slice ai S.ints.length ci) (yt_ldLr (by rfl) _ rfl _ _ rfl ai S.ints.length ci (fun _ h => by subst h; exact cell_heap G1 1)) ?_
          simp only [Act.put, lzA, lzB, lzC]
          refine wq_appRowR (o := ⟨_, _, _, _, _, _⟩) (by rfl) _ _ rfl w.heap.size _ _ (allR (l.take k)) S.ints rfl RR rfl (hI.on (below_none D)) (by rw [if_pos hr, List.length_append] at hfr; omega) D.size (fun v4' v4 hrow kg => ?_)
          simp only [Act.put, lzA, lzB, lzC]
          replace G1 := heap_gro G1 kg (own_ne RR G1 (by decide))
          replace RS := row_row RS RR kg (by decide)
          replace D := gr_own D (fun g hg => (World.ownsRow.lt RR g hg).1) kg
          replace RR := hrow
          clear hrow kg
          refine wl_yield (o := ⟨_, _, _, _, _, _⟩) (v4') (yl_assign (by rfl) _ rfl _ rfl) ?_
          simp only [Act.put, lzA, lzB, lzC]
          refine wpList_nil ?_
          refine hK11 _ _ ?_
          clear hK11 K11
          refine wp_region_lit ?_
          refine wl_yield (o := ⟨_, _, _, _, _, _⟩) (u4) (yl_move (by rfl) _ rfl _ rfl) ?_
          simp only [Act.put, lzA, lzB, lzC]
          refine wl_yield (o := ⟨_, _, _, _, _, _⟩) (.pointer (some ⟨g1, 3, none⟩)) (yt_fSt3 (by rfl) _ rfl g1 0 rfl) ?_
          simp only [Act.put, lzA, lzB, lzC]
          refine wl_yield (o := ⟨_, _, _, _, _, _⟩) (.slice az S.strs.length cz0) (yt_ldLs (by rfl) _ rfl _ _ rfl az S.strs.length cz0 (fun _ h => by subst h; exact cell_heap G1 3)) ?_
          simp only [Act.put, lzA, lzB, lzC]
          refine wq_appRowS (o := ⟨_, _, _, _, _, _⟩) (by rfl) _ _ rfl w.heap.size _ _ (allS (l.take k)) S.strs rfl RS rfl (hT.on (below_none D)) (by rw [if_pos hr, List.length_append] at hfs; omega) D.size (fun v5' v5 hrow kg => ?_)
          simp only [Act.put, lzA, lzB, lzC]
          replace G1 := heap_gro G1 kg (own_ne RS G1 (by decide))
          replace RR := row_row RR RS kg (by decide)
          replace D := gr_own D (fun g hg => (World.ownsRow.lt RS g hg).1) kg
          replace RS := hrow
          clear hrow kg
          refine wl_yield (o := ⟨_, _, _, _, _, _⟩) (v5') (yl_assign (by rfl) _ rfl _ rfl) ?_
          simp only [Act.put, lzA, lzB, lzC]
          refine wpList_nil ?_
          refine hK8 _ _ ?_
          clear hK8 K8
          refine wp_region_lit ?_
          refine wl_yield (o := ⟨_, _, _, _, _, _⟩) (.int .i64 (k + 1 : Nat)) (yt_addI (by rfl) _ _ _ rfl ((k : Nat) : Int) 1 ((k + 1 : Nat) : Int) rfl rfl (by omega) (by omega) (by omega)) ?_
          simp only [Act.put, lzA, lzB, lzC]
          refine wl_yield (o := ⟨_, _, _, _, _, _⟩) (.int .i64 (k + 1 : Nat)) (yl_move (by rfl) _ rfl _ rfl) ?_
          simp only [Act.put, lzA, lzB, lzC]
          refine wpList_nil ?_
          show _ ∧ _
          go_roundw
          case rel => exact ⟨k + 1, rfl, by omega, by rw [allR_take l k hlt, hS, if_pos hr]; exact RR, by rw [allS_take l k hlt, hS, if_pos hr]; exact RS, D⟩
          case measure => simp [intOf]; omega
    · obtain rfl : k = l.length := by omega
      refine wp_seq_k (fun K6 hK6 => ?_)
      refine wp_region_lit ?_
      refine wl_yield (o := ⟨_, _, _, _, _, _⟩) (.bool false) (yt_lssI (by rfl) _ _ _ rfl ((l.length : Nat) : Int) ((l.length : Nat) : Int) false rfl rfl (decide_eq_false (by omega))) ?_
      simp only [Act.put, lzA, lzB, lzC]
      refine wpList_nil ?_
      refine hK6 _ _ ?_
      clear hK6 K6
      refine wp_seq_k (fun K7 hK7 => ?_)
      refine wp_cond_false rfl ?_
      refine wp_exit ?_
      refine hK4 _ _ ?_
      clear hK7 K7 hK4 K4
      refine wp_seq_k (fun K8 hK8 => ?_)
      refine wp_region_lit ?_
      refine wl_yield (o := ⟨_, _, _, _, _, _⟩) (.agg #[.bool true, .slice none 0 0, .bool false, .slice none 0 0]) (yq_bS0 (by rfl) _ rfl true rfl) ?_
      simp only [Act.put, lzA, lzB, lzC]
      refine wq_row1Q (o := ⟨_, _, _, _, _, _⟩) (by rfl) _ rfl ⟨true, none, 0, 0, false, none, 0, 0⟩ rfl (fun v1 g1 hg G1 kb => ?_)
      have ge_g1 : w.heap.size ≤ g1 := Nat.le_trans D.size hg
      clear hg
      replace D := grown_below D kb
      replace RR := ownsRow_on RR kb
      replace RS := ownsRow_on RS kb
      clear kb
      replace G1 : v1.heap[g1]? = some (.cells #[.bool true, .slice none 0 0, .bool false, .slice none 0 0] 43 (0, 0)) := G1
      simp only [Act.put, lzA, lzB, lzC]
      refine wl_yield (o := ⟨_, _, _, _, _, _⟩) (u3) (yl_move (by rfl) _ rfl _ rfl) ?_
      simp only [Act.put, lzA, lzB, lzC]
      rw [List.take_length] at RR RS
      have hfr := hf.r l.length
      have hfs := hf.s l.length
      rw [List.take_length] at hfr hfs
      have hil := hv.inL
      have hin : inI64 (allR l) := (cut_of hil).i
      have hin8 : ∀ s ∈ allS l, s.size ≤ 9223372036854775807 := fun s hs => by
        obtain ⟨S, hS, _, hm⟩ := mem_allS.1 hs
        exact (hil S hS).2 s hm
      have hlt1 := fun g hg => (World.ownsRow.lt RS g hg).2
      have D0 := D
      refine wt_call (o := ⟨_, _, _, _, _, _⟩) (by rfl) 40 _ _ rfl #[u3] rfl (run_call Tryz.func40 (by kernel_rfl) (by kernel_rfl)) ?_
      refine (numberCells_any _ (allR l) _ (OwnR.rngs (B := w.heap.size) RR hin (by omega)) (by omega)).mono ?_
      rintro r v2 (⟨⟨u1, c1, rfl, o1, n1⟩, kb⟩)
      · replace D := grown_below D kb
        replace RS := ownsRow_on RS kb
        replace G1 := heap_on G1 kb
        clear kb
        have hsz1 := World.ownsRow.lt RS
        obtain ⟨pn, cn, rfl⟩ := o1.frm
        have mlt := D0.size
        refine Or.inl ⟨.slice pn c1.length cn, rfl, ?_⟩
        simp only [Act.put, lzA, lzB, lzC]
        refine wl_yield (o := ⟨_, _, _, _, _, _⟩) (u4) (yl_move (by rfl) _ rfl _ rfl) ?_
        simp only [Act.put, lzA, lzB, lzC]
        refine wt_call (o := ⟨_, _, _, _, _, _⟩) (by rfl) 41 _ _ rfl #[u4] rfl (run_call Tryz.func41 (by kernel_rfl) (by kernel_rfl)) ?_
        refine (stringCells_any _ (allS l) w.heap.size _ RS (by omega) hin8 D.size).mono ?_
        rintro r v3 (⟨⟨u2, c2, rfl, o2, n2⟩, kg⟩)
        · have kk1 : Kept v1.heap.size v2 v3 := ⟨kg.size, fun i hm hi => kg.block i hi (fun e => by have := (hlt1 i e.symm); omega)⟩
          replace n1 := n1.kept kk1
          replace o1 := ownsRow_kept o1 kk1
          replace G1 := heap_gro G1 kg (own_ne RS G1 (by decide))
          replace D := gr_own D (fun g hg => (World.ownsRow.lt RS g hg).1) kg
          obtain ⟨pz, cz, rfl⟩ := o2.frm
          replace n2 := n2
          clear kg kk1
          refine Or.inl ⟨.slice pz c2.length cz, rfl, ?_⟩
          simp only [Act.put, lzA, lzB, lzC]
          have l1 : c1.length ≤ 60001 := by rw [n1.at_.1, numC_len]; have a1 := sortedN_len (begL (allR l)); have a2 := begL_len (allR l) (allR l).length; rw [List.take_length] at a2; omega
          have l2 : c2.length ≤ 901 := by rw [n2.at_.1, strC_len]; have := namesOf_len (allS l); omega
          refine wl_rows3 (o := ⟨_, _, _, _, _, _⟩) (by rfl) _ _ _ rfl rfl rfl rfl (fun v4 g4 HR kb => ?_)
          simp only [Act.put, lzA, lzB, lzC]
          replace D := grown_below D kb
          have D5 := D.size
          replace n1 := n1.on kb
          replace n2 := n2.on kb
          replace o1 := ownsRow_on o1 kb
          replace o2 := ownsRow_on o2 kb
          replace G1 := heap_on G1 kb
          clear kb
          refine wt_call (o := ⟨_, _, _, _, _, _⟩) (by rfl) 39 _ _ rfl #[.slice (some ⟨g4, 0, none⟩) 3 3] rfl (run_call Tryz.func39 (by kernel_rfl) (by kernel_rfl)) ?_
          refine (concatT_any g4 _ _ _ [⟨true, none, 0, 0, false, none, 0, 0⟩] c1 c2 _ HR (OwnT.row (ownT_one (c := ⟨true, none, 0, 0, false, none, 0, 0⟩) G1 (Nat.le_refl _)) (by simp)) (OwnT.row o1 (by omega)) (OwnT.row o2 (by omega)) (OwnT.nilOkQ (ownT_one (c := ⟨true, none, 0, 0, false, none, 0, 0⟩) G1 (Nat.le_refl _))) (OwnT.nilOkQ o1) (OwnT.nilOkQ o2) (by simp; omega)).mono ?_
          rintro r v5 (⟨⟨u3, rfl, o3⟩, kb⟩)
          · replace D := grown_below D kb
            replace n1 := n1.on kb
            replace n2 := n2.on kb
            clear kb
            refine Or.inl ⟨u3, rfl, ?_⟩
            simp only [Act.put, lzA, lzB, lzC]
            refine wl_yield (o := ⟨_, _, _, _, _, _⟩) (u3) (yl_assign (by rfl) _ rfl _ rfl) ?_
            simp only [Act.put, lzA, lzB, lzC]
            refine wpList_nil ?_
            refine hK8 _ _ ?_
            clear hK8 K8
            refine wp_ret ?_
            try simp only [Exit.inBlock, Exit.then]
            go_ret
            exact ⟨⟨u3, rfl, _, o3.mono D5, by simp; omega, (NewSt.append (NewSt.append (NewSt.one (noSet_sc _ true false) (upC_zero _ _ _)) (n1.mono D0.size)) n2)⟩, below_none D⟩
end Go.Proofs.YtbaijjclofekcaaGreatDoor
namespace Go.Proofs.YtbaijjclofekcaaGreatDoor
theorem r_disable (w : World) : (callFunc 132 #[]).run Tryz.prog w = .ok (.value (.tuple #[])) w := run_call_mark0 Tryz.func132 (by kernel_rfl) (by kernel_rfl) (by kernel_rfl) .disable (by kernel_rfl) w
theorem r_enable (w : World) : (callFunc 134 #[]).run Tryz.prog w = .ok (.value (.tuple #[])) w := run_call_mark0 Tryz.func134 (by kernel_rfl) (by kernel_rfl) (by kernel_rfl) .enable (by kernel_rfl) w
theorem r_acquire (a : Addr) (w : World) : (callFunc 135 #[.pointer (some a)]).run Tryz.prog w = .ok (.value (.tuple #[])) w := run_call_marked Tryz.func135 (by kernel_rfl) (by kernel_rfl) (by kernel_rfl) .acquire (by kernel_rfl) a w
theorem r_releaseMerge (a : Addr) (w : World) : (callFunc 137 #[.pointer (some a)]).run Tryz.prog w = .ok (.value (.tuple #[])) w := run_call_marked Tryz.func137 (by kernel_rfl) (by kernel_rfl) (by kernel_rfl) .releaseMerge (by kernel_rfl) a w
set_option maxRecDepth 100000 in
theorem store_deferred (a : Addr) (x : Value) (u : FrameMode) (w : World) (hc : w.cell? a = some x) (hz : w.frozen? a = false) :
    CallsD Tryz.prog 85 #[.pointer (some a), .bool true] u w fun e u' w' => u' = u ∧ (e = .returned (.tuple #[]) ∧ w' = w.drew.setCell a (.int .u32 1)) := by
  have hc' : w.drew.cell? a = some x := by go_simp
  have hz' : w.drew.frozen? a = false := by go_simp
  have hst := run_call_store (P := Tryz.prog) Tryz.func108 (by kernel_rfl) (by kernel_rfl) (by kernel_rfl) (by kernel_rfl) (k := .u32) (y := 1) hc' hz'
  go_enter_d Tryz.func85, Tryz.ntmps85
  go_wp2
  go_region_calls
  all_goals (go_end0; exact ⟨rfl, rfl⟩)
set_option maxRecDepth 100000 in
set_option maxHeartbeats 800000 in
theorem unlock_deferred (a : Addr) (u : FrameMode) (w : World) (hc : w.cell? a = some (.int .i32 1)) (hz : w.frozen? a = false) :
    CallsD Tryz.prog 84 #[.pointer (some a)] u w fun e u' w' => u' = u ∧ (e = .returned (.tuple #[]) ∧ w' = w.setCell a (.int .i32 0)) := by
  have hd := r_disable
  have he := r_enable
  have hr := r_releaseMerge
  have hadd := run_call_add (P := Tryz.prog) Tryz.func138 (by kernel_rfl) (by kernel_rfl) (by kernel_rfl) .i32 (by kernel_rfl) (y := -1) (s := 0) hc hz (by simp [go_sem]; rfl)
  have hcv := run_convert_to_unsafe (P := Tryz.prog) (src := 161) (dst := 165) Tryz.underlying161 Tryz.underlying165 (by kernel_rfl) hc
  go_enter_d Tryz.func84, Tryz.ntmps84
  go_wp2
  go_end0
  go_wp2
  go_end0
  exact ⟨rfl, rfl⟩
set_option maxRecDepth 100000 in
set_option maxHeartbeats 800000 in
theorem lock_free (a : Addr) (w : World) (hc : w.cell? a = some (.int .i32 0)) (hz : w.frozen? a = false) :
    Calls Tryz.prog 83 #[.pointer (some a)] w fun e w' => e = .returned (.tuple #[]) ∧ w' = w.setCell a (.int .i32 1) := by
  have hd := r_disable
  have he := r_enable
  have ha := r_acquire
  have hcas := run_call_cas_hit (P := Tryz.prog) Tryz.func133 (by kernel_rfl) (by kernel_rfl) (by kernel_rfl) .i32 (by kernel_rfl) (y := 1) hc hz
  have hc' : (w.setCell a (.int .i32 1)).cell? a = some (.int .i32 1) := World.cell?_setCell_same w a _ hc
  have hcv := run_convert_to_unsafe (P := Tryz.prog) (src := 161) (dst := 165) Tryz.underlying161 Tryz.underlying165 (by kernel_rfl) hc'
  go_enter Tryz.func83, Tryz.ntmps83
  go_wp2
  first | go_end0 | (simp only [Exit.inBlock, Exit.then]; refine bodyPost_ret (results_none rfl _ _ _) rfl ?_) | refine bodyPost_ret (results_none rfl _ _ _) rfl ?_
  go_wp2
  go_end0
  exact ⟨rfl, rfl⟩
end Go.Proofs.YtbaijjclofekcaaGreatDoor
namespace Go.Proofs.YtbaijjclofekcaaGreatDoor
open Go.RowKit
theorem so {w : World} {a b : Addr} {u v : Value} (h : a ≠ b) (hv : w.cell? b = some v) : (w.setCell a u).cell? b = some v := (World.cell?_setCell_other _ _ _ _ h).trans hv
theorem do_done (a : Addr) (fv : Value) (w : World) (h0 : w.cell? a = some (.int .u32 1)) :
    Calls Tryz.prog 49 #[.pointer (some a), fv] w fun e w' => e = .returned (.tuple #[]) ∧ w' = w := by
  have hl := run_call_load (P := Tryz.prog) Tryz.func82 (by kernel_rfl) (by kernel_rfl) (by kernel_rfl) .u32 (by kernel_rfl) h0
  have hnot : ∀ (x : Bool) (w : World), (Op.unary .not (.bool x)).run Tryz.prog w = .ok (.bool (!x)) w := fun _ _ => rfl
  go_enter Tryz.func49, Tryz.ntmps49
  go_wp2
  go_end0
  exact ⟨rfl, rfl⟩
structure Sl where
  p : Option Addr
  n : Nat
  c : Nat
def Sl.val (s : Sl) : Value := .slice s.p s.n s.c
def sl0 : Sl := ⟨none, 0, 0⟩
def gObj (d m : Int) (s c : Nat → Sl) : Obj := .cells #[.int .u32 d, .int .i32 m, .int .u32 0, (s 0).val, (s 1).val, (s 2).val, (s 3).val, (c 0).val, (c 1).val, (c 2).val, (c 3).val] 72 (0, 0)
def GridIn (w : World) (b : Nat) (d m : Int) (s c : Nat → Sl) : Prop := w.heap[b]? = some (gObj d m s c)
theorem GridIn.on {w w' : World} {b : Nat} {d m : Int} {s c : Nat → Sl} (h : GridIn w b d m s c) (hb : Below w.heap.size w w') : GridIn w' b d m s c := (hb.block _ (lt_heap h)).trans h
theorem GridIn.put0 {w : World} {b : Nat} {d m : Int} {s c : Nat → Sl} (h : GridIn w b d m s c) (d' : Int) : GridIn (w.setCell ⟨b, 0, none⟩ (.int .u32 d')) b d' m s c := (heap_setCell (i := 0) _ h).trans (by unfold gObj; simp)
theorem GridIn.put1 {w : World} {b : Nat} {d m : Int} {s c : Nat → Sl} (h : GridIn w b d m s c) (m' : Int) : GridIn (w.setCell ⟨b, 1, none⟩ (.int .i32 m')) b d m' s c := (heap_setCell (i := 1) _ h).trans (by unfold gObj; simp)
theorem GridIn.c0 {w : World} {b : Nat} {d m : Int} {s c : Nat → Sl} (h : GridIn w b d m s c) : w.cell? ⟨b, 0, none⟩ = some (.int .u32 d) := cell_heap h 0
theorem GridIn.c1 {w : World} {b : Nat} {d m : Int} {s c : Nat → Sl} (h : GridIn w b d m s c) : w.cell? ⟨b, 1, none⟩ = some (.int .i32 m) := cell_heap h 1
theorem GridIn.soft {w : World} {b : Nat} {d m : Int} {s c : Nat → Sl} (h : GridIn w b d m s c) (i : Nat) : w.frozen? ⟨b, i, none⟩ = false := frozen_heap h i
theorem GridIn.lt {w : World} {b : Nat} {d m : Int} {s c : Nat → Sl} (h : GridIn w b d m s c) : b < w.heap.size := lt_heap h
def plainG : Value → Bool
  | .int .i64 _ => false
  | .string _ => false
  | .bool _ => false
  | _ => true
theorem plainG_Q {v : Value} (h : plainG v = true) : plainQ v = true := by
  unfold plainG at h
  unfold plainQ
  split at h <;> simp_all
theorem gObj_plain (d m : Int) (s c : Nat → Sl) : ∀ x ∈ (#[.int .u32 d, .int .i32 m, .int .u32 0, (s 0).val, (s 1).val, (s 2).val, (s 3).val, (c 0).val, (c 1).val, (c 2).val, (c 3).val] : Array Value).toList, plainG x = true := by
  intro x hx
  simp only [List.mem_cons, List.not_mem_nil, or_false] at hx
  rcases hx with rfl | rfl | rfl | rfl | rfl | rfl | rfl | rfl | rfl | rfl | rfl <;> rfl
theorem SetsAt.asG {w w' : World} {v : Value} {l : List SetV} {p : Nat} {cs : Array Value} {t : TypeId} {fz : Nat × Nat} (h : SetsAt w v l) (hp : w.heap[p]? = some (.cells cs t fz)) (hn : ∀ x ∈ cs.toList, plainG x = true) (hs : w.heap.size ≤ w'.heap.size) (hk : ∀ k, k < w.heap.size → k ≠ p → w'.heap[k]? = w.heap[k]?) : SetsAt w' v l := by
  obtain ⟨h1, a, cap, hv, h⟩ := h
  refine ⟨h1, a, cap, hv, fun i hi => ?_⟩
  obtain ⟨b, off, vi, vs, e, hb, c0, c1, c2, c3, hI, hT⟩ := h i hi
  have hbp : b ≠ p := by
    rintro rfl
    rw [cell_heap hp] at c0
    obtain ⟨hj, e⟩ := Array.getElem?_eq_some_iff.1 c0
    have hm := hn _ (Array.getElem_mem_toList hj)
    rw [e] at hm
    cases hm
  have hc : ∀ o, w'.cell? ⟨b, o, none⟩ = w.cell? ⟨b, o, none⟩ := fun o => by unfold World.cell?; simp only [hk b hb hbp]
  exact ⟨b, off, vi, vs, e, Nat.lt_of_lt_of_le hb hs, (hc _).trans c0, (hc _).trans c1, (hc _).trans c2, (hc _).trans c3, hI.asq hp (fun x hx => plainG_Q (hn x hx)) hs hk, hT.asq hp (fun x hx => plainG_Q (hn x hx)) hs hk⟩
theorem SetsAt.gr {w w' : World} {v : Value} {l : List SetV} {b : Nat} {d m : Int} {s c : Nat → Sl} (h : SetsAt w v l) (hG : GridIn w b d m s c) (k : w.grownBy w' (some b)) : SetsAt w' v l :=
  h.asG hG (gObj_plain d m s c) k.size (fun i hi hne => k.block i hi (fun e => hne (by cases e; rfl)))
theorem kept_lt {m b : Nat} {w w' : World} (k : w.grownBy w' (some b)) (h : b < m) : Kept m w w' := ⟨k.size, fun i hm hi => k.block i hi (fun e => by cases e; omega)⟩
theorem CutAt.kept {m : Nat} {w w' : World} {v : Value} {l : List SetV} (h : CutAt m w v l) (hk : Kept m w w') : CutAt m w' v l := by
  obtain ⟨cs, h1, h2, h3⟩ := h
  exact ⟨cs, ownsRow_kept h1 hk, h2, h3.kept hk⟩
theorem CutAt.mono {m m' : Nat} {w : World} {v : Value} {l : List SetV} (h : CutAt m w v l) (hm : m' ≤ m) : CutAt m' w v l := by
  obtain ⟨cs, h1, h2, h3⟩ := h
  exact ⟨cs, OwnT.mono (B := m) h1 hm, h2, h3.mono hm⟩
theorem CutAt.form {m : Nat} {w : World} {v : Value} {l : List SetV} (h : CutAt m w v l) : ∃ s : Sl, v = s.val ∧ s.n = (cutL l).length := by
  obtain ⟨cs, h1, h2, h3⟩ := h
  obtain ⟨a, cap, e⟩ := OwnT.frm (B := m) h1
  exact ⟨⟨a, cs.length, cap⟩, e, h3.at_.1⟩
section
variable {ops : Array Oper} {Q : Exit → Act → World → Prop} {S : World → Prop} {o : Oper} {a : Act}
theorem yq_ldPg (hw : Region.wanted o (yielded ops a.tmps) = true) (x : Operand) (ho : o.op = .load 29 x) (g k : Nat) (hx : a.eval x = .pointer (some ⟨g, k, none⟩)) (q : Option Addr) (h : ∀ w, S w → w.cell? ⟨g, k, none⟩ = some (.pointer q)) : YieldsIf Tryz.prog ops S o (.pointer q) a :=
  Or.inl ⟨hw, fun w hS => by
    have c0 := h w hS
    simp only [execOp, ho, hx]
    go_simp⟩
set_option maxRecDepth 100000 in
theorem yq_fG (j : Nat) (hj : j = 0 ∨ j = 1 ∨ j = 2) (hw : Region.wanted o (yielded ops a.tmps) = true) (x : Operand) (ho : o.op = .fieldAddr 72 x j) (g : Nat) (hx : a.eval x = .pointer (some ⟨g, 0, none⟩)) : YieldsIf Tryz.prog ops S o (.pointer (some ⟨g, if j = 0 then 0 else if j = 1 then 3 else 7, none⟩)) a :=
  Or.inl ⟨hw, fun w hS => by
    rcases hj with rfl | rfl | rfl <;> simp only [execOp, ho, hx] <;> go_simp⟩
set_option maxRecDepth 100000 in
theorem yq_ld4 (hw : Region.wanted o (yielded ops a.tmps) = true) (x : Operand) (ho : o.op = .load 70 x) (g k : Nat) (hx : a.eval x = .pointer (some ⟨g, k, none⟩)) (v0 v1 v2 v3 : Sl) (h : ∀ w, S w → w.cell? ⟨g, k, none⟩ = some v0.val ∧ w.cell? ⟨g, k + 1, none⟩ = some v1.val ∧ w.cell? ⟨g, k + 2, none⟩ = some v2.val ∧ w.cell? ⟨g, k + 3, none⟩ = some v3.val) : YieldsIf Tryz.prog ops S o (.agg #[v0.val, v1.val, v2.val, v3.val]) a :=
  Or.inl ⟨hw, fun w hS => by
    obtain ⟨c0, c1, c2, c3⟩ := h w hS
    unfold Sl.val at c0 c1 c2 c3 ⊢
    simp only [execOp, ho, hx]
    go_simp⟩
set_option maxRecDepth 100000 in
theorem yq_ix4 (hw : Region.wanted o (yielded ops a.tmps) = true) (x y : Operand) (ho : o.op = .index 70 x y) (v : Nat → Sl) (i : Nat) (hi : i < 4) (hx : a.eval x = .agg #[(v 0).val, (v 1).val, (v 2).val, (v 3).val]) (hy : a.eval y = .int .i64 (i : Int)) : YieldsIf Tryz.prog ops S o (v i).val a :=
  Or.inl ⟨hw, fun w hS => by
    have : i = 0 ∨ i = 1 ∨ i = 2 ∨ i = 3 := by omega
    rcases this with rfl | rfl | rfl | rfl <;> simp only [execOp, ho, hx, hy, Sl.val] <;> simp [Instr.index, run_underlying Tryz.underlying70, asIntOf, go_sem, part]⟩
set_option maxRecDepth 100000 in
theorem yq_at4 (hw : Region.wanted o (yielded ops a.tmps) = true) (x y : Operand) (ho : o.op = .indexAddr 70 x y) (g k i : Nat) (hx : a.eval x = .pointer (some ⟨g, k, none⟩)) (hy : a.eval y = .int .i64 (i : Int)) (hi : i < 4) : YieldsIf Tryz.prog ops S o (.pointer (some ⟨g, k + i, none⟩)) a :=
  Or.inl ⟨hw, fun w hS => by
    have : i = 0 ∨ i = 1 ∨ i = 2 ∨ i = 3 := by omega
    rcases this with rfl | rfl | rfl | rfl <;> simp only [execOp, ho, hx, hy] <;> go_simp⟩
set_option maxRecDepth 100000 in
theorem yq_b4 (hw : Region.wanted o (yielded ops a.tmps) = true) (ho : o.op = .build 70 #[]) : YieldsIf Tryz.prog ops S o (.agg #[sl0.val, sl0.val, sl0.val, sl0.val]) a :=
  Or.inl ⟨hw, fun w _ => by
    unfold sl0 Sl.val
    simp only [execOp, ho, List.map_toArray, List.map_nil]
    go_simp⟩
theorem yq_eqPg (hw : Region.wanted o (yielded ops a.tmps) = true) (x y : Operand) (t : TypeId) (ho : o.op = .binOp .eql 29 x y t) (q : Option Addr) (hx : a.eval x = .pointer q) (hy : a.eval y = .pointer none) : YieldsIf Tryz.prog ops S o (.bool q.isNone) a :=
  Or.inl ⟨hw, fun w _ => by
    simp only [execOp, ho, hx, hy]
    cases q <;> go_simp⟩
theorem wq_boxPg {rest : List Oper} {w : World} (hw : Region.wanted o (yielded ops a.tmps) = true) (x : Operand) (ho : o.op = .box 29 x) (q : Option Addr) (hx : a.eval x = .pointer q)
    (h : ∀ W g, w.heap.size ≤ g → W.heap[g]? = some (.cells #[.pointer q] 29 (0, 0)) → Below w.heap.size w W → wpList Tryz.prog ops Q rest (a.put o.dst (.pointer (some ⟨g, 0, none⟩))) W) : wpList Tryz.prog ops Q (o :: rest) a w := by
  refine wl_run hw (.pointer (some ⟨w.heap.size, 0, none⟩)) (w.alloc (.cells #[.pointer q] 29)) ?_ (h _ _ (Nat.le_refl _) (heap_new _ _) ((Below.refl _ w).alloc (Nat.le_refl _) _))
  simp only [execOp, ho, hx]
  go_simp
set_option maxRecDepth 100000 in
theorem wq_allocG {rest : List Oper} {w : World} (hw : Region.wanted o (yielded ops a.tmps) = true) (ho : o.op = .alloc 72)
    (h : ∀ W g, w.heap.size ≤ g → GridIn W g 0 0 (fun _ => sl0) (fun _ => sl0) → Below w.heap.size w W → wpList Tryz.prog ops Q rest (a.put o.dst (.pointer (some ⟨g, 0, none⟩))) W) : wpList Tryz.prog ops Q (o :: rest) a w := by
  refine wl_run hw (.pointer (some ⟨w.heap.size, 0, none⟩)) (w.alloc (gObj 0 0 (fun _ => sl0) (fun _ => sl0))) ?_ (h _ _ (Nat.le_refl _) (heap_new _ _) ((Below.refl _ w).alloc (Nat.le_refl _) _))
  unfold gObj sl0 Sl.val
  simp only [execOp, ho]
  go_simp
set_option maxRecDepth 100000 in
theorem wq_alloc4 {rest : List Oper} {w : World} (hw : Region.wanted o (yielded ops a.tmps) = true) (ho : o.op = .alloc 70)
    (h : ∀ W g, w.heap.size ≤ g → W.heap[g]? = some (.cells #[sl0.val, sl0.val, sl0.val, sl0.val] 70 (0, 0)) → Below w.heap.size w W → wpList Tryz.prog ops Q rest (a.put o.dst (.pointer (some ⟨g, 0, none⟩))) W) : wpList Tryz.prog ops Q (o :: rest) a w := by
  refine wl_run hw (.pointer (some ⟨w.heap.size, 0, none⟩)) (w.alloc (.cells #[sl0.val, sl0.val, sl0.val, sl0.val] 70)) ?_ (h _ _ (Nat.le_refl _) (heap_new _ _) ((Below.refl _ w).alloc (Nat.le_refl _) _))
  unfold sl0 Sl.val
  simp only [execOp, ho]
  go_simp
end
set_option maxRecDepth 100000 in
set_option maxHeartbeats 1600000 in
theorem slow_gen (b : Nat) (pl : Addr) (m : Int) (s c : Nat → Sl) (R : World → Prop) (w : World) (hG : GridIn w b 0 0 s c) (hcl : Calls Tryz.prog 50 #[.pointer (some pl)] (w.setCell ⟨b, 1, none⟩ (.int .i32 1)) fun e w' => e = .returned (.tuple #[]) ∧ R w')
    (hR : ∀ w', R w' → ∃ s' c', GridIn w' b 0 1 s' c') :
    Calls Tryz.prog 67 #[.pointer (some ⟨b, 0, none⟩), .func (.func 50) #[] #[.pointer (some pl)]] w fun e w' => e = .returned (.tuple #[]) ∧ ∃ u, R u ∧ w' = (u.drew.setCell ⟨b, 0, none⟩ (.int .u32 1)).setCell ⟨b, 1, none⟩ (.int .i32 0) := by
  have h0 := hG.c0
  have h1 := hG.c1
  have hf := hG.soft
  have n1 : ∀ j, j ≠ 1 → (⟨b, 1, none⟩ : Addr) ≠ ⟨b, j, none⟩ := fun j hj h => hj (by simpa using (congrArg Addr.off h).symm)
  have hl := run_call_load (P := Tryz.prog) Tryz.func82 (by kernel_rfl) (by kernel_rfl) (by kernel_rfl) .u32 (by kernel_rfl) (w := w.setCell ⟨b, 1, none⟩ (.int .i32 1)) (a := ⟨b, 0, none⟩) (x := 0) (so (n1 _ (by decide)) h0)
  have hnot : ∀ (x : Bool) (w : World), (Op.unary .not (.bool x)).run Tryz.prog w = .ok (.bool (!x)) w := fun _ _ => rfl
  have Hcl := hide hcl
  have HR := hide hR
  clear hcl n1 hR hG
  go_enter_defers Tryz.func67, Tryz.ntmps67
  go_wp2_with (first | (go_at_call 83; refine (lock_free ⟨b, 1, none⟩ _ (by go_simp) (by go_simp)).mono ?_; rintro e w' ⟨rfl, rfl⟩) | (go_at_call 66; go_in))
  refine (unhide Hcl).mono ?_
  rintro e u ⟨rfl, hu⟩
  obtain ⟨s', c', hG'⟩ := HR.out u hu
  have HU := hide hu
  clear hu
  go_wp2
  refine leaves_cons (f := 85) (args := #[.pointer (some ⟨b, 0, none⟩), .bool true]) (by simp) (by simp [go_sem]) ?_
  have n0 : ∀ (j k : Nat), j ≠ k → (⟨b, j, none⟩ : Addr) ≠ ⟨b, k, none⟩ := fun j k hj h => hj (by simpa using (congrArg Addr.off h))
  refine (store_deferred ⟨b, 0, none⟩ (.int .u32 0) .returning _ hG'.c0 (hG'.soft 0)).mono ?_
  rintro e u' w'' ⟨rfl, rfl, rfl⟩
  refine leaves_cons (f := 84) (args := #[.pointer (some ⟨b, 1, none⟩)]) (by simp [settle]) (by simp [go_sem]) ?_
  refine (unlock_deferred ⟨b, 1, none⟩ _ _ ?_ (by simp [hG'.soft])).mono ?_
  · refine so (n0 _ _ (by decide)) ?_
    rw [World.cell?_drew]
    exact hG'.c1
  rintro e u' w'' ⟨rfl, rfl, rfl⟩
  simp [Leaves, settle, results, Tryz.results67]
  exact ⟨u, HU.out, rfl⟩
set_option maxRecDepth 100000 in
set_option maxHeartbeats 1600000 in
theorem do_gen (b : Nat) (pl : Addr) (s c : Nat → Sl) (R : World → Prop) (w : World) (hG : GridIn w b 0 0 s c) (hcl : Calls Tryz.prog 50 #[.pointer (some pl)] (w.setCell ⟨b, 1, none⟩ (.int .i32 1)) fun e w' => e = .returned (.tuple #[]) ∧ R w')
    (hR : ∀ w', R w' → ∃ s' c', GridIn w' b 0 1 s' c') :
    Calls Tryz.prog 49 #[.pointer (some ⟨b, 0, none⟩), .func (.func 50) #[] #[.pointer (some pl)]] w fun e w' => e = .returned (.tuple #[]) ∧ ∃ u, R u ∧ w' = (u.drew.setCell ⟨b, 0, none⟩ (.int .u32 1)).setCell ⟨b, 1, none⟩ (.int .i32 0) := by
  have hl := run_call_load (P := Tryz.prog) Tryz.func82 (by kernel_rfl) (by kernel_rfl) (by kernel_rfl) .u32 (by kernel_rfl) hG.c0
  have hnot : ∀ (x : Bool) (w : World), (Op.unary .not (.bool x)).run Tryz.prog w = .ok (.bool (!x)) w := fun _ _ => rfl
  have Hs := hide (slow_gen b pl 0 s c R w hG hcl hR)
  clear hcl hR hG
  go_enter Tryz.func49, Tryz.ntmps49
  go_wp2_with (first | (go_at_call 67; refine (unhide Hs).mono ?_; rintro e w' ⟨rfl, hw'⟩) | (go_at_call 66; go_in))
  go_end0
  exact ⟨rfl, hw'⟩
end Go.Proofs.YtbaijjclofekcaaGreatDoor
namespace Go.Proofs.YtbaijjclofekcaaGreatDoor
open Go.RowKit
theorem OwnT.len {w : World} {B g n cap : Nat} {ds : List SC} (h : OwnT w B (.slice (some ⟨g, 0, none⟩) n cap) ds) : n = ds.length ∧ ∃ cur, w.heap[g]? = some (.cells cur 43 (0, 0)) ∧ B ≤ g ∧ ds.length ≤ cap ∧ cap ≤ maxLen ∧ cur.size = cap * 4 := by
  rcases h.form with ⟨h, _⟩ | ⟨g', cap', cur, e, hB, hg, h1, h2, h3⟩
  · cases h
  · cases e
    exact ⟨rfl, cur, hg, hB, h1, h2, h3⟩
theorem ownT_put {w : World} {B g n cap : Nat} {ds : List SC} (h : OwnT w B (.slice (some ⟨g, 0, none⟩) n cap) ds) {k : Nat} (hk : k < ds.length) (c : SC) : OwnT (w.setCells g (k * 4) c.lst) B (.slice (some ⟨g, 0, none⟩) n cap) (ds.set k c) := by
  obtain ⟨rfl, cur, hg, hB, h1, h2, h3⟩ := h.len
  obtain ⟨cur', hg', hs'⟩ := setCells_cur g c.lst (k * 4) w cur hg
  have ht : w.there g (k * 4) c.lst.length := by
    rw [SC.lst_len]
    exact there_of hg (by omega)
  have hlen : (ds.set k c).length = ds.length := List.length_set
  rw [← hlen]
  refine ownT_of hg' hB (by rw [hlen]; exact h1) h2 (by rw [hs', h3]) (fun i hi => ?_)
  rw [hlen] at hi
  by_cases hik : i = k
  · subst hik
    rw [List.getD_eq_getElem?_getD, List.getElem?_set_self hi]
    exact World.rangeAt_setCells_same w g _ _ ht
  · rw [List.getD_eq_getElem?_getD, List.getElem?_set_ne (fun e => hik e.symm), ← List.getD_eq_getElem?_getD]
    exact World.rangeAt_setCells_apart (h.range i hi) g _ _ (Or.inr (by simp only [SC.lst_len]; omega))
set_option maxHeartbeats 1000000 in
set_option maxRecDepth 100000 in
theorem cloneT_nil (w : World) : Calls Tryz.prog 26 #[.slice none 0 0] w fun r w' => r = .returned (.slice none 0 0) ∧ w' = w := by
  have QN := fun (W : World) => Lib.run_eql_slice_nil W _ _ none 0 0 0 0 Tryz.underlying31
  simp only [Option.isNone_none] at QN
  go_enter Tryz.func26, Tryz.ntmps26
  go_wp2
  go_ret
  exact ⟨rfl, rfl⟩
set_option maxHeartbeats 1000000 in
set_option maxRecDepth 100000 in
theorem cloneT_some (ad : Addr) (m c : Nat) (news : List Value) (w : World) (hl : news.length = m * 4) (hnews : ∀ j u, news[j]? = some u → w.cell? (ad.add j) = some u) (h1 : ∀ u ∈ news, u.oneCell' = true) (hb : m * 64 ≤ 140737488355328) :
    Calls Tryz.prog 26 #[.slice (some ad) m c] w fun r w' => (∃ v, r = .returned v ∧ w'.ownsRow w.heap.size 43 4 v m news) ∧ Below w.heap.size w w' := by
  obtain ⟨i0, hi, hz0, hz1, hz2⟩ := info_parts cInfoT
  have HI := hide hi
  have HZ0 := hide hz0
  have HZ1 := hide hz1
  have HZ2 := hide hz2
  have HL := hide hl
  have H1 := hide h1
  have HB := hide hb
  have HN : Hid (∀ j u, news[j]? = some u → (w.alloc (Obj.cells #[] 43)).cell? (ad.add j) = some u) := hide (fun j u hj => (World.grownBy_alloc w (Obj.cells #[] 43) none).cell (hnews j u hj) (by simp))
  have HO : Hid ((w.alloc (Obj.cells #[] 43)).ownsRow w.heap.size 43 4 (.slice (some ⟨w.heap.size, 0, none⟩) 0 0) 0 []) := hide ⟨rfl, Or.inr ⟨w.heap.size, 0, #[], rfl, Nat.le_refl _, heap_top _ _, Nat.le_refl _, by unfold maxLen; omega, rfl, rfl⟩⟩
  have b0 := (Below.refl _ w).alloc (Nat.le_refl _) (Obj.cells #[] 43)
  have B0 := hide b0
  have QN := fun (W : World) => Lib.run_eql_slice_nil W _ _ (some ad) m c 0 0 Tryz.underlying31
  simp only [Option.isNone_some] at QN
  clear hi hz0 hz1 hz2 hl h1 hb hnews b0
  go_enter Tryz.func26, Tryz.ntmps26
  go_wp2_with (at_builtin; refine wpList_append_own _ rfl _ _ 31 rfl w.heap.size 43 i0 _ 4 64 Tryz.underlying31 HI.out HZ0.out HZ1.out HZ2.out rfl (by decide) _ 0 [] rfl HO.out ad m c news rfl HL.out HN.out H1.out (by have := HB.out; unfold maxLen; omega) (by have := HB.out; omega) B0.out.size ?_; intro v8 w8 h8 g8 _; have O8 := hide h8; have B8 := hide (B0.out.grown g8 B0.out.size (fun k hk => by cases hk; exact Nat.le_refl _)); clear h8 g8)
  go_ret
  have := O8.out
  rw [Nat.zero_add, List.nil_append] at this
  exact ⟨⟨_, rfl, this⟩, B8.out⟩
theorem cloneT_own (v : Value) (l : List SetV) (w : World) (hv : SetsAt w v l) (hl : l.length ≤ 100000) (hn : nilOkQ v) :
    Calls Tryz.prog 26 #[v] w fun r w' => (∃ u cs, r = .returned u ∧ OwnT w' w.heap.size u cs ∧ AllSt w cs l) ∧ Below w.heap.size w w' := by
  obtain ⟨cs, hR, hA⟩ := hv.row
  obtain ⟨_, a, cap, rfl, hel⟩ := hR
  cases a with
  | none =>
    have hc : cs = [] := by
      cases cs with
      | nil => rfl
      | cons r m =>
        obtain ⟨b, off, e, _⟩ := hel 0 (by simp)
        cases e
    subst hc
    have e := hn _ _ rfl
    rw [e]
    refine (cloneT_nil w).mono ?_
    rintro r w' ⟨rfl, rfl⟩
    exact ⟨⟨_, [], rfl, ownT_nil _ _, hA⟩, Below.refl _ _⟩
  | some ad =>
    refine (cloneT_some ad cs.length cap (scCells cs) w (by rw [scCells_len]) ?_ (scCells_one cs) (by rw [hA.1]; omega)).mono ?_
    · intro j u hj
      have hjl : j < cs.length * 4 := by
        have := (List.getElem?_eq_some_iff.1 hj).1
        rwa [scCells_len] at this
      obtain ⟨b, off, e, _, hr⟩ := hel (j / 4) (by omega)
      have h1 := scCells_at cs (j / 4) (j % 4) (by omega) (Nat.mod_lt _ (by decide))
      simp at e
      subst e
      rw [Go.WideShapes.add_plain]
      rw [show j / 4 * 4 + j % 4 = j by omega, hj] at h1
      have := hr (j % 4) u h1.symm
      rwa [show off + j / 4 * 4 + j % 4 = off + j by omega] at this
    · rintro r w' ⟨⟨u, rfl, ho⟩, hb⟩
      exact ⟨⟨u, cs, rfl, ho, hA⟩, hb⟩
theorem cloneR_own (v : Value) (l : List Rg) (w : World) (hv : RngsAt w v l) (hl : l.length ≤ 100000) :
    Calls Tryz.prog 47 #[v] w fun r w' => (∃ u, r = .returned u ∧ OwnR w' w.heap.size u l) ∧ Below w.heap.size w w' := by
  have hi := hv.1
  obtain ⟨a, cap, rfl⟩ := hv.form
  have hr := hv.room
  cases a with
  | none =>
    obtain ⟨e1, e2⟩ := hr.2 rfl
    have e3 : l = [] := List.length_eq_zero_iff.1 e1
    subst e3
    simp only [List.length_nil] at *
    subst e2
    refine (cloneR_nil w).mono ?_
    rintro r w' ⟨rfl, rfl⟩
    exact ⟨⟨_, rfl, ownR_none _ _⟩, Below.refl _ _⟩
  | some ad =>
    obtain ⟨_, _, ad', cap', e0, hel⟩ := hv
    simp at e0
    obtain ⟨e0, rfl⟩ := e0
    subst e0
    refine (cloneR_some ad l.length _ (rgCells l) w (rgCells_len l) ?_ (rgCells_one l) (by omega)).mono ?_
    · intro j u hj
      have hjl : j < l.length * 2 := by
        have := (List.getElem?_eq_some_iff.1 hj).1
        rwa [rgCells_len] at this
      obtain ⟨b, off, e, _, c0, c1⟩ := hel (j / 2) (by omega)
      obtain ⟨a0, a1⟩ := rgCells_at l (j / 2) (by omega)
      simp at e
      subst e
      rw [Go.WideShapes.add_plain]
      rcases Nat.mod_two_eq_zero_or_one j with h | h
      · rw [show j = j / 2 * 2 by omega] at hj ⊢
        rw [← hj, a0]
        exact c0
      · rw [show j = j / 2 * 2 + 1 by omega] at hj ⊢
        rw [← hj, a1, ← Nat.add_assoc]
        exact c1
    · rintro r w' ⟨⟨v, rfl, ho⟩, hb⟩
      exact ⟨⟨v, rfl, ho⟩, hb⟩
theorem cloneS_own (v : Value) (l : List ByteArray) (w : World) (hv : StrsAt w v l) (hl : l.length ≤ 100000) :
    Calls Tryz.prog 48 #[v] w fun r w' => (∃ u, r = .returned u ∧ OwnS w' w.heap.size u l) ∧ Below w.heap.size w w' := by
  obtain ⟨a, cap, rfl⟩ := hv.form
  have hr := hv.room
  cases a with
  | none =>
    obtain ⟨e1, e2⟩ := hr.2 rfl
    have e3 : l = [] := List.length_eq_zero_iff.1 e1
    subst e3
    simp only [List.length_nil] at *
    subst e2
    refine (cloneS_nil w).mono ?_
    rintro r w' ⟨rfl, rfl⟩
    exact ⟨⟨_, rfl, ownS_none _ _⟩, Below.refl _ _⟩
  | some ad =>
    obtain ⟨_, _, ad', cap', e0, hel⟩ := hv
    simp at e0
    obtain ⟨e0, rfl⟩ := e0
    subst e0
    refine (cloneS_some ad l.length _ (l.map Value.string) w (by simp) ?_ (fun u hu => by obtain ⟨s, _, rfl⟩ := List.mem_map.1 hu; rfl) (by omega)).mono ?_
    · intro j u hj
      have hjl : j < l.length := by
        have := (List.getElem?_eq_some_iff.1 hj).1
        simpa using this
      obtain ⟨b, off, e, _, c0⟩ := hel j hjl
      simp at e
      subst e
      rw [Go.WideShapes.add_plain, c0, ← hj, strs_cells_at l j hjl]
    · rintro r w' ⟨⟨v, rfl, ho⟩, hb⟩
      exact ⟨⟨v, rfl, ho⟩, hb⟩
theorem OwnR.frmU {w : World} {B : Nat} {v : Value} {l : List Rg} (h : OwnR w B v l) : ∃ a cap, v = .slice a l.length cap ∧ ∀ b, a = some b → B ≤ b.block := by
  rcases h.2 with ⟨e, h0⟩ | ⟨g, cap, cur, e, hB, _⟩
  · exact ⟨none, 0, by rw [e, h0], fun b e => (by cases e)⟩
  · exact ⟨_, cap, e, fun b e => by cases e; exact hB⟩
theorem infoT4 : (Tryz.prog.info? 43).map (·.size) = some 4 := by kernel_rfl
theorem infoQ4 : (Tryz.prog.info? 70).map (·.size) = some 4 := by kernel_rfl
theorem grown_setCells (w : World) (g : Nat) : ∀ (vs : List Value) (o : Nat) (u : World), w.grownBy u (some g) → w.grownBy (u.setCells g o vs) (some g)
  | [], _, _, h => h
  | v :: vs, o, u, h => grown_setCells w g vs (o + 1) _ (grown_trans h (grown_put u g o v))
section
variable {ops : Array Oper} {Q : Exit → Act → World → Prop} {S : World → Prop} {o : Oper} {a : Act}
theorem wq_putQ {rest : List Oper} {w : World} (hw : Region.wanted o (yielded ops a.tmps) = true) (x y : Operand) (ho : o.op = .store 43 x y) (g k : Nat) (hx : a.eval x = .pointer (some ⟨g, 0 + k * 4, none⟩)) (c : SC) (hy : a.eval y = c.val)
    (B m cap : Nat) (cs : List SC) (hown : OwnT w B (.slice (some ⟨g, 0, none⟩) m cap) cs) (hk : k < cs.length)
    (h : ∀ W, OwnT W B (.slice (some ⟨g, 0, none⟩) m cap) (cs.set k c) → w.grownBy W (some g) → wpList Tryz.prog ops Q rest (a.put o.dst undef) W) : wpList Tryz.prog ops Q (o :: rest) a w := by
  rw [Nat.zero_add] at hx
  obtain ⟨rfl, cur, hg, hB, h1, h2, h3⟩ := hown.len
  have ht : w.there g (k * 4) 4 := fun j hj => ⟨by rw [cell_heap hg, Array.getElem?_eq_getElem (by omega)]; rfl, frozen_heap hg _⟩
  have hr := run_storeVar_mid (P := Tryz.prog) w g (k * 4) 43 c.lst.toArray ht (by rw [infoT4]; rfl) (all_oneCell_toArray c.lst_one)
  refine wl_skip hw (w.setCells g (k * 4) c.lst) ?_ (h _ (ownT_put hown hk c) (grown_setCells w g _ _ _ (grown_refl _ _)))
  have hy' : a.eval y = .agg c.lst.toArray := hy
  unfold execOp
  simp only [ho, hx, hy', Instr.storeAt, Instr.sureAddr, Sem.run_bind, Sem.run_pure, Result.andThen_ok, hr]
theorem GridIn.put4 {w : World} {b : Nat} {d m : Int} {s c : Nat → Sl} (h : GridIn w b d m s c) : GridIn (w.setCells b 3 [sl0.val, sl0.val, sl0.val, sl0.val]) b d m (fun _ => sl0) c := by
  have h1 := heap_setCell (i := 3) sl0.val h
  have h2 := heap_setCell (i := 4) sl0.val h1
  have h3 := heap_setCell (i := 5) sl0.val h2
  have h4 := heap_setCell (i := 6) sl0.val h3
  exact h4.trans (by unfold gObj; simp)
theorem wq_putG4 {rest : List Oper} {w : World} (hw : Region.wanted o (yielded ops a.tmps) = true) (x y : Operand) (ho : o.op = .store 70 x y) (b : Nat) (hx : a.eval x = .pointer (some ⟨b, 3, none⟩)) (hy : a.eval y = .agg #[sl0.val, sl0.val, sl0.val, sl0.val])
    (d m : Int) (s c : Nat → Sl) (hG : GridIn w b d m s c)
    (h : ∀ W, GridIn W b d m (fun _ => sl0) c → w.grownBy W (some b) → wpList Tryz.prog ops Q rest (a.put o.dst undef) W) : wpList Tryz.prog ops Q (o :: rest) a w := by
  have ht : w.there b 3 4 := fun j hj => ⟨by rw [cell_heap hG, Array.getElem?_eq_getElem (by simp; omega)]; rfl, frozen_heap hG _⟩
  have hr := run_storeVar_mid (P := Tryz.prog) w b 3 70 #[sl0.val, sl0.val, sl0.val, sl0.val] ht (by rw [infoQ4]; rfl) (by simp [Value.oneCell', Sl.val, sl0])
  refine wl_skip hw _ ?_ (h _ hG.put4 (grown_setCells w b _ _ _ (grown_refl _ _)))
  unfold execOp
  simp only [ho, hx, hy, Instr.storeAt, Instr.sureAddr, Sem.run_bind, Sem.run_pure, Result.andThen_ok, hr]
theorem wq_put4 {rest : List Oper} {w : World} (hw : Region.wanted o (yielded ops a.tmps) = true) (x y : Operand) (ho : o.op = .store 70 x y) (g : Nat) (hx : a.eval x = .pointer (some ⟨g, 0, none⟩)) (c : Nat → Sl) (hy : a.eval y = .agg #[(c 0).val, (c 1).val, (c 2).val, (c 3).val])
    {v0 v1 v2 v3 : Value} (hc : w.heap[g]? = some (.cells #[v0, v1, v2, v3] 70 (0, 0)))
    (h : ∀ W, W.heap[g]? = some (.cells #[(c 0).val, (c 1).val, (c 2).val, (c 3).val] 70 (0, 0)) → w.grownBy W (some g) → wpList Tryz.prog ops Q rest (a.put o.dst undef) W) : wpList Tryz.prog ops Q (o :: rest) a w := by
  have ht : w.there g 0 4 := fun j hj => ⟨by rw [cell_heap hc, Array.getElem?_eq_getElem (by simp; omega)]; rfl, frozen_heap hc _⟩
  have hr := run_storeVar_mid (P := Tryz.prog) w g 0 70 #[(c 0).val, (c 1).val, (c 2).val, (c 3).val] ht (by rw [infoQ4]; rfl) (by simp [Value.oneCell', Sl.val])
  have hpu := put_wholeU [(c 0).val, (c 1).val, (c 2).val, (c 3).val] hc (by simp)
  refine wl_skip hw _ ?_ (h _ hpu.1 hpu.2)
  unfold execOp
  simp only [ho, hx, hy, Instr.storeAt, Instr.sureAddr, Sem.run_bind, Sem.run_pure, Result.andThen_ok, hr]
theorem ot_putGc {i : Nat} {w : World} {K : Act → World → Prop} (hi : ops[i]? = some o) (hw : Region.wanted o (yielded ops a.tmps) = true) (x y : Operand) (ho : o.op = .store 31 x y) (b k : Nat) (hk : k < 4) (hx : a.eval x = .pointer (some ⟨b, 7 + k, none⟩)) (u : Sl) (hy : a.eval y = u.val)
    (d m : Int) (s c : Nat → Sl) (hG : GridIn w b d m s c)
    (h : ∀ W, GridIn W b d m s (fun j => if j = k then u else c j) → w.grownBy W (some b) → K (a.put o.dst undef) W) : wpOp Tryz.prog ops Q i K a w := by
  have f0 := frozen_heap hG (7 + k)
  have c0 : ∃ v, w.cell? ⟨b, 7 + k, none⟩ = some v := by
    rw [cell_heap hG, Array.getElem?_eq_getElem (by simp; omega)]
    exact ⟨_, rfl⟩
  obtain ⟨v, c0⟩ := c0
  have hG' := heap_setCell (i := 7 + k) u.val hG
  refine ot_skip hi hw (w.setCell ⟨b, 7 + k, none⟩ u.val) ?_ (h _ (hG'.trans ?_) (grown_put _ _ _ _))
  · unfold Sl.val at hy ⊢
    simp only [execOp, ho, hx, hy]
    go_simp
  · unfold gObj
    have : k = 0 ∨ k = 1 ∨ k = 2 ∨ k = 3 := by omega
    rcases this with rfl | rfl | rfl | rfl <;> simp
end
end Go.Proofs.YtbaijjclofekcaaGreatDoor
namespace Go.Proofs.YtbaijjclofekcaaGreatDoor
open Go.RowKit
theorem gPow : Tryz.prog.globalNamed "internal/strconv.uint64pow10" = some 0 := by kernel_rfl
structure Env (w : World) : Prop where
  big : 2 ≤ w.heap.size
  tab : Lib.TabIs Tryz.prog w "internal/strconv.uint64pow10" .u64 Lib.pow10Tab
theorem Env.below {w w' : World} (h : Env w) {B : Nat} (hB : 2 ≤ B) (hb : Below B w w') : Env w' := ⟨Nat.le_trans h.1 hb.size, var?_below hb gPow (by omega) h.2⟩
theorem Env.on {w w' : World} (h : Env w) (hb : Below w.heap.size w w') : Env w' := h.below h.big hb
theorem itoa_any (n : Int) (h0 : -9223372036854775808 ≤ n) (h1 : n ≤ 9223372036854775807) (w : World) (hE : Env w) :
    Calls Tryz.prog 55 #[.int .i64 n] w fun e w' => e = .returned (.string ⟨(Lib.itoa n).toArray⟩) ∧ Below w.heap.size w w' := by
  refine (Tryz.strconv_Itoa n h0 h1 w hE.tab).mono ?_
  rintro e w' ⟨rfl, k, os, rfl⟩
  exact ⟨rfl, Lib.below_grow _ _ (Nat.le_refl _) _ _⟩
end Go.Proofs.YtbaijjclofekcaaGreatDoor
namespace Go.Proofs.YtbaijjclofekcaaGreatDoor
open Go.RowKit
set_option maxHeartbeats 2000000 in
set_option maxRecDepth 100000 in
theorem has_any (v : Value) (S : SetV) (k n : Int) (s : ByteArray) (w : World) (hv : SetAt w v S) (hf : Fit S) (hs : s.size ≤ maxLen) :
    Calls Tryz.prog 51 #[v, .agg #[.int .i64 k, .int .i64 n, .string s]] w fun r w' => r = .returned (.bool (hasB S k n s)) ∧ Below w.heap.size w w' := by
  have HR1 := hide hf.good.rs.2
  have HL1 := hide hf.ns
  clear hf
  obtain ⟨vi, vs, rfl, hI, hS⟩ := hv
  obtain ⟨ai, ci, rfl⟩ := hI.form
  obtain ⟨aq, cq, rfl⟩ := hS.form
  obtain ⟨sa, si, sc, ss⟩ := S
  dsimp only at *
  have HI := hide hI
  have HS := hide hS
  have HR := fun (W : World) => hide (valRight_any k n s W hs)
  have HSX := fun (W : World) (h : StrsAt W (.slice aq ss.length cq) ss) => hide (hasString_any _ _ s W h HR1.out (Nat.le_trans HL1.out (by omega)))
  clear HL1
  generalize hH : hasB ⟨sa, si, sc, ss⟩ k n s = B
  have HH := hide hH
  have R2 : rightB k n s = true → k ≠ 0 → k ≠ 1 → k = 2 := fun h h0 h1 => by
    unfold rightB at h
    rw [if_neg h0, if_neg h1] at h
    split at h
    · assumption
    · simp at h
  have HR2 := hide R2
  clear hI hS hH R2
  generalize si.length = nI at *
  generalize ss.length = nS at *
  cases hr : rightB k n s
  · rw [hr] at HR
    have E : Hid (B = false) := hide (by rw [← HH.out]; unfold hasB; rw [hr]; rfl)
    clear HH hr
    go_enter Tryz.func51, Tryz.ntmps51
    go_wp2_with fail
    refine (unhide (HR _)).mono ?_
    rintro r w1 ⟨rfl, b1⟩
    have B1 := hide b1
    clear b1
    go_wp2
    go_ret
    exact ⟨ret_bool E.out.symm, (two_new B1.out).2.2⟩
  · rw [hr] at HR
    have hB := HH.out
    unfold hasB at hB
    rw [hr, Bool.true_and] at hB
    have HB := hide hB
    have k2 := HR2.out hr
    have K2 := hide k2
    clear HH hr hB k2 HR2
    go_enter Tryz.func51, Tryz.ntmps51
    go_wp2_with fail
    refine (unhide (HR _)).mono ?_
    rintro r w1 ⟨rfl, b1⟩
    obtain ⟨e1, e2, b2⟩ := two_new b1
    have c0 := cell_heap e1 0
    have c1 := cell_heap e1 1
    have c2 := cell_heap e1 2
    have c3 := cell_heap e1 3
    have d0 := cell_heap e2 0
    have d1 := cell_heap e2 1
    have d2 := cell_heap e2 2
    simp only [List.getElem?_toArray, List.getElem?_cons_zero, List.getElem?_cons_succ] at c0 c1 c2 c3 d0 d1 d2
    have B2 := hide b2
    have I1 := hide (HI.out.on b2)
    have S1 := hide (HS.out.on b2)
    clear b1 b2 e1 e2 HR HI HS
    by_cases k0 : k = 0
    · subst k0
      have E : Hid (B = sa) := hide (by rw [← HB.out, if_pos rfl])
      clear HB
      go_wp2
      go_ret
      exact ⟨ret_bool E.out.symm, B2.out⟩
    · have kb : (k == 0) = false := beq_eq_false_iff_ne.2 k0
      by_cases k1 : k = 1
      · subst k1
        have E : Hid (B = inIntsB si n) := hide (by rw [← HB.out, if_neg (by omega), if_pos rfl])
        have X := hide (hasNumber_any _ _ n _ I1.out)
        clear HB I1 S1
        go_wp2_with fail
        refine (unhide X).mono ?_
        rintro r w2 ⟨rfl, b2⟩
        go_wp2
        go_ret
        exact ⟨ret_bool E.out.symm, B2.out.trans (b2.mono B2.out.size)⟩
      · have kb1 : (k == 1) = false := beq_eq_false_iff_ne.2 k1
        have kk : k = 2 := K2.out k0 k1
        subst kk
        have E : Hid (B = (inStrsB ss s != sc)) := hide (by rw [← HB.out, if_neg k0, if_neg k1])
        have X := fun (d : Nat) (os : Array Obj) => hide (Calls.regrown_of ((HSX (Sort.grow (redrawn w1 d) os) (S1.out.on (below_regrown w1 d os))).out.mono (by rintro r w2 ⟨rfl, rfl⟩; exact ⟨rfl, Below.refl _ _⟩)))
        clear HSX
        generalize inStrsB ss s = IB at *
        have p0 := cell_regrown c2
        have p1 := cell_regrown c3
        have p2 := cell_regrown d2
        have p3 := cell_regrown d0
        have p4 := cell_regrown d1
        clear HB I1 S1
        go_wp2
        clear c0 c1 c2 c3 d0 d1 d2
        refine wp_region_quiet_below mixed (by kernel_rfl) ?_
        repeat (first | go_big_quiet_step (exact unhide (X _ _)) | quiet_step (exact unhide (X _ _)))
        refine wpQuiet_nil ?_
        intro _ hw'
        obtain ⟨⟨dq, osq⟩, hw''⟩ := hw'
        subst hw''
        go_wp2
        go_ret
        refine ⟨ret_bool (by rw [E.out]; cases IB <;> cases sc <;> rfl), B2.out.trans ((below_regrown w1 dq osq).mono B2.out.size)⟩
end Go.Proofs.YtbaijjclofekcaaGreatDoor
namespace Go.Proofs.YtbaijjclofekcaaGreatDoor
open Go.RowKit
theorem results_cs {fn : Func} {p q : Tmp} {ty : TypeId} (h : fn.results = #[.cell p ty, .tmp q]) (tmps : Array Value) (w : World) (g : Nat) (cs : Array Value) (z : Value)
    (hp : tmps.getD p undef = .pointer (some ⟨g, 0, none⟩)) (hq : tmps.getD q undef = z) (hv : (loadVar ty ⟨g, 0, none⟩).run Tryz.prog w = .ok (.agg cs) w) :
    (results fn tmps).run Tryz.prog w = .ok (.tuple #[.agg cs, z]) w := by
  have hp' : tmps[p]?.getD undef = .pointer (some ⟨g, 0, none⟩) := by simpa using hp
  have hq' : tmps[q]?.getD undef = z := by simpa using hq
  simp [results, h, hp', hq', asAddr, hv]
set_option maxHeartbeats 4000000 in
set_option maxRecDepth 100000 in
theorem Env.gr {w w' : World} {g : Nat} (h : Env w) (k : w.grownBy w' (some g)) (h6 : 2 ≤ g) : Env w' := h.below (Nat.le_refl 2) ((Below.refl 2 w).grown k h.big (fun i hi => by cases hi; exact h6))
theorem try_bs (k : Nat) : bs ([126] ++ Lib.itoa ((k : Nat) : Int)) = tryS tilde k := (bs_cat [126] (Lib.itoa ((k : Nat) : Int))).symm
theorem c_itoa (k : Nat) (w : World) (hE : Env w) (hk : k ≤ 100000) : Calls Tryz.prog 55 #[.int .i64 ((k : Nat) : Int)] w fun e w' => e = .returned (.string (bs (Lib.itoa ((k : Nat) : Int)))) ∧ Below w.heap.size w w' := itoa_any _ (by omega) (by omega) w hE
theorem itoa_le9 (k : Nat) (hk : k ≤ 100000) : (Lib.itoa ((k : Nat) : Int)).length ≤ 21 := Lib.itoa_length_le _ (by omega) (by omega)
theorem c_has (v : Value) (S : SetV) (p : Va) (w : World) (hv : SetAt w v S) (hf : Fit S) (hs : p.2.2.size ≤ maxLen) :
    Calls Tryz.prog 51 #[v, vVal p] w fun r w' => r = .returned (.bool (hasP S p)) ∧ Below w.heap.size w w' := has_any v S p.1 p.2.1 p.2.2 w hv hf hs
theorem sc_open {w : World} {v : Value} {S : SetV} (h : SetAt w v S) : ∃ ai ci az cz, v = SC.val ⟨S.absent, ai, S.ints.length, ci, S.co, az, S.strs.length, cz⟩ ∧ RngsAt w (.slice ai S.ints.length ci) S.ints ∧ StrsAt w (.slice az S.strs.length cz) S.strs := by
  obtain ⟨vi, vs, rfl, hI, hS⟩ := h
  obtain ⟨ai, ci, rfl⟩ := hI.form
  obtain ⟨az, cz, rfl⟩ := hS.form
  exact ⟨ai, ci, az, cz, rfl, hI, hS⟩
theorem has_fresh {S : SetV} (hr : rightSet S = true) (hc : S.co = true) {k : Nat} (hk : k ≤ 9999) : hasP S (2, 0, tryS tilde k) = !inStrsB S.strs (tryS tilde k) := by
  show hasB S 2 0 (tryS tilde k) = _
  rw [has_2, rightB_2 (s := tryS tilde k) (fresh_short (by omega)), hc]
  cases inStrsB S.strs (tryS tilde k) <;> rfl
set_option maxHeartbeats 4000000 in
set_option maxRecDepth 100000 in
theorem cellHas_any (v : Value) (S : SetV) (p : Va) (w : World) (hv : SetAt w v S) (hf : Fit S) (hs : p.2.2.size ≤ maxLen) :
    Calls Tryz.prog 30 #[v, vVal p] w fun r w' => r = .returned (.bool (hasP S p)) ∧ Below w.heap.size w w' := by
  obtain ⟨ai, ci, az, cz, rfl, hI, hT⟩ := sc_open hv
  have hl1 := hI.2.1
  have hl2 := hT.2.1
  have D : w.grownBy w none := grown_refl _ _
  go_enter Tryz.func30, Tryz.ntmps30
  refine wp_seq_k (fun K1 hK1 => ?_)
  refine wp_region_lit ?_
  refine wt_boxSt (o := ⟨_, _, _, _, _, _⟩) (by rfl) _ rfl (⟨S.absent, ai, S.ints.length, ci, S.co, az, S.strs.length, cz⟩) rfl (fun v1 g1 hg G1 kb => ?_)
  simp only [Act.put, lzA, lzB, lzC]
  have ge_g1 : w.heap.size ≤ g1 := Nat.le_trans D.size hg
  clear hg
  replace D := grown_below D kb
  clear kb
  replace G1 : v1.heap[g1]? = some (.cells #[.bool (S.absent), .slice ai S.ints.length ci, .bool (S.co), .slice az S.strs.length cz] 43 (0, 0)) := G1
  refine wt_boxVa (o := ⟨_, _, _, _, _, _⟩) (by rfl) _ rfl (p) rfl (fun v2 g2 hg G2 kb => ?_)
  simp only [Act.put, lzA, lzB, lzC]
  have n_g1_g2 : g1 ≠ g2 := by have := lt_heap G1; omega
  have ge_g2 : w.heap.size ≤ g2 := Nat.le_trans D.size hg
  clear hg
  replace D := grown_below D kb
  replace G1 := heap_on G1 kb
  clear kb
  replace G2 : v2.heap[g2]? = some (.cells #[.int .i64 (p.1), .int .i64 (p.2.1), .string p.2.2] 24 (0, 0)) := G2
  refine wl_yield (o := ⟨_, _, _, _, _, _⟩) (.bool false) (yl_assign (by rfl) _ rfl _ rfl) ?_
  simp only [Act.put, lzA, lzB, lzC]
  refine wpList_nil ?_
  refine hK1 _ _ ?_
  clear hK1 K1
  refine wp_seq_k (fun K2 hK2 => ?_)
  refine wp_seq_k (fun K3 hK3 => ?_)
  refine wp_region_lit ?_
  refine wl_yield (o := ⟨_, _, _, _, _, _⟩) (.agg #[.bool (S.absent), .slice ai S.ints.length ci, .bool (S.co), .slice az S.strs.length cz]) (yl_set (by rfl) _ rfl _ 0 rfl _ _ _ _ (fun _ h => by subst h; exact ⟨cell_heap G1 0, cell_heap G1 1, cell_heap G1 2, cell_heap G1 3⟩)) ?_
  simp only [Act.put, lzA, lzB, lzC]
  refine wt_call (o := ⟨_, _, _, _, _, _⟩) (by rfl) 33 _ _ rfl #[.agg #[.bool (S.absent), .slice ai S.ints.length ci, .bool (S.co), .slice az S.strs.length cz]] rfl (run_call Tryz.func33 (by kernel_rfl) (by kernel_rfl)) ?_
  refine (setRight_any _ S _ (show SetAt _ (SC.val ⟨S.absent, ai, S.ints.length, ci, S.co, az, S.strs.length, cz⟩) S from ⟨_, _, rfl, hI.on (below_none D), hT.on (below_none D)⟩)).mono ?_
  rintro r v3 ⟨rfl, kb⟩
  replace D := grown_below D kb
  replace G1 := heap_on G1 kb
  replace G2 := heap_on G2 kb
  clear kb
  refine Or.inl ⟨.bool true, ret_bool hf.good.r, ?_⟩
  simp only [Act.put, lzA, lzB, lzC]
  refine wpList_nil ?_
  refine hK3 _ _ ?_
  clear hK3 K3
  refine wp_cond_true rfl ?_
  refine wp_seq_k (fun K4 hK4 => ?_)
  refine wp_region_lit ?_
  refine wl_yield (o := ⟨_, _, _, _, _, _⟩) (.agg #[.bool (S.absent), .slice ai S.ints.length ci, .bool (S.co), .slice az S.strs.length cz]) (yl_set (by rfl) _ rfl _ 0 rfl _ _ _ _ (fun _ h => by subst h; exact ⟨cell_heap G1 0, cell_heap G1 1, cell_heap G1 2, cell_heap G1 3⟩)) ?_
  simp only [Act.put, lzA, lzB, lzC]
  refine wl_yield (o := ⟨_, _, _, _, _, _⟩) (vVal p) (yl_val (by rfl) _ rfl _ 0 rfl _ _ _ (fun _ h => by subst h; exact ⟨cell_heap G2 0, cell_heap G2 1, cell_heap G2 2⟩)) ?_
  simp only [Act.put, lzA, lzB, lzC]
  refine wt_call (o := ⟨_, _, _, _, _, _⟩) (by rfl) 51 _ _ rfl #[.agg #[.bool (S.absent), .slice ai S.ints.length ci, .bool (S.co), .slice az S.strs.length cz], vVal p] rfl (run_call Tryz.func51 (by kernel_rfl) (by kernel_rfl)) ?_
  refine (c_has _ S p _ (show SetAt _ (SC.val ⟨S.absent, ai, S.ints.length, ci, S.co, az, S.strs.length, cz⟩) S from ⟨_, _, rfl, hI.on (below_none D), hT.on (below_none D)⟩) hf hs).mono ?_
  rintro r v4 ⟨rfl, kb⟩
  replace D := grown_below D kb
  replace G1 := heap_on G1 kb
  replace G2 := heap_on G2 kb
  clear kb
  refine Or.inl ⟨.bool ((hasP S p)), rfl, ?_⟩
  simp only [Act.put, lzA, lzB, lzC]
  refine wl_yield (o := ⟨_, _, _, _, _, _⟩) (.bool ((hasP S p))) (yl_assign (by rfl) _ rfl _ rfl) ?_
  simp only [Act.put, lzA, lzB, lzC]
  refine wpList_nil ?_
  refine hK4 _ _ ?_
  clear hK4 K4
  refine wp_ret ?_
  try simp only [Exit.inBlock, Exit.then]
  go_ret
  exact ⟨rfl, below_none D⟩
set_option maxHeartbeats 4000000 in
set_option maxRecDepth 100000 in
theorem unnamed_any (v : Value) (S : SetV) (w : World) (HE : Env w) (hv : SetAt w v S) (hf : Fit S) (hco : S.co = true) :
    Calls Tryz.prog 34 #[v] w fun r w' => r = .returned (.tuple #[vVal (2, 0, tryS tilde (freshC S.strs)), .bool true]) ∧ Below w.heap.size w w' := by
  have w6 : 2 ≤ w.heap.size := HE.big
  have hns := hf.ns
  obtain ⟨ai, ci, az, cz, rfl, hI, hT⟩ := sc_open hv
  have hl1 := hI.2.1
  have hl2 := hT.2.1
  have D : w.grownBy w none := grown_refl _ _
  go_enter Tryz.func34, Tryz.ntmps34
  refine wp_seq_k (fun K1 hK1 => ?_)
  refine wp_region_lit ?_
  refine wt_boxSt (o := ⟨_, _, _, _, _, _⟩) (by rfl) _ rfl (⟨S.absent, ai, S.ints.length, ci, S.co, az, S.strs.length, cz⟩) rfl (fun v1 g1 hg G1 kb => ?_)
  simp only [Act.put, lzA, lzB, lzC]
  have ge_g1 : w.heap.size ≤ g1 := Nat.le_trans D.size hg
  have six_g1 : 2 ≤ g1 := Nat.le_trans w6 ge_g1
  clear hg
  replace D := grown_below D kb
  replace HE := HE.on kb
  clear kb
  replace G1 : v1.heap[g1]? = some (.cells #[.bool (S.absent), .slice ai S.ints.length ci, .bool (S.co), .slice az S.strs.length cz] 43 (0, 0)) := G1
  refine wt_allocVa (o := ⟨_, _, _, _, _, _⟩) (by rfl) rfl (fun v2 g2 hg G2 kb => ?_)
  simp only [Act.put, lzA, lzB, lzC]
  have n_g1_g2 : g1 ≠ g2 := by have := lt_heap G1; omega
  have ge_g2 : w.heap.size ≤ g2 := Nat.le_trans D.size hg
  have six_g2 : 2 ≤ g2 := Nat.le_trans w6 ge_g2
  clear hg
  replace D := grown_below D kb
  replace HE := HE.on kb
  replace G1 := heap_on G1 kb
  clear kb
  replace G2 : v2.heap[g2]? = some (.cells #[.int .i64 0, .int .i64 0, .string (bs ([]))] 24 (0, 0)) := G2
  refine wl_yield (o := ⟨_, _, _, _, _, _⟩) (.bool false) (yl_assign (by rfl) _ rfl _ rfl) ?_
  simp only [Act.put, lzA, lzB, lzC]
  refine wpList_nil ?_
  refine hK1 _ _ ?_
  clear hK1 K1
  refine wp_seq_k (fun K2 hK2 => ?_)
  refine wp_seq_k (fun K3 hK3 => ?_)
  refine wp_region_lit ?_
  refine wl_yield (o := ⟨_, _, _, _, _, _⟩) (.pointer (some ⟨g1, 3, none⟩)) (yt_fSt3 (by rfl) _ rfl g1 0 rfl) ?_
  simp only [Act.put, lzA, lzB, lzC]
  refine wl_yield (o := ⟨_, _, _, _, _, _⟩) (.slice az S.strs.length cz) (yt_ldLs (by rfl) _ rfl _ _ rfl az S.strs.length cz (fun _ h => by subst h; exact cell_heap G1 3)) ?_
  simp only [Act.put, lzA, lzB, lzC]
  refine wl_yield (o := ⟨_, _, _, _, _, _⟩) (.int .i64 (S.strs.length : Nat)) (yt_lenT (by rfl) _ rfl az S.strs.length cz rfl) ?_
  simp only [Act.put, lzA, lzB, lzC]
  refine wl_yield (o := ⟨_, _, _, _, _, _⟩) (.int .i64 (S.strs.length + 1 : Nat)) (yt_addI (by rfl) _ _ _ rfl ((S.strs.length : Nat) : Int) 1 ((S.strs.length + 1 : Nat) : Int) rfl rfl (by omega) (by omega) (by omega)) ?_
  simp only [Act.put, lzA, lzB, lzC]
  refine wl_yield (o := ⟨_, _, _, _, _, _⟩) (.int .i64 0) (yl_move (by rfl) _ rfl _ rfl) ?_
  simp only [Act.put, lzA, lzB, lzC]
  refine wpList_nil ?_
  refine hK3 _ _ ?_
  clear hK3 K3
  refine wp_block ?_
  go_loopw [10] (fun i wr => ∃ (k : Nat), i = .int .i64 ((k : Nat) : Int) ∧ k ≤ S.strs.length + 1 ∧ (∀ m, m < k → tryS tilde m ∈ S.strs) ∧ wr.heap[g1]? = some (.cells #[.bool (S.absent), .slice ai S.ints.length ci, .bool (S.co), .slice az S.strs.length cz] 43 (0, 0)) ∧ wr.heap[g2]? = some (.cells #[.int .i64 0, .int .i64 0, .string (bs ([]))] 24 (0, 0)) ∧ Env wr ∧ w.grownBy wr none) (fun i _ => S.strs.length + 1 - (intOf i).toNat)
  case atStart => exact ⟨0, rfl, Nat.zero_le _, fun m hm => absurd hm (Nat.not_lt_zero _), G1, G2, HE, D⟩
  case round =>
    clear D HE G1 G2
    obtain ⟨k, rfl, hk, hm, G1, G2, HE, D⟩ := hrel
    have hkl := fresh_le S.strs k hm
    have hit := itoa_le9 k (by omega)
    refine wp_seq_k (fun K4 hK4 => ?_)
    refine wp_region_lit ?_
    refine wl_yield (o := ⟨_, _, _, _, _, _⟩) (.bool true) (yt_lssI (by rfl) _ _ _ rfl ((k : Nat) : Int) ((S.strs.length + 1 : Nat) : Int) true rfl rfl (decide_eq_true (by omega))) ?_
    simp only [Act.put, lzA, lzB, lzC]
    refine wpList_nil ?_
    refine hK4 _ _ ?_
    clear hK4 K4
    refine wp_seq_k (fun K5 hK5 => ?_)
    refine wp_cond_true rfl ?_
    refine wp_skip ?_
    refine hK5 _ _ ?_
    clear hK5 K5
    refine wp_seq_k (fun K6 hK6 => ?_)
    refine wp_block ?_
    refine wp_seq_k (fun K7 hK7 => ?_)
    refine wp_region_lit ?_
    refine wl_yield (o := ⟨_, _, _, _, _, _⟩) (.int .i64 (k : Nat)) (yl_move (by rfl) _ rfl _ rfl) ?_
    simp only [Act.put, lzA, lzB, lzC]
    refine wl_yield (o := ⟨_, _, _, _, _, _⟩) (.int .i64 (k : Nat)) (yl_assign (by rfl) _ rfl _ rfl) ?_
    simp only [Act.put, lzA, lzB, lzC]
    refine wpList_nil ?_
    refine hK7 _ _ ?_
    clear hK7 K7
    refine wp_seq_k (fun K8 hK8 => ?_)
    refine wp_region_lit ?_
    refine wl_yield (o := ⟨_, _, _, _, _, _⟩) (.int .i64 (k : Nat)) (yl_move (by rfl) _ rfl _ rfl) ?_
    simp only [Act.put, lzA, lzB, lzC]
    refine wt_call (o := ⟨_, _, _, _, _, _⟩) (by rfl) 55 _ _ rfl #[.int .i64 (k : Nat)] rfl (run_call Tryz.func55 (by kernel_rfl) (by kernel_rfl)) ?_
    refine (c_itoa k _ HE (by omega)).mono ?_
    rintro r v3 ⟨rfl, kb⟩
    replace D := grown_below D kb
    replace HE := HE.on kb
    replace G1 := heap_on G1 kb
    replace G2 := heap_on G2 kb
    clear kb
    refine Or.inl ⟨.string (bs (Lib.itoa ((k : Nat) : Int))), rfl, ?_⟩
    simp only [Act.put, lzA, lzB, lzC]
    refine wl_yield (o := ⟨_, _, _, _, _, _⟩) (.string (bs (([126]) ++ (Lib.itoa ((k : Nat) : Int))))) (yt_cat (by rfl) _ _ _ rfl ([126]) (Lib.itoa ((k : Nat) : Int)) rfl rfl (by simp; omega)) ?_
    simp only [Act.put, lzA, lzB, lzC]
    refine wl_yield (o := ⟨_, _, _, _, _, _⟩) (.agg #[.int .i64 2, .int .i64 0, .string (bs (([126]) ++ (Lib.itoa ((k : Nat) : Int))))]) (yq_bV3 (by rfl) _ _ rfl 2 (bs (([126]) ++ (Lib.itoa ((k : Nat) : Int)))) rfl rfl) ?_
    simp only [Act.put, lzA, lzB, lzC]
    refine wt_allocVa (o := ⟨_, _, _, _, _, _⟩) (by rfl) rfl (fun v4 g4 hg G4 kb => ?_)
    simp only [Act.put, lzA, lzB, lzC]
    have n_g1_g4 : g1 ≠ g4 := by have := lt_heap G1; omega
    have n_g2_g4 : g2 ≠ g4 := by have := lt_heap G2; omega
    have ge_g4 : w.heap.size ≤ g4 := Nat.le_trans D.size hg
    have six_g4 : 2 ≤ g4 := Nat.le_trans w6 ge_g4
    clear hg
    replace D := grown_below D kb
    replace HE := HE.on kb
    replace G1 := heap_on G1 kb
    replace G2 := heap_on G2 kb
    clear kb
    replace G4 : v4.heap[g4]? = some (.cells #[.int .i64 0, .int .i64 0, .string (bs ([]))] 24 (0, 0)) := G4
    refine wt_putVa (o := ⟨_, _, _, _, _, _⟩) rfl _ _ rfl _ rfl ((2, 0, (bs (([126]) ++ (Lib.itoa ((k : Nat) : Int)))))) rfl G4 rfl (fun v5 X kg => ?_)
    simp only [Act.put, lzA, lzB, lzC]
    replace D := gr_new D ge_g4 kg
    replace HE := Env.gr HE kg six_g4
    replace G1 := heap_gr G1 kg n_g1_g4
    replace G2 := heap_gr G2 kg n_g2_g4
    clear kg
    replace G4 : v5.heap[g4]? = some (.cells #[.int .i64 2, .int .i64 0, .string (bs (([126]) ++ (Lib.itoa ((k : Nat) : Int))))] 24 (0, 0)) := X
    clear X
    refine wpList_nil ?_
    refine hK8 _ _ ?_
    clear hK8 K8
    refine wp_seq_k (fun K9 hK9 => ?_)
    refine wp_region_lit ?_
    refine wl_yield (o := ⟨_, _, _, _, _, _⟩) (.agg #[.bool (S.absent), .slice ai S.ints.length ci, .bool (S.co), .slice az S.strs.length cz]) (yl_set (by rfl) _ rfl _ 0 rfl _ _ _ _ (fun _ h => by subst h; exact ⟨cell_heap G1 0, cell_heap G1 1, cell_heap G1 2, cell_heap G1 3⟩)) ?_
    simp only [Act.put, lzA, lzB, lzC]
    refine wl_yield (o := ⟨_, _, _, _, _, _⟩) (.agg #[.int .i64 2, .int .i64 0, .string (bs (([126]) ++ (Lib.itoa ((k : Nat) : Int))))]) (yl_val (by rfl) _ rfl _ 0 rfl _ _ _ (fun _ h => by subst h; exact ⟨cell_heap G4 0, cell_heap G4 1, cell_heap G4 2⟩)) ?_
    simp only [Act.put, lzA, lzB, lzC]
    refine wt_call (o := ⟨_, _, _, _, _, _⟩) (by rfl) 51 _ _ rfl #[.agg #[.bool (S.absent), .slice ai S.ints.length ci, .bool (S.co), .slice az S.strs.length cz], .agg #[.int .i64 2, .int .i64 0, .string (bs (([126]) ++ (Lib.itoa ((k : Nat) : Int))))]] rfl (run_call Tryz.func51 (by kernel_rfl) (by kernel_rfl)) ?_
    refine (c_has _ S (2, 0, bs ([126] ++ Lib.itoa ((k : Nat) : Int))) _ (show SetAt _ (SC.val ⟨S.absent, ai, S.ints.length, ci, S.co, az, S.strs.length, cz⟩) S from ⟨_, _, rfl, hI.on (below_none D), hT.on (below_none D)⟩) hf (by rw [try_bs]; have := fresh_short (show k < 100000 by omega); unfold maxLen; exact Nat.le_trans this (by decide))).mono ?_
    rintro r v6 ⟨rfl, kb⟩
    replace D := grown_below D kb
    replace HE := HE.on kb
    replace G1 := heap_on G1 kb
    replace G2 := heap_on G2 kb
    replace G4 := heap_on G4 kb
    clear kb
    refine Or.inl ⟨.bool ((!inStrsB S.strs (tryS tilde k))), ret_bool (by rw [try_bs]; exact has_fresh hf.good.r hco (by omega)), ?_⟩
    simp only [Act.put, lzA, lzB, lzC]
    refine wpList_nil ?_
    refine hK9 _ _ ?_
    clear hK9 K9
    refine wp_cond_split (t := (!inStrsB S.strs (tryS tilde k))) rfl (fun hc => ?_) (fun hc => ?_)
    · refine wp_seq_k (fun K10 hK10 => ?_)
      refine wp_region_lit ?_
      refine wl_yield (o := ⟨_, _, _, _, _, _⟩) (.agg #[.int .i64 2, .int .i64 0, .string (bs (([126]) ++ (Lib.itoa ((k : Nat) : Int))))]) (yl_val (by rfl) _ rfl _ 0 rfl _ _ _ (fun _ h => by subst h; exact ⟨cell_heap G4 0, cell_heap G4 1, cell_heap G4 2⟩)) ?_
      simp only [Act.put, lzA, lzB, lzC]
      refine wt_putVa (o := ⟨_, _, _, _, _, _⟩) rfl _ _ rfl _ rfl ((2, 0, (bs (([126]) ++ (Lib.itoa ((k : Nat) : Int)))))) rfl G2 rfl (fun v7 X kg => ?_)
      simp only [Act.put, lzA, lzB, lzC]
      replace D := gr_new D ge_g2 kg
      replace HE := Env.gr HE kg six_g2
      replace G1 := heap_gr G1 kg n_g1_g2
      replace G4 := heap_gr G4 kg (Ne.symm n_g2_g4)
      clear kg
      replace G2 : v7.heap[g2]? = some (.cells #[.int .i64 2, .int .i64 0, .string (bs (([126]) ++ (Lib.itoa ((k : Nat) : Int))))] 24 (0, 0)) := X
      clear X
      refine wl_yield (o := ⟨_, _, _, _, _, _⟩) (.bool true) (yl_assign (by rfl) _ rfl _ rfl) ?_
      simp only [Act.put, lzA, lzB, lzC]
      refine wpList_nil ?_
      refine hK10 _ _ ?_
      clear hK10 K10
      refine wp_ret ?_
      try simp only [Exit.inBlock, Exit.then]
      refine bodyPost_ret (results_cs rfl _ _ g2 _ (.bool true) rfl rfl (run_loadVar_row _ _ _ _ _ _ _ G2 Tryz.underlying24 rfl (by rw [infoV]; rfl))) rfl ?_
      have hx : IsFresh S.strs k := ⟨fun h => (by rw [inStrs_mem.2 h] at hc; cases hc), hm⟩
      have e : freshC S.strs = k := (freshC_is S.strs).1.uniq hx
      rw [e, ← try_bs]
      exact ⟨rfl, below_none D⟩
    · refine wp_skip ?_
      refine hK6 _ _ ?_
      clear hK6 K6
      refine wp_region_lit ?_
      refine wl_yield (o := ⟨_, _, _, _, _, _⟩) (.int .i64 (k + 1 : Nat)) (yt_addI (by rfl) _ _ _ rfl ((k : Nat) : Int) 1 ((k + 1 : Nat) : Int) rfl rfl (by omega) (by omega) (by omega)) ?_
      simp only [Act.put, lzA, lzB, lzC]
      refine wl_yield (o := ⟨_, _, _, _, _, _⟩) (.int .i64 (k + 1 : Nat)) (yl_move (by rfl) _ rfl _ rfl) ?_
      simp only [Act.put, lzA, lzB, lzC]
      refine wpList_nil ?_
      show _ ∧ _
      go_roundw
      case rel => exact ⟨k + 1, rfl, by omega, fun m h1 => by
          by_cases e : m = k
          · subst e; exact inStrs_mem.1 (by simpa using hc)
          · exact hm m (by omega), G1, G2, HE, D⟩
      case measure => simp [intOf]; omega
set_option maxHeartbeats 4000000 in
set_option maxRecDepth 100000 in
theorem sample_any (v : Value) (S : SetV) (w : World) (HE : Env w) (hv : SetAt w v S) (hfit : rightSet S = true → Fit S) :
    Calls Tryz.prog 15 #[v] w fun r w' => r = .returned (.tuple #[vVal ((sampleV S).getD (0, 0, ⟨#[]⟩)), .bool (sampleV S).isSome]) ∧ Below w.heap.size w w' := by
  have w6 : 2 ≤ w.heap.size := HE.big
  obtain ⟨ai, ci, az, cz, rfl, hI, hT⟩ := sc_open hv
  have hl1 := hI.2.1
  have hl2 := hT.2.1
  have D : w.grownBy w none := grown_refl _ _
  go_enter Tryz.func15, Tryz.ntmps15
  refine wp_seq_k (fun K1 hK1 => ?_)
  refine wp_region_lit ?_
  refine wt_boxSt (o := ⟨_, _, _, _, _, _⟩) (by rfl) _ rfl (⟨S.absent, ai, S.ints.length, ci, S.co, az, S.strs.length, cz⟩) rfl (fun v1 g1 hg G1 kb => ?_)
  simp only [Act.put, lzA, lzB, lzC]
  have ge_g1 : w.heap.size ≤ g1 := Nat.le_trans D.size hg
  have six_g1 : 2 ≤ g1 := Nat.le_trans w6 ge_g1
  clear hg
  replace D := grown_below D kb
  replace HE := HE.on kb
  clear kb
  replace G1 : v1.heap[g1]? = some (.cells #[.bool (S.absent), .slice ai S.ints.length ci, .bool (S.co), .slice az S.strs.length cz] 43 (0, 0)) := G1
  refine wt_allocVa (o := ⟨_, _, _, _, _, _⟩) (by rfl) rfl (fun v2 g2 hg G2 kb => ?_)
  simp only [Act.put, lzA, lzB, lzC]
  have n_g1_g2 : g1 ≠ g2 := by have := lt_heap G1; omega
  have ge_g2 : w.heap.size ≤ g2 := Nat.le_trans D.size hg
  have six_g2 : 2 ≤ g2 := Nat.le_trans w6 ge_g2
  clear hg
  replace D := grown_below D kb
  replace HE := HE.on kb
  replace G1 := heap_on G1 kb
  clear kb
  replace G2 : v2.heap[g2]? = some (.cells #[.int .i64 0, .int .i64 0, .string (bs ([]))] 24 (0, 0)) := G2
  refine wl_yield (o := ⟨_, _, _, _, _, _⟩) (.bool false) (yl_assign (by rfl) _ rfl _ rfl) ?_
  simp only [Act.put, lzA, lzB, lzC]
  refine wpList_nil ?_
  refine hK1 _ _ ?_
  clear hK1 K1
  refine wp_seq_k (fun K2 hK2 => ?_)
  refine wp_block ?_
  refine wp_seq_k (fun K3 hK3 => ?_)
  refine wp_region_lit ?_
  refine wl_yield (o := ⟨_, _, _, _, _, _⟩) (.agg #[.bool (S.absent), .slice ai S.ints.length ci, .bool (S.co), .slice az S.strs.length cz]) (yl_set (by rfl) _ rfl _ 0 rfl _ _ _ _ (fun _ h => by subst h; exact ⟨cell_heap G1 0, cell_heap G1 1, cell_heap G1 2, cell_heap G1 3⟩)) ?_
  simp only [Act.put, lzA, lzB, lzC]
  cases hr : rightSet S
  · refine wt_call (o := ⟨_, _, _, _, _, _⟩) (by rfl) 33 _ _ rfl #[.agg #[.bool (S.absent), .slice ai S.ints.length ci, .bool (S.co), .slice az S.strs.length cz]] rfl (run_call Tryz.func33 (by kernel_rfl) (by kernel_rfl)) ?_
    refine (setRight_any _ S _ (show SetAt _ (SC.val ⟨S.absent, ai, S.ints.length, ci, S.co, az, S.strs.length, cz⟩) S from ⟨_, _, rfl, hI.on (below_none D), hT.on (below_none D)⟩)).mono ?_
    rintro r v3 (⟨rfl, kb⟩)
    · replace D := grown_below D kb
      replace HE := HE.on kb
      replace G1 := heap_on G1 kb
      replace G2 := heap_on G2 kb
      clear kb
      refine Or.inl ⟨.bool false, ret_bool hr, ?_⟩
      simp only [Act.put, lzA, lzB, lzC]
      refine wl_yield (o := ⟨_, _, _, _, _, _⟩) (.bool true) (yl_not (by rfl) _ _ rfl false rfl) ?_
      simp only [Act.put, lzA, lzB, lzC]
      refine wl_yield (o := ⟨_, _, _, _, _, _⟩) (.bool true) (yl_assign (by rfl) _ rfl _ rfl) ?_
      simp only [Act.put, lzA, lzB, lzC]
      refine wpList_nil ?_
      refine hK3 _ _ ?_
      clear hK3 K3
      refine wp_cond_true rfl ?_
      refine wp_seq_k (fun K4 hK4 => ?_)
      refine wp_region_lit ?_
      refine wl_yield (o := ⟨_, _, _, _, _, _⟩) (vVal ((0, 0, ⟨#[]⟩) : Va)) (yq_bV0 (by rfl) rfl) ?_
      simp only [Act.put, lzA, lzB, lzC]
      refine wt_putVa (o := ⟨_, _, _, _, _, _⟩) rfl _ _ rfl _ rfl (((0, 0, ⟨#[]⟩) : Va)) rfl G2 rfl (fun v4 X kg => ?_)
      simp only [Act.put, lzA, lzB, lzC]
      replace D := gr_new D ge_g2 kg
      replace HE := Env.gr HE kg six_g2
      replace G1 := heap_gr G1 kg n_g1_g2
      clear kg
      replace G2 : v4.heap[g2]? = some (.cells #[.int .i64 (((0, 0, ⟨#[]⟩) : Va).1), .int .i64 (((0, 0, ⟨#[]⟩) : Va).2.1), .string ((0, 0, ⟨#[]⟩) : Va).2.2] 24 (0, 0)) := X
      clear X
      refine wl_yield (o := ⟨_, _, _, _, _, _⟩) (.bool false) (yl_assign (by rfl) _ rfl _ rfl) ?_
      simp only [Act.put, lzA, lzB, lzC]
      refine wpList_nil ?_
      refine hK4 _ _ ?_
      clear hK4 K4
      refine wp_ret ?_
      try simp only [Exit.inBlock, Exit.then]
      refine bodyPost_ret (results_cs rfl _ _ g2 _ (.bool false) rfl rfl (run_loadVar_row _ _ _ _ _ _ _ G2 Tryz.underlying24 rfl (by rw [infoV]; rfl))) rfl ?_
      have e : sampleV S = none := by
        unfold sampleV
        rw [if_neg (by rw [hr]; decide)]
        all_goals rfl
      rw [e]
      exact ⟨rfl, below_none D⟩
  · have hf := hfit hr
    refine wt_call (o := ⟨_, _, _, _, _, _⟩) (by rfl) 33 _ _ rfl #[.agg #[.bool (S.absent), .slice ai S.ints.length ci, .bool (S.co), .slice az S.strs.length cz]] rfl (run_call Tryz.func33 (by kernel_rfl) (by kernel_rfl)) ?_
    refine (setRight_any _ S _ (show SetAt _ (SC.val ⟨S.absent, ai, S.ints.length, ci, S.co, az, S.strs.length, cz⟩) S from ⟨_, _, rfl, hI.on (below_none D), hT.on (below_none D)⟩)).mono ?_
    rintro r v3 (⟨rfl, kb⟩)
    · replace D := grown_below D kb
      replace HE := HE.on kb
      replace G1 := heap_on G1 kb
      replace G2 := heap_on G2 kb
      clear kb
      refine Or.inl ⟨.bool true, ret_bool hr, ?_⟩
      simp only [Act.put, lzA, lzB, lzC]
      refine wl_yield (o := ⟨_, _, _, _, _, _⟩) (.bool false) (yl_not (by rfl) _ _ rfl true rfl) ?_
      simp only [Act.put, lzA, lzB, lzC]
      refine wl_yield (o := ⟨_, _, _, _, _, _⟩) (.bool false) (yl_assign (by rfl) _ rfl _ rfl) ?_
      simp only [Act.put, lzA, lzB, lzC]
      refine wpList_nil ?_
      refine hK3 _ _ ?_
      clear hK3 K3
      refine wp_cond_false rfl ?_
      refine wp_seq_k (fun K4 hK4 => ?_)
      refine wp_region_lit ?_
      refine wl_yield (o := ⟨_, _, _, _, _, _⟩) (.pointer (some ⟨g1, 0, none⟩)) (yt_fSt0 (by rfl) _ rfl g1 0 rfl) ?_
      simp only [Act.put, lzA, lzB, lzC]
      refine wl_yield (o := ⟨_, _, _, _, _, _⟩) (.bool (S.absent)) (yt_ldB (by rfl) _ rfl _ _ rfl S.absent (fun _ h => by subst h; exact cell_heap G1 0)) ?_
      simp only [Act.put, lzA, lzB, lzC]
      refine wl_yield (o := ⟨_, _, _, _, _, _⟩) (.bool (S.absent)) (yl_assign (by rfl) _ rfl _ rfl) ?_
      simp only [Act.put, lzA, lzB, lzC]
      refine wpList_nil ?_
      refine hK4 _ _ ?_
      clear hK4 K4
      refine wp_cond_split (t := S.absent) rfl (fun hc => ?_) (fun hc => ?_)
      · have hc3 := hc
        clear hc
        refine wp_seq_k (fun K5 hK5 => ?_)
        refine wp_region_lit ?_
        refine wl_yield (o := ⟨_, _, _, _, _, _⟩) (.agg #[.int .i64 0, .int .i64 0, .string ⟨#[]⟩]) (yq_bV1 (by rfl) _ rfl 0 rfl) ?_
        simp only [Act.put, lzA, lzB, lzC]
        refine wt_putVa (o := ⟨_, _, _, _, _, _⟩) rfl _ _ rfl _ rfl ((0, 0, ⟨#[]⟩)) rfl G2 rfl (fun v4 X kg => ?_)
        simp only [Act.put, lzA, lzB, lzC]
        replace D := gr_new D ge_g2 kg
        replace HE := Env.gr HE kg six_g2
        replace G1 := heap_gr G1 kg n_g1_g2
        clear kg
        replace G2 : v4.heap[g2]? = some (.cells #[.int .i64 0, .int .i64 0, .string ⟨#[]⟩] 24 (0, 0)) := X
        clear X
        refine wl_yield (o := ⟨_, _, _, _, _, _⟩) (.bool true) (yl_assign (by rfl) _ rfl _ rfl) ?_
        simp only [Act.put, lzA, lzB, lzC]
        refine wpList_nil ?_
        refine hK5 _ _ ?_
        clear hK5 K5
        refine wp_ret ?_
        try simp only [Exit.inBlock, Exit.then]
        refine bodyPost_ret (results_cs rfl _ _ g2 _ (.bool true) rfl rfl (run_loadVar_row _ _ _ _ _ _ _ G2 Tryz.underlying24 rfl (by rw [infoV]; rfl))) rfl ?_
        have e : sampleV S = some (0, 0, ⟨#[]⟩) := by
          unfold sampleV
          rw [if_pos hr, if_pos hc3]
          all_goals rfl
        rw [e]
        exact ⟨rfl, below_none D⟩
      · have hc3 := hc
        clear hc
        refine wp_seq_k (fun K5 hK5 => ?_)
        refine wp_region_lit ?_
        refine wl_yield (o := ⟨_, _, _, _, _, _⟩) (.pointer (some ⟨g1, 1, none⟩)) (yt_fSt1 (by rfl) _ rfl g1 0 rfl) ?_
        simp only [Act.put, lzA, lzB, lzC]
        refine wl_yield (o := ⟨_, _, _, _, _, _⟩) (.slice ai S.ints.length ci) (yt_ldLr (by rfl) _ rfl _ _ rfl ai S.ints.length ci (fun _ h => by subst h; exact cell_heap G1 1)) ?_
        simp only [Act.put, lzA, lzB, lzC]
        refine wl_yield (o := ⟨_, _, _, _, _, _⟩) (.int .i64 (S.ints.length : Nat)) (yt_lenR (by rfl) _ rfl ai S.ints.length ci rfl) ?_
        simp only [Act.put, lzA, lzB, lzC]
        refine wl_yield (o := ⟨_, _, _, _, _, _⟩) (.bool (decide ((S.ints.length : Int) > 0))) (yt_gtrI (by rfl) _ _ _ rfl ((S.ints.length : Nat) : Int) 0 (decide ((S.ints.length : Int) > 0)) rfl rfl (rfl)) ?_
        simp only [Act.put, lzA, lzB, lzC]
        refine wl_yield (o := ⟨_, _, _, _, _, _⟩) (.bool (decide ((S.ints.length : Int) > 0))) (yl_assign (by rfl) _ rfl _ rfl) ?_
        simp only [Act.put, lzA, lzB, lzC]
        refine wpList_nil ?_
        refine hK5 _ _ ?_
        clear hK5 K5
        refine wp_cond_split (t := (decide ((S.ints.length : Int) > 0))) rfl (fun hc => ?_) (fun hc => ?_)
        · have hc5 := hc
          clear hc
          have h0 : 0 < S.ints.length := by have := of_decide_eq_true hc5; omega
          obtain ⟨gI, oI, rfl, hg1, C0, C1⟩ := hI.at.2 0 h0
          have cellD := fun (W : World) (D : w.grownBy W none) (j : Nat) => (below_none D).cell (p := ⟨gI, j, none⟩) hg1
          refine wp_seq_k (fun K6 hK6 => ?_)
          refine wp_region_lit ?_
          refine wl_yield (o := ⟨_, _, _, _, _, _⟩) (.pointer (some ⟨g1, 1, none⟩)) (yt_fSt1 (by rfl) _ rfl g1 0 rfl) ?_
          simp only [Act.put, lzA, lzB, lzC]
          refine wl_yield (o := ⟨_, _, _, _, _, _⟩) (.slice (some ⟨gI, oI, none⟩) S.ints.length ci) (yt_ldLr (by rfl) _ rfl _ _ rfl (some ⟨gI, oI, none⟩) S.ints.length ci (fun _ h => by subst h; exact cell_heap G1 1)) ?_
          simp only [Act.put, lzA, lzB, lzC]
          refine wl_yield (o := ⟨_, _, _, _, _, _⟩) (.pointer (some ⟨gI, oI + 0 * 2, none⟩)) (yt_atR (by rfl) _ _ rfl gI oI _ _ 0 rfl rfl (h0)) ?_
          simp only [Act.put, lzA, lzB, lzC]
          refine wl_yield (o := ⟨_, _, _, _, _, _⟩) (.pointer (some ⟨gI, oI + 0 * 2 + 0, none⟩)) (yt_fRg0 (by rfl) _ rfl gI (oI + 0 * 2) rfl) ?_
          simp only [Act.put, lzA, lzB, lzC]
          refine wl_yield (o := ⟨_, _, _, _, _, _⟩) (.int .i64 ((S.ints.getD 0 (0, 0)).1)) (yt_ldI (by rfl) _ rfl _ _ rfl _ (fun _ h => by subst h; exact (cellD _ D _).trans C0)) ?_
          simp only [Act.put, lzA, lzB, lzC]
          refine wl_yield (o := ⟨_, _, _, _, _, _⟩) (.agg #[.int .i64 1, .int .i64 ((S.ints.getD 0 (0, 0)).1), .string ⟨#[]⟩]) (yq_bV2 (by rfl) _ _ rfl 1 (S.ints.getD 0 (0, 0)).1 rfl rfl) ?_
          simp only [Act.put, lzA, lzB, lzC]
          refine wt_putVa (o := ⟨_, _, _, _, _, _⟩) rfl _ _ rfl _ rfl ((1, (S.ints.getD 0 (0, 0)).1, ⟨#[]⟩)) rfl G2 rfl (fun v4 X kg => ?_)
          simp only [Act.put, lzA, lzB, lzC]
          replace D := gr_new D ge_g2 kg
          replace HE := Env.gr HE kg six_g2
          replace G1 := heap_gr G1 kg n_g1_g2
          clear kg
          replace G2 : v4.heap[g2]? = some (.cells #[.int .i64 1, .int .i64 ((S.ints.getD 0 (0, 0)).1), .string ⟨#[]⟩] 24 (0, 0)) := X
          clear X
          refine wl_yield (o := ⟨_, _, _, _, _, _⟩) (.bool true) (yl_assign (by rfl) _ rfl _ rfl) ?_
          simp only [Act.put, lzA, lzB, lzC]
          refine wpList_nil ?_
          refine hK6 _ _ ?_
          clear hK6 K6
          refine wp_ret ?_
          try simp only [Exit.inBlock, Exit.then]
          refine bodyPost_ret (results_cs rfl _ _ g2 _ (.bool true) rfl rfl (run_loadVar_row _ _ _ _ _ _ _ G2 Tryz.underlying24 rfl (by rw [infoV]; rfl))) rfl ?_
          have e : sampleV S = some (1, (S.ints.getD 0 (0, 0)).1, ⟨#[]⟩) := by
            unfold sampleV
            rw [if_pos hr, if_neg (by rw [hc3]; decide), if_pos h0]
            all_goals rfl
          rw [e]
          exact ⟨rfl, below_none D⟩
        · have hc5 := hc
          clear hc
          refine wp_seq_k (fun K6 hK6 => ?_)
          refine wp_region_lit ?_
          refine wl_yield (o := ⟨_, _, _, _, _, _⟩) (.pointer (some ⟨g1, 2, none⟩)) (yt_fSt2 (by rfl) _ rfl g1 0 rfl) ?_
          simp only [Act.put, lzA, lzB, lzC]
          refine wl_yield (o := ⟨_, _, _, _, _, _⟩) (.bool (S.co)) (yt_ldB (by rfl) _ rfl _ _ rfl S.co (fun _ h => by subst h; exact cell_heap G1 2)) ?_
          simp only [Act.put, lzA, lzB, lzC]
          refine wl_yield (o := ⟨_, _, _, _, _, _⟩) (.bool (S.co)) (yl_assign (by rfl) _ rfl _ rfl) ?_
          simp only [Act.put, lzA, lzB, lzC]
          refine wpList_nil ?_
          refine hK6 _ _ ?_
          clear hK6 K6
          refine wp_cond_split (t := S.co) rfl (fun hc => ?_) (fun hc => ?_)
          · have hc7 := hc
            clear hc
            refine wp_seq_k (fun K7 hK7 => ?_)
            refine wp_region_lit ?_
            refine wl_yield (o := ⟨_, _, _, _, _, _⟩) (.agg #[.bool (S.absent), .slice ai S.ints.length ci, .bool (S.co), .slice az S.strs.length cz]) (yl_set (by rfl) _ rfl _ 0 rfl _ _ _ _ (fun _ h => by subst h; exact ⟨cell_heap G1 0, cell_heap G1 1, cell_heap G1 2, cell_heap G1 3⟩)) ?_
            simp only [Act.put, lzA, lzB, lzC]
            refine wt_call (o := ⟨_, _, _, _, _, _⟩) (by rfl) 34 _ _ rfl #[.agg #[.bool (S.absent), .slice ai S.ints.length ci, .bool (S.co), .slice az S.strs.length cz]] rfl (run_call Tryz.func34 (by kernel_rfl) (by kernel_rfl)) ?_
            refine (unnamed_any _ S _ HE (show SetAt _ (SC.val ⟨S.absent, ai, S.ints.length, ci, S.co, az, S.strs.length, cz⟩) S from ⟨_, _, rfl, hI.on (below_none D), hT.on (below_none D)⟩) hf hc7).mono ?_
            rintro r v4 ⟨rfl, kb⟩
            replace D := grown_below D kb
            replace HE := HE.on kb
            replace G1 := heap_on G1 kb
            replace G2 := heap_on G2 kb
            clear kb
            refine Or.inl ⟨.tuple #[vVal ((2, 0, tryS tilde (freshC S.strs)) : Va), .bool true], rfl, ?_⟩
            simp only [Act.put, lzA, lzB, lzC]
            refine wl_yield (o := ⟨_, _, _, _, _, _⟩) (vVal ((2, 0, tryS tilde (freshC S.strs)) : Va)) (yl_extract0 (by rfl) _ rfl _ _ rfl) ?_
            simp only [Act.put, lzA, lzB, lzC]
            refine wl_yield (o := ⟨_, _, _, _, _, _⟩) (.bool true) (yl_extract1 (by rfl) _ rfl _ _ rfl) ?_
            simp only [Act.put, lzA, lzB, lzC]
            refine wt_putVa (o := ⟨_, _, _, _, _, _⟩) rfl _ _ rfl _ rfl (((2, 0, tryS tilde (freshC S.strs)) : Va)) rfl G2 rfl (fun v5 X kg => ?_)
            simp only [Act.put, lzA, lzB, lzC]
            replace D := gr_new D ge_g2 kg
            replace HE := Env.gr HE kg six_g2
            replace G1 := heap_gr G1 kg n_g1_g2
            clear kg
            replace G2 : v5.heap[g2]? = some (.cells #[.int .i64 (((2, 0, tryS tilde (freshC S.strs)) : Va).1), .int .i64 (((2, 0, tryS tilde (freshC S.strs)) : Va).2.1), .string ((2, 0, tryS tilde (freshC S.strs)) : Va).2.2] 24 (0, 0)) := X
            clear X
            refine wl_yield (o := ⟨_, _, _, _, _, _⟩) (.bool true) (yl_assign (by rfl) _ rfl _ rfl) ?_
            simp only [Act.put, lzA, lzB, lzC]
            refine wpList_nil ?_
            refine hK7 _ _ ?_
            clear hK7 K7
            refine wp_ret ?_
            try simp only [Exit.inBlock, Exit.then]
            refine bodyPost_ret (results_cs rfl _ _ g2 _ (.bool true) rfl rfl (run_loadVar_row _ _ _ _ _ _ _ G2 Tryz.underlying24 rfl (by rw [infoV]; rfl))) rfl ?_
            have e : sampleV S = some (((2, 0, tryS tilde (freshC S.strs)) : Va).1, ((2, 0, tryS tilde (freshC S.strs)) : Va).2.1, ((2, 0, tryS tilde (freshC S.strs)) : Va).2.2) := by
              unfold sampleV
              rw [if_pos hr, if_neg (by rw [hc3]; decide), if_neg (by have := of_decide_eq_false hc5; omega), if_pos hc7]
              all_goals rfl
            rw [e]
            exact ⟨rfl, below_none D⟩
          · have hc7 := hc
            clear hc
            refine wp_seq_k (fun K7 hK7 => ?_)
            refine wp_region_lit ?_
            refine wl_yield (o := ⟨_, _, _, _, _, _⟩) (.pointer (some ⟨g1, 3, none⟩)) (yt_fSt3 (by rfl) _ rfl g1 0 rfl) ?_
            simp only [Act.put, lzA, lzB, lzC]
            refine wl_yield (o := ⟨_, _, _, _, _, _⟩) (.slice az S.strs.length cz) (yt_ldLs (by rfl) _ rfl _ _ rfl az S.strs.length cz (fun _ h => by subst h; exact cell_heap G1 3)) ?_
            simp only [Act.put, lzA, lzB, lzC]
            refine wl_yield (o := ⟨_, _, _, _, _, _⟩) (.int .i64 (S.strs.length : Nat)) (yt_lenT (by rfl) _ rfl az S.strs.length cz rfl) ?_
            simp only [Act.put, lzA, lzB, lzC]
            refine wl_yield (o := ⟨_, _, _, _, _, _⟩) (.bool (decide ((S.strs.length : Int) > 0))) (yt_gtrI (by rfl) _ _ _ rfl ((S.strs.length : Nat) : Int) 0 (decide ((S.strs.length : Int) > 0)) rfl rfl (rfl)) ?_
            simp only [Act.put, lzA, lzB, lzC]
            refine wl_yield (o := ⟨_, _, _, _, _, _⟩) (.bool (decide ((S.strs.length : Int) > 0))) (yl_assign (by rfl) _ rfl _ rfl) ?_
            simp only [Act.put, lzA, lzB, lzC]
            refine wpList_nil ?_
            refine hK7 _ _ ?_
            clear hK7 K7
            refine wp_cond_split (t := (decide ((S.strs.length : Int) > 0))) rfl (fun hc => ?_) (fun hc => ?_)
            · have hc9 := hc
              clear hc
              have h0 : 0 < S.strs.length := by have := of_decide_eq_true hc9; omega
              obtain ⟨gI, oI, rfl, hg1, C0⟩ := hT.at.2 0 h0
              have cellD := fun (W : World) (D : w.grownBy W none) (j : Nat) => (below_none D).cell (p := ⟨gI, j, none⟩) hg1
              refine wp_seq_k (fun K8 hK8 => ?_)
              refine wp_region_lit ?_
              refine wl_yield (o := ⟨_, _, _, _, _, _⟩) (.pointer (some ⟨g1, 3, none⟩)) (yt_fSt3 (by rfl) _ rfl g1 0 rfl) ?_
              simp only [Act.put, lzA, lzB, lzC]
              refine wl_yield (o := ⟨_, _, _, _, _, _⟩) (.slice (some ⟨gI, oI, none⟩) S.strs.length cz) (yt_ldLs (by rfl) _ rfl _ _ rfl (some ⟨gI, oI, none⟩) S.strs.length cz (fun _ h => by subst h; exact cell_heap G1 3)) ?_
              simp only [Act.put, lzA, lzB, lzC]
              refine wl_yield (o := ⟨_, _, _, _, _, _⟩) (.pointer (some ⟨gI, oI + 0 * 1, none⟩)) (yt_atT (by rfl) _ _ rfl gI oI _ _ 0 rfl rfl (h0)) ?_
              simp only [Act.put, lzA, lzB, lzC]
              refine wl_yield (o := ⟨_, _, _, _, _, _⟩) (.string (S.strs.getD 0 ⟨#[]⟩)) (yt_ldS (by rfl) _ rfl _ _ rfl _ (fun _ h => by subst h; exact (cellD _ D _).trans C0)) ?_
              simp only [Act.put, lzA, lzB, lzC]
              refine wl_yield (o := ⟨_, _, _, _, _, _⟩) (.agg #[.int .i64 2, .int .i64 0, .string (S.strs.getD 0 ⟨#[]⟩)]) (yq_bV3 (by rfl) _ _ rfl 2 (S.strs.getD 0 ⟨#[]⟩) rfl rfl) ?_
              simp only [Act.put, lzA, lzB, lzC]
              refine wt_putVa (o := ⟨_, _, _, _, _, _⟩) rfl _ _ rfl _ rfl ((2, 0, (S.strs.getD 0 ⟨#[]⟩))) rfl G2 rfl (fun v4 X kg => ?_)
              simp only [Act.put, lzA, lzB, lzC]
              replace D := gr_new D ge_g2 kg
              replace HE := Env.gr HE kg six_g2
              replace G1 := heap_gr G1 kg n_g1_g2
              clear kg
              replace G2 : v4.heap[g2]? = some (.cells #[.int .i64 2, .int .i64 0, .string (S.strs.getD 0 ⟨#[]⟩)] 24 (0, 0)) := X
              clear X
              refine wl_yield (o := ⟨_, _, _, _, _, _⟩) (.bool true) (yl_assign (by rfl) _ rfl _ rfl) ?_
              simp only [Act.put, lzA, lzB, lzC]
              refine wpList_nil ?_
              refine hK8 _ _ ?_
              clear hK8 K8
              refine wp_ret ?_
              try simp only [Exit.inBlock, Exit.then]
              refine bodyPost_ret (results_cs rfl _ _ g2 _ (.bool true) rfl rfl (run_loadVar_row _ _ _ _ _ _ _ G2 Tryz.underlying24 rfl (by rw [infoV]; rfl))) rfl ?_
              have e : sampleV S = some (2, 0, (S.strs.getD 0 ⟨#[]⟩)) := by
                unfold sampleV
                rw [if_pos hr, if_neg (by rw [hc3]; decide), if_neg (by have := of_decide_eq_false hc5; omega), if_neg (by rw [hc7]; decide), if_pos h0]
                all_goals rfl
              rw [e]
              exact ⟨rfl, below_none D⟩
            · have hc9 := hc
              clear hc
              refine wp_skip ?_
              refine hK2 _ _ ?_
              clear hK2 K2
              refine wp_seq_k (fun K8 hK8 => ?_)
              refine wp_region_lit ?_
              refine wl_yield (o := ⟨_, _, _, _, _, _⟩) (vVal ((0, 0, ⟨#[]⟩) : Va)) (yq_bV0 (by rfl) rfl) ?_
              simp only [Act.put, lzA, lzB, lzC]
              refine wt_putVa (o := ⟨_, _, _, _, _, _⟩) rfl _ _ rfl _ rfl (((0, 0, ⟨#[]⟩) : Va)) rfl G2 rfl (fun v4 X kg => ?_)
              simp only [Act.put, lzA, lzB, lzC]
              replace D := gr_new D ge_g2 kg
              replace HE := Env.gr HE kg six_g2
              replace G1 := heap_gr G1 kg n_g1_g2
              clear kg
              replace G2 : v4.heap[g2]? = some (.cells #[.int .i64 (((0, 0, ⟨#[]⟩) : Va).1), .int .i64 (((0, 0, ⟨#[]⟩) : Va).2.1), .string ((0, 0, ⟨#[]⟩) : Va).2.2] 24 (0, 0)) := X
              clear X
              refine wl_yield (o := ⟨_, _, _, _, _, _⟩) (.bool false) (yl_assign (by rfl) _ rfl _ rfl) ?_
              simp only [Act.put, lzA, lzB, lzC]
              refine wpList_nil ?_
              refine hK8 _ _ ?_
              clear hK8 K8
              refine wp_ret ?_
              try simp only [Exit.inBlock, Exit.then]
              refine bodyPost_ret (results_cs rfl _ _ g2 _ (.bool false) rfl rfl (run_loadVar_row _ _ _ _ _ _ _ G2 Tryz.underlying24 rfl (by rw [infoV]; rfl))) rfl ?_
              have e : sampleV S = none := by
                unfold sampleV
                rw [if_pos hr, if_neg (by rw [hc3]; decide), if_neg (by have := of_decide_eq_false hc5; omega), if_neg (by rw [hc7]; decide), if_neg (by have := of_decide_eq_false hc9; omega)]
                all_goals rfl
              rw [e]
              exact ⟨rfl, below_none D⟩
end Go.Proofs.YtbaijjclofekcaaGreatDoor
namespace Go.Proofs.YtbaijjclofekcaaGreatDoor
open Go.RowKit
set_option maxHeartbeats 4000000 in
set_option maxRecDepth 100000 in
theorem whichFn_any (v : Value) (S : SetV) (p : Va) (gv : Nat) (w : World) (hv : SetAt w v S) (HV : w.heap[gv]? = some (vObj p)) (hf : Fit S) (hs : p.2.2.size ≤ maxLen) :
    Calls Tryz.prog 29 #[v, .pointer (some ⟨gv, 0, none⟩)] w fun r w' => r = .returned (.bool (hasP S p)) ∧ Below w.heap.size w w' := by
  obtain ⟨ai, ci, az, cz, rfl, hI, hT⟩ := sc_open hv
  have D : w.grownBy w none := grown_refl _ _
  unfold vObj at HV
  go_enter Tryz.func29, Tryz.ntmps29
  refine wp_seq_k (fun K1 hK1 => ?_)
  refine wp_region_lit ?_
  refine wt_boxSt (o := ⟨_, _, _, _, _, _⟩) (by rfl) _ rfl (⟨S.absent, ai, S.ints.length, ci, S.co, az, S.strs.length, cz⟩) rfl (fun v1 g1 hg G1 kb => ?_)
  simp only [Act.put, lzA, lzB, lzC]
  have n_gv_g1 : gv ≠ g1 := by have := lt_heap HV; omega
  have ge_g1 : w.heap.size ≤ g1 := Nat.le_trans D.size hg
  clear hg
  replace D := grown_below D kb
  replace HV := heap_on HV kb
  clear kb
  replace G1 : v1.heap[g1]? = some (.cells #[.bool (S.absent), .slice ai S.ints.length ci, .bool (S.co), .slice az S.strs.length cz] 43 (0, 0)) := G1
  refine wl_yield (o := ⟨_, _, _, _, _, _⟩) (.bool false) (yl_assign (by rfl) _ rfl _ rfl) ?_
  simp only [Act.put, lzA, lzB, lzC]
  refine wpList_nil ?_
  refine hK1 _ _ ?_
  clear hK1 K1
  refine wp_seq_k (fun K2 hK2 => ?_)
  refine wp_region_lit ?_
  refine wl_yield (o := ⟨_, _, _, _, _, _⟩) (.agg #[.bool (S.absent), .slice ai S.ints.length ci, .bool (S.co), .slice az S.strs.length cz]) (yl_set (by rfl) _ rfl _ 0 rfl _ _ _ _ (fun _ h => by subst h; exact ⟨cell_heap G1 0, cell_heap G1 1, cell_heap G1 2, cell_heap G1 3⟩)) ?_
  simp only [Act.put, lzA, lzB, lzC]
  refine wl_yield (o := ⟨_, _, _, _, _, _⟩) (vVal p) (yl_val (by rfl) _ rfl _ 0 rfl _ _ _ (fun _ h => by subst h; exact ⟨cell_heap HV 0, cell_heap HV 1, cell_heap HV 2⟩)) ?_
  simp only [Act.put, lzA, lzB, lzC]
  refine wt_call (o := ⟨_, _, _, _, _, _⟩) (by rfl) 30 _ _ rfl #[.agg #[.bool (S.absent), .slice ai S.ints.length ci, .bool (S.co), .slice az S.strs.length cz], vVal p] rfl (run_call Tryz.func30 (by kernel_rfl) (by kernel_rfl)) ?_
  refine (cellHas_any _ S p _ (show SetAt _ (SC.val ⟨S.absent, ai, S.ints.length, ci, S.co, az, S.strs.length, cz⟩) S from ⟨_, _, rfl, hI.on (below_none D), hT.on (below_none D)⟩) hf hs).mono ?_
  rintro r v2 ⟨rfl, kb⟩
  replace D := grown_below D kb
  replace HV := heap_on HV kb
  replace G1 := heap_on G1 kb
  clear kb
  refine Or.inl ⟨.bool ((hasP S p)), rfl, ?_⟩
  simp only [Act.put, lzA, lzB, lzC]
  refine wl_yield (o := ⟨_, _, _, _, _, _⟩) (.bool ((hasP S p))) (yl_assign (by rfl) _ rfl _ rfl) ?_
  simp only [Act.put, lzA, lzB, lzC]
  refine wpList_nil ?_
  refine hK2 _ _ ?_
  clear hK2 K2
  refine wp_ret ?_
  try simp only [Exit.inBlock, Exit.then]
  go_ret
  exact ⟨rfl, below_none D⟩
set_option maxHeartbeats 4000000 in
set_option maxRecDepth 100000 in
theorem indexFunc_any (v : Value) (l : List SetV) (p : Va) (gv : Nat) (w : World) (hv : SetsAt w v l) (hfit : ∀ S ∈ l, Fit S) (HV : w.heap[gv]? = some (vObj p)) (hs : p.2.2.size ≤ maxLen) :
    Calls Tryz.prog 28 #[v, .func (.func 29) #[] #[.pointer (some ⟨gv, 0, none⟩)]] w fun r w' => r = .returned (.int .i64 (whichI l p)) ∧ Below w.heap.size w w' := by
  obtain ⟨a, cap, rfl, -⟩ := hv.2
  have hl64 := hv.1
  have D : w.grownBy w none := grown_refl _ _
  unfold vObj at HV
  go_enter Tryz.func28, Tryz.ntmps28
  refine wp_seq_k (fun K1 hK1 => ?_)
  refine wp_region_lit ?_
  refine wl_yield (o := ⟨_, _, _, _, _, _⟩) (.int .i64 0) (yl_assign (by rfl) _ rfl _ rfl) ?_
  simp only [Act.put, lzA, lzB, lzC]
  refine wpList_nil ?_
  refine hK1 _ _ ?_
  clear hK1 K1
  refine wp_seq_k (fun K2 hK2 => ?_)
  refine wp_seq_k (fun K3 hK3 => ?_)
  refine wp_region_lit ?_
  refine wl_yield (o := ⟨_, _, _, _, _, _⟩) (.slice a l.length cap) (yl_move (by rfl) _ rfl _ rfl) ?_
  simp only [Act.put, lzA, lzB, lzC]
  refine wl_yield (o := ⟨_, _, _, _, _, _⟩) (.int .i64 (l.length : Nat)) (yt_lenQ (by rfl) _ rfl a l.length cap rfl) ?_
  simp only [Act.put, lzA, lzB, lzC]
  refine wl_yield (o := ⟨_, _, _, _, _, _⟩) (.int .i64 0) (yl_move (by rfl) _ rfl _ rfl) ?_
  simp only [Act.put, lzA, lzB, lzC]
  refine wpList_nil ?_
  refine hK3 _ _ ?_
  clear hK3 K3
  refine wp_block ?_
  go_loopw [8] (fun i wr => ∃ (k : Nat), i = .int .i64 ((k : Nat) : Int) ∧ k ≤ l.length ∧ (∀ j, j < k → hasP (l.getD j noSet) p = false) ∧ wr.heap[gv]? = some (.cells #[.int .i64 (p.1), .int .i64 (p.2.1), .string p.2.2] 24 (0, 0)) ∧ w.grownBy wr none) (fun i _ => l.length - (intOf i).toNat)
  case atStart => exact ⟨0, rfl, Nat.zero_le _, fun j hj => absurd hj (Nat.not_lt_zero _), HV, D⟩
  case round =>
    clear D HV
    obtain ⟨k, rfl, hk, hno, HV, D⟩ := hrel
    by_cases hlt : k < l.length
    · obtain ⟨gI, oI, vi, vs, rfl, hg1, C0, C1, C2, C3, hI, hT⟩ := hv.at.2 k hlt
      have cellD := fun (W : World) (D : w.grownBy W none) (j : Nat) => (below_none D).cell (p := ⟨gI, j, none⟩) hg1
      obtain ⟨ai, ci, rfl⟩ := hI.form
      obtain ⟨az, cz, rfl⟩ := hT.form
      have hf := hfit _ (gD_mem (d := noSet) hlt)
      refine wp_seq_k (fun K4 hK4 => ?_)
      refine wp_region_lit ?_
      refine wl_yield (o := ⟨_, _, _, _, _, _⟩) (.bool true) (yt_lssI (by rfl) _ _ _ rfl ((k : Nat) : Int) ((l.length : Nat) : Int) true rfl rfl (decide_eq_true (by omega))) ?_
      simp only [Act.put, lzA, lzB, lzC]
      refine wpList_nil ?_
      refine hK4 _ _ ?_
      clear hK4 K4
      refine wp_seq_k (fun K5 hK5 => ?_)
      refine wp_cond_true rfl ?_
      refine wp_skip ?_
      refine hK5 _ _ ?_
      clear hK5 K5
      refine wp_seq_k (fun K6 hK6 => ?_)
      refine wp_block ?_
      refine wp_seq_k (fun K7 hK7 => ?_)
      refine wp_region_lit ?_
      refine wl_yield (o := ⟨_, _, _, _, _, _⟩) (.int .i64 (k : Nat)) (yl_move (by rfl) _ rfl _ rfl) ?_
      simp only [Act.put, lzA, lzB, lzC]
      refine wl_yield (o := ⟨_, _, _, _, _, _⟩) (.int .i64 (k : Nat)) (yl_assign (by rfl) _ rfl _ rfl) ?_
      simp only [Act.put, lzA, lzB, lzC]
      refine wpList_nil ?_
      refine hK7 _ _ ?_
      clear hK7 K7
      refine wp_seq_k (fun K8 hK8 => ?_)
      refine wp_region_lit ?_
      refine wl_yield (o := ⟨_, _, _, _, _, _⟩) (.func (.func 29) #[] #[.pointer (some ⟨gv, 0, none⟩)]) (yl_move (by rfl) _ rfl _ rfl) ?_
      simp only [Act.put, lzA, lzB, lzC]
      refine wl_yield (o := ⟨_, _, _, _, _, _⟩) (.slice (some ⟨gI, oI, none⟩) l.length cap) (yl_move (by rfl) _ rfl _ rfl) ?_
      simp only [Act.put, lzA, lzB, lzC]
      refine wl_yield (o := ⟨_, _, _, _, _, _⟩) (.int .i64 (k : Nat)) (yl_move (by rfl) _ rfl _ rfl) ?_
      simp only [Act.put, lzA, lzB, lzC]
      refine wl_yield (o := ⟨_, _, _, _, _, _⟩) (.pointer (some ⟨gI, oI + k * 4, none⟩)) (yt_atQ (by rfl) _ _ rfl gI oI _ _ k rfl rfl (hlt)) ?_
      simp only [Act.put, lzA, lzB, lzC]
      refine wl_yield (o := ⟨_, _, _, _, _, _⟩) (.agg #[.bool ((l.getD k noSet).absent), .slice ai (l.getD k noSet).ints.length ci, .bool ((l.getD k noSet).co), .slice az (l.getD k noSet).strs.length cz]) (yl_set (by rfl) _ rfl _ _ rfl _ _ _ _ (fun _ h => by subst h; exact ⟨(cellD _ D _).trans C0, (cellD _ D _).trans C1, (cellD _ D _).trans C2, (cellD _ D _).trans C3⟩)) ?_
      simp only [Act.put, lzA, lzB, lzC]
      refine wt_callv (o := ⟨_, _, _, _, _, _⟩) (by rfl) 29 _ _ _ rfl #[.pointer (some ⟨gv, 0, none⟩)] rfl #[.agg #[.bool ((l.getD k noSet).absent), .slice ai (l.getD k noSet).ints.length ci, .bool ((l.getD k noSet).co), .slice az (l.getD k noSet).strs.length cz]] rfl (run_call Tryz.func29 (by kernel_rfl) (by kernel_rfl)) ?_
      refine (whichFn_any _ (l.getD k noSet) p gv _ (show SetAt _ (SC.val ⟨(l.getD k noSet).absent, ai, (l.getD k noSet).ints.length, ci, (l.getD k noSet).co, az, (l.getD k noSet).strs.length, cz⟩) _ from ⟨_, _, rfl, hI.on (below_none D), hT.on (below_none D)⟩) HV hf hs).mono ?_
      rintro r v1 ⟨rfl, kb⟩
      replace D := grown_below D kb
      replace HV := heap_on HV kb
      clear kb
      refine Or.inl ⟨.bool ((hasP (l.getD k noSet) p)), rfl, ?_⟩
      simp only [Act.put, lzA, lzB, lzC]
      refine wpList_nil ?_
      refine hK8 _ _ ?_
      clear hK8 K8
      refine wp_cond_split (t := (hasP (l.getD k noSet) p)) rfl (fun hc => ?_) (fun hc => ?_)
      · refine wp_seq_k (fun K9 hK9 => ?_)
        refine wp_region_lit ?_
        refine wl_yield (o := ⟨_, _, _, _, _, _⟩) (.int .i64 (k : Nat)) (yl_move (by rfl) _ rfl _ rfl) ?_
        simp only [Act.put, lzA, lzB, lzC]
        refine wl_yield (o := ⟨_, _, _, _, _, _⟩) (.int .i64 (k : Nat)) (yl_assign (by rfl) _ rfl _ rfl) ?_
        simp only [Act.put, lzA, lzB, lzC]
        refine wpList_nil ?_
        refine hK9 _ _ ?_
        clear hK9 K9
        refine wp_ret ?_
        try simp only [Exit.inBlock, Exit.then]
        go_ret
        exact ⟨ret_int (which_uniq hlt hc hno).symm, below_none D⟩
      · refine wp_skip ?_
        refine hK6 _ _ ?_
        clear hK6 K6
        refine wp_region_lit ?_
        refine wl_yield (o := ⟨_, _, _, _, _, _⟩) (.int .i64 (k + 1 : Nat)) (yt_addI (by rfl) _ _ _ rfl ((k : Nat) : Int) 1 ((k + 1 : Nat) : Int) rfl rfl (by omega) (by omega) (by omega)) ?_
        simp only [Act.put, lzA, lzB, lzC]
        refine wl_yield (o := ⟨_, _, _, _, _, _⟩) (.int .i64 (k + 1 : Nat)) (yl_move (by rfl) _ rfl _ rfl) ?_
        simp only [Act.put, lzA, lzB, lzC]
        refine wpList_nil ?_
        show _ ∧ _
        go_roundw
        case rel => exact ⟨k + 1, rfl, by omega, fun j hj => by
            by_cases e : j = k
            · subst e; exact hc
            · exact hno j (by omega), HV, D⟩
        case measure => simp [intOf]; omega
    · obtain rfl : k = l.length := by omega
      refine wp_seq_k (fun K4 hK4 => ?_)
      refine wp_region_lit ?_
      refine wl_yield (o := ⟨_, _, _, _, _, _⟩) (.bool false) (yt_lssI (by rfl) _ _ _ rfl ((l.length : Nat) : Int) ((l.length : Nat) : Int) false rfl rfl (decide_eq_false (by omega))) ?_
      simp only [Act.put, lzA, lzB, lzC]
      refine wpList_nil ?_
      refine hK4 _ _ ?_
      clear hK4 K4
      refine wp_seq_k (fun K5 hK5 => ?_)
      refine wp_cond_false rfl ?_
      refine wp_exit ?_
      refine hK2 _ _ ?_
      clear hK5 K5 hK2 K2
      refine wp_seq_k (fun K6 hK6 => ?_)
      refine wp_region_lit ?_
      refine wl_yield (o := ⟨_, _, _, _, _, _⟩) (.int .i64 (-1)) (yl_assign (by rfl) _ rfl _ rfl) ?_
      simp only [Act.put, lzA, lzB, lzC]
      refine wpList_nil ?_
      refine hK6 _ _ ?_
      clear hK6 K6
      refine wp_ret ?_
      try simp only [Exit.inBlock, Exit.then]
      go_ret
      exact ⟨ret_int (which_none hno).symm, below_none D⟩
set_option maxHeartbeats 4000000 in
set_option maxRecDepth 100000 in
theorem which_any (v : Value) (l : List SetV) (p : Va) (w : World) (hv : SetsAt w v l) (hfit : ∀ S ∈ l, Fit S) (hs : p.2.2.size ≤ maxLen) :
    Calls Tryz.prog 10 #[v, vVal p] w fun r w' => r = .returned (.int .i64 (whichI l p)) ∧ Below w.heap.size w w' := by
  have D : w.grownBy w none := grown_refl _ _
  go_enter Tryz.func10, Tryz.ntmps10
  refine wp_seq_k (fun K1 hK1 => ?_)
  refine wp_region_lit ?_
  refine wt_boxVa (o := ⟨_, _, _, _, _, _⟩) (by rfl) _ rfl (p) rfl (fun v1 g1 hg G1 kb => ?_)
  simp only [Act.put, lzA, lzB, lzC]
  have ge_g1 : w.heap.size ≤ g1 := Nat.le_trans D.size hg
  clear hg
  replace D := grown_below D kb
  clear kb
  replace G1 : v1.heap[g1]? = some (.cells #[.int .i64 (p.1), .int .i64 (p.2.1), .string p.2.2] 24 (0, 0)) := G1
  refine wl_yield (o := ⟨_, _, _, _, _, _⟩) (.int .i64 0) (yl_assign (by rfl) _ rfl _ rfl) ?_
  simp only [Act.put, lzA, lzB, lzC]
  refine wpList_nil ?_
  refine hK1 _ _ ?_
  clear hK1 K1
  refine wp_seq_k (fun K2 hK2 => ?_)
  refine wp_region_lit ?_
  refine wl_yield (o := ⟨_, _, _, _, _, _⟩) (v) (yl_move (by rfl) _ rfl _ rfl) ?_
  simp only [Act.put, lzA, lzB, lzC]
  refine wl_yield (o := ⟨_, _, _, _, _, _⟩) (.func (.func 29) #[] #[.pointer (some ⟨g1, 0, none⟩)]) (yt_fn1 (by rfl) _ _ rfl _ rfl) ?_
  simp only [Act.put, lzA, lzB, lzC]
  refine wt_call (o := ⟨_, _, _, _, _, _⟩) (by rfl) 28 _ _ rfl #[v, .func (.func 29) #[] #[.pointer (some ⟨g1, 0, none⟩)]] rfl (run_call Tryz.func28 (by kernel_rfl) (by kernel_rfl)) ?_
  refine (indexFunc_any _ l p _ _ (hv.on (below_none D)) hfit G1 hs).mono ?_
  rintro r v2 ⟨rfl, kb⟩
  replace D := grown_below D kb
  replace G1 := heap_on G1 kb
  clear kb
  refine Or.inl ⟨.int .i64 ((whichI l p)), rfl, ?_⟩
  simp only [Act.put, lzA, lzB, lzC]
  refine wl_yield (o := ⟨_, _, _, _, _, _⟩) (.int .i64 ((whichI l p))) (yl_assign (by rfl) _ rfl _ rfl) ?_
  simp only [Act.put, lzA, lzB, lzC]
  refine wpList_nil ?_
  refine hK2 _ _ ?_
  clear hK2 K2
  refine wp_ret ?_
  try simp only [Exit.inBlock, Exit.then]
  go_ret
  exact ⟨rfl, below_none D⟩
end Go.Proofs.YtbaijjclofekcaaGreatDoor
namespace Go.Proofs.YtbaijjclofekcaaGreatDoor
open Go.RowKit
set_option maxHeartbeats 4000000 in
set_option maxRecDepth 100000 in
theorem lays_any (b gp m : Nat) (s c : Nat → Sl) (l : Nat → List SetV) (w : World) (G : GridIn w b 0 1 s c) (HP : w.heap[gp]? = some (.cells #[.pointer (some ⟨b, 0, none⟩)] 29 (0, 0))) (n_gp_b : gp ≠ b) (HS : ∀ j, j < 4 → SetsAt w (s j).val (l j)) (hf : ∀ j, j < 4 → FewC (l j)) (hbm : b < m) (hm : m ≤ w.heap.size) :
    Calls Tryz.prog 50 #[.pointer (some ⟨gp, 0, none⟩)] w fun r w' => r = .returned (.tuple #[]) ∧ (∃ c', GridIn w' b 0 1 (fun _ => sl0) c' ∧ (∀ j, j < 4 → CutAt m w' (c' j).val (l j)) ∧ w.grownBy w' (some b)) := by
  have D : w.grownBy w (some b) := grown_refl _ _
  go_enter Tryz.func50, Tryz.ntmps50
  refine wp_seq_k (fun K1 hK1 => ?_)
  refine wp_seq_k (fun K2 hK2 => ?_)
  refine wp_region_lit ?_
  refine wl_yield (o := ⟨_, _, _, _, _, _⟩) (.pointer (some ⟨b, 0, none⟩)) (yq_ldPg (by rfl) _ rfl _ 0 rfl (some ⟨b, 0, none⟩) (fun _ h => by subst h; exact cell_heap HP 0)) ?_
  simp only [Act.put, lzA, lzB, lzC]
  refine wl_yield (o := ⟨_, _, _, _, _, _⟩) (.pointer (some ⟨b, 0, none⟩)) (yt_nil (by rfl) _ rfl _ rfl) ?_
  simp only [Act.put, lzA, lzB, lzC]
  refine wl_yield (o := ⟨_, _, _, _, _, _⟩) (.pointer (some ⟨b, 3, none⟩)) (yq_fG 1 (by decide) (by rfl) _ rfl b rfl) ?_
  simp only [Act.put, lzA, lzB, lzC]
  refine wl_yield (o := ⟨_, _, _, _, _, _⟩) (.agg #[(s 0).val, (s 1).val, (s 2).val, (s 3).val]) (yq_ld4 (by rfl) _ rfl _ 3 rfl _ _ _ _ (fun _ h => by subst h; exact ⟨cell_heap G 3, cell_heap G 4, cell_heap G 5, cell_heap G 6⟩)) ?_
  simp only [Act.put, lzA, lzB, lzC]
  refine wl_yield (o := ⟨_, _, _, _, _, _⟩) (.int .i64 0) (yl_move (by rfl) _ rfl _ rfl) ?_
  simp only [Act.put, lzA, lzB, lzC]
  refine wpList_nil ?_
  refine hK2 _ _ ?_
  clear hK2 K2
  refine wp_block ?_
  go_loopw [7] (fun i wr => ∃ (k : Nat) (c : Nat → Sl), i = .int .i64 ((k : Nat) : Int) ∧ k ≤ 4 ∧ GridIn wr b 0 1 s c ∧ (∀ j, j < k → CutAt m wr (c j).val (l j)) ∧ (∀ j, j < 4 → SetsAt wr (s j).val (l j)) ∧ wr.heap[gp]? = some (.cells #[.pointer (some ⟨b, 0, none⟩)] 29 (0, 0)) ∧ w.grownBy wr (some b)) (fun i _ => 4 - (intOf i).toNat)
  case atStart => exact ⟨0, c, rfl, Nat.zero_le _, G, fun j hj => absurd hj (Nat.not_lt_zero _), HS, HP, D⟩
  case round =>
    clear D G HS HP
    obtain ⟨k, c, rfl, hk, G, NC, HS, HP, D⟩ := hrel
    by_cases hlt : k < 4
    · refine wp_seq_k (fun K3 hK3 => ?_)
      refine wp_region_lit ?_
      refine wl_yield (o := ⟨_, _, _, _, _, _⟩) (.bool true) (yt_lssI (by rfl) _ _ _ rfl ((k : Nat) : Int) 4 true rfl rfl (decide_eq_true (by omega))) ?_
      simp only [Act.put, lzA, lzB, lzC]
      refine wpList_nil ?_
      refine hK3 _ _ ?_
      clear hK3 K3
      refine wp_seq_k (fun K4 hK4 => ?_)
      refine wp_cond_true rfl ?_
      refine wp_skip ?_
      refine hK4 _ _ ?_
      clear hK4 K4
      refine wp_seq_k (fun K5 hK5 => ?_)
      refine wp_block ?_
      refine wp_seq_k (fun K6 hK6 => ?_)
      refine wp_region_lit ?_
      refine wl_yield (o := ⟨_, _, _, _, _, _⟩) (.int .i64 (k : Nat)) (yl_move (by rfl) _ rfl _ rfl) ?_
      simp only [Act.put, lzA, lzB, lzC]
      refine wl_yield (o := ⟨_, _, _, _, _, _⟩) (Sl.val (s k)) (yq_ix4 (by rfl) _ _ rfl s k hlt rfl rfl) ?_
      simp only [Act.put, lzA, lzB, lzC]
      refine wl_yield (o := ⟨_, _, _, _, _, _⟩) (.int .i64 (k : Nat)) (yl_assign (by rfl) _ rfl _ rfl) ?_
      simp only [Act.put, lzA, lzB, lzC]
      refine wl_yield (o := ⟨_, _, _, _, _, _⟩) (Sl.val (s k)) (yl_assign (by rfl) _ rfl _ rfl) ?_
      simp only [Act.put, lzA, lzB, lzC]
      refine wpList_nil ?_
      refine hK6 _ _ ?_
      clear hK6 K6
      refine wp_region_late (S := fun w' => w'.heap[gp]? = some (.cells #[.pointer (some ⟨b, 0, none⟩)] 29 (0, 0))) (late := fun j => [7].contains j) (by kernel_rfl) ?_
      have kb : Below wr.heap.size wr wr.drew := (Below.refl _ wr).drew
      replace D := grown_below D kb
      replace HP := heap_on HP kb
      replace HS := fun j hj => (HS j hj).on kb
      replace G := G.on kb
      replace NC := fun j hj => (NC j hj).on kb
      clear kb
      generalize wr.drew = v1 at D HP HS G NC ⊢
      refine wpAnyL_load (i := 0) (oi := ⟨_, _, _, _, _, _⟩) (v := .pointer (some ⟨b, 0, none⟩)) rfl (by kernel_rfl) (by kernel_rfl) (by kernel_rfl) (by kernel_rfl) (fun _ _ _ h => h) (yq_ldPg (by rfl) _ rfl _ 0 rfl (some ⟨b, 0, none⟩) (fun _ h => cell_heap h 0)) HP ?_
      simp only [Act.put, lzA, lzB, lzC]
      refine wpAnyL_pure (i := 1) (oi := ⟨_, _, _, _, _, _⟩) (v := .int .i64 (k : Nat)) rfl (by kernel_rfl) (by kernel_rfl) (by kernel_rfl) (fun _ _ _ h => h) (yl_move (by rfl) _ rfl _ rfl) ?_
      simp only [Act.put, lzA, lzB, lzC]
      refine wpAnyL_pure (i := 2) (oi := ⟨_, _, _, _, _, _⟩) (v := Sl.val (s k)) rfl (by kernel_rfl) (by kernel_rfl) (by kernel_rfl) (fun _ _ _ h => h) (yl_move (by rfl) _ rfl _ rfl) ?_
      simp only [Act.put, lzA, lzB, lzC]
      refine wpAnyL_pure (i := 4) (oi := ⟨_, _, _, _, _, _⟩) (v := .pointer (some ⟨b, 0, none⟩)) rfl (by kernel_rfl) (by kernel_rfl) (by kernel_rfl) (fun _ _ _ h => h) (yt_nil (by rfl) _ rfl _ rfl) ?_
      simp only [Act.put, lzA, lzB, lzC]
      refine wpAnyL_pure (i := 5) (oi := ⟨_, _, _, _, _, _⟩) (v := .pointer (some ⟨b, 7, none⟩)) rfl (by kernel_rfl) (by kernel_rfl) (by kernel_rfl) (fun _ _ _ h => h) (yq_fG 2 (by decide) (by rfl) _ rfl b rfl) ?_
      simp only [Act.put, lzA, lzB, lzC]
      refine wpAnyL_all (rs := [3]) (by kernel_rfl) (by simp) ?_
      intro j hj
      have hj := List.mem_singleton.1 hj
      subst hj
      refine ot_call (o := ⟨_, _, _, _, _, _⟩) rfl (by rfl) 20 _ _ rfl #[Sl.val (s k)] rfl (run_call Tryz.func20 (by kernel_rfl) (by kernel_rfl)) ?_
      refine (cut_any _ (l k) _ (HS k hlt) (hf k hlt)).mono ?_
      rintro r v2 (⟨⟨u, rfl, hC⟩, kb⟩)
      have hm1 := Nat.le_trans hm D.size
      replace D := grown_below D kb
      replace HP := heap_on HP kb
      replace HS := fun j hj => (HS j hj).on kb
      replace G := G.on kb
      replace NC := fun j hj => (NC j hj).on kb
      clear kb
      replace hC := CutAt.mono hC hm1
      obtain ⟨uS, rfl, -⟩ := hC.form
      refine Or.inl ⟨Sl.val uS, rfl, ⟨fun _ _ => HP, ?_⟩⟩
      simp only [Act.put, lzA, lzB, lzC]
      refine wpAnyL_pure (i := 6) (oi := ⟨_, _, _, _, _, _⟩) (v := .pointer (some ⟨b, 7 + k, none⟩)) rfl (by kernel_rfl) (by kernel_rfl) (by kernel_rfl) (fun _ _ _ h => h) (yq_at4 (by rfl) _ _ rfl b 7 k rfl rfl hlt) ?_
      simp only [Act.put, lzA, lzB, lzC]
      refine wpAnyL_all (rs := [7]) (by kernel_rfl) (by simp) ?_
      intro j hj
      have hj := List.mem_singleton.1 hj
      subst hj
      refine ot_putGc (o := ⟨_, _, _, _, _, _⟩) rfl (by rfl) _ _ rfl b k hlt rfl uS rfl _ _ _ _ G (fun v3 X kg => ?_)
      replace D := grown_trans D kg
      replace HP := heap_gr HP kg n_gp_b
      replace HS := fun j hj => (HS j hj).gr G kg
      replace NC := fun j hj => (NC j hj).kept (kept_lt kg hbm)
      replace hC := hC.kept (kept_lt kg hbm)
      clear kg
      replace G := X
      clear X
      refine ⟨fun h => absurd h (by decide), ?_⟩
      simp only [Act.put, lzA, lzB, lzC]
      refine wpAnyL_done (by kernel_rfl) ?_ _
      refine hK5 _ _ ?_
      clear hK5 K5
      refine wp_region_lit ?_
      refine wl_yield (o := ⟨_, _, _, _, _, _⟩) (.int .i64 (k + 1 : Nat)) (yt_addI (by rfl) _ _ _ rfl ((k : Nat) : Int) 1 ((k + 1 : Nat) : Int) rfl rfl (by omega) (by omega) (by omega)) ?_
      simp only [Act.put, lzA, lzB, lzC]
      refine wl_yield (o := ⟨_, _, _, _, _, _⟩) (.int .i64 (k + 1 : Nat)) (yl_move (by rfl) _ rfl _ rfl) ?_
      simp only [Act.put, lzA, lzB, lzC]
      refine wpList_nil ?_
      show _ ∧ _
      go_roundw
      case rel => exact ⟨k + 1, fun j => if j = k then uS else c j, rfl, by omega, G, fun j hj => by
          by_cases e : j = k
          · subst e; simp only [if_pos rfl]; exact hC
          · simp only [if_neg e]; exact NC j (by omega), HS, HP, D⟩
      case measure => simp [intOf]; omega
    · obtain rfl : k = 4 := by omega
      refine wp_seq_k (fun K3 hK3 => ?_)
      refine wp_region_lit ?_
      refine wl_yield (o := ⟨_, _, _, _, _, _⟩) (.bool false) (yt_lssI (by rfl) _ _ _ rfl ((4 : Nat) : Int) 4 false rfl rfl (decide_eq_false (by omega))) ?_
      simp only [Act.put, lzA, lzB, lzC]
      refine wpList_nil ?_
      refine hK3 _ _ ?_
      clear hK3 K3
      refine wp_seq_k (fun K4 hK4 => ?_)
      refine wp_cond_false rfl ?_
      refine wp_exit ?_
      refine hK1 _ _ ?_
      clear hK4 K4 hK1 K1
      refine wp_region_lit ?_
      refine wl_yield (o := ⟨_, _, _, _, _, _⟩) (.pointer (some ⟨b, 0, none⟩)) (yq_ldPg (by rfl) _ rfl _ 0 rfl (some ⟨b, 0, none⟩) (fun _ h => by subst h; exact cell_heap HP 0)) ?_
      simp only [Act.put, lzA, lzB, lzC]
      refine wl_yield (o := ⟨_, _, _, _, _, _⟩) (.agg #[((fun _ => sl0) 0).val, ((fun _ => sl0) 1).val, ((fun _ => sl0) 2).val, ((fun _ => sl0) 3).val]) (yq_b4 (by rfl) rfl) ?_
      simp only [Act.put, lzA, lzB, lzC]
      refine wl_yield (o := ⟨_, _, _, _, _, _⟩) (.pointer (some ⟨b, 0, none⟩)) (yt_nil (by rfl) _ rfl _ rfl) ?_
      simp only [Act.put, lzA, lzB, lzC]
      refine wl_yield (o := ⟨_, _, _, _, _, _⟩) (.pointer (some ⟨b, 3, none⟩)) (yq_fG 1 (by decide) (by rfl) _ rfl b rfl) ?_
      simp only [Act.put, lzA, lzB, lzC]
      refine wq_putG4 (o := ⟨_, _, _, _, _, _⟩) (by rfl) _ _ rfl b rfl rfl _ _ _ _ G (fun v1 X kg => ?_)
      simp only [Act.put, lzA, lzB, lzC]
      replace D := grown_trans D kg
      replace HP := heap_gr HP kg n_gp_b
      replace NC := fun j hj => (NC j hj).kept (kept_lt kg hbm)
      clear kg
      replace G := X
      clear X HS
      refine wpList_nil ?_
      go_end0
      exact ⟨rfl, _, G, NC, D⟩
def GridM (M : Nat) (w : World) (b : Nat) (l : Nat → List SetV) : Prop := (∃ s c, GridIn w b 0 0 s c ∧ ∀ j, j < 4 → SetsAt w (s j).val (l j)) ∨ (∃ s c, GridIn w b 1 0 s c ∧ ∀ j, j < 4 → CutAt M w (c j).val (l j))
def GridOk (w : World) (b : Nat) (l : Nat → List SetV) : Prop := GridM (b + 1) w b l
def GridN (w : World) (b : Nat) (l : Nat → List SetV) : Prop := ∃ s c, GridIn w b 0 0 s c ∧ ∀ j, j < 4 → SetsAt w (s j).val (l j)
def GridL (M : Nat) (w : World) (b : Nat) (l : Nat → List SetV) : Prop := ∃ s c, GridIn w b 1 0 s c ∧ ∀ j, j < 4 → CutAt M w (c j).val (l j)
theorem GridM.on {M : Nat} {w w' : World} {b : Nat} {l : Nat → List SetV} (h : GridM M w b l) (hb : Below w.heap.size w w') : GridM M w' b l := by
  rcases h with ⟨s, c, h1, h2⟩ | ⟨s, c, h1, h2⟩
  · exact Or.inl ⟨s, c, h1.on hb, fun j hj => (h2 j hj).on hb⟩
  · exact Or.inr ⟨s, c, h1.on hb, fun j hj => (h2 j hj).on hb⟩
theorem GridM.lt {M : Nat} {w : World} {b : Nat} {l : Nat → List SetV} (h : GridM M w b l) : b < w.heap.size := by
  rcases h with ⟨s, c, h1, h2⟩ | ⟨s, c, h1, h2⟩ <;> exact h1.lt
theorem GridL.on {M : Nat} {w w' : World} {b : Nat} {l : Nat → List SetV} (h : GridL M w b l) (hb : Below w.heap.size w w') : GridL M w' b l := by
  obtain ⟨s, c, h1, h2⟩ := h
  exact ⟨s, c, h1.on hb, fun j hj => (h2 j hj).on hb⟩
theorem GridL.ok {M : Nat} {w : World} {b : Nat} {l : Nat → List SetV} (h : GridL M w b l) : GridM M w b l := Or.inr h
theorem GridN.ok {w : World} {b : Nat} {l : Nat → List SetV} (h : GridN w b l) (M : Nat) : GridM M w b l := Or.inl h
theorem GridN.on {w w' : World} {b : Nat} {l : Nat → List SetV} (h : GridN w b l) (hb : Below w.heap.size w w') : GridN w' b l := by
  obtain ⟨s, c, h1, h2⟩ := h
  exact ⟨s, c, h1.on hb, fun j hj => (h2 j hj).on hb⟩
theorem GridN.lt {w : World} {b : Nat} {l : Nat → List SetV} (h : GridN w b l) : b < w.heap.size := by
  obtain ⟨s, c, h1, h2⟩ := h
  exact h1.lt
theorem GridL.lt {M : Nat} {w : World} {b : Nat} {l : Nat → List SetV} (h : GridL M w b l) : b < w.heap.size := by
  obtain ⟨s, c, h1, h2⟩ := h
  exact h1.lt
theorem GridL.put {M : Nat} {w w' : World} {b g : Nat} {l : Nat → List SetV} (h : GridL M w b l) (k : w.grownBy w' (some g)) (hg : g < M) (hne : b ≠ g) : GridL M w' b l := by
  obtain ⟨s, c, h1, h2⟩ := h
  exact ⟨s, c, heap_gr h1 k hne, fun j hj => (h2 j hj).kept (kept_lt k hg)⟩
theorem GridOk.on {w w' : World} {b : Nat} {l : Nat → List SetV} (h : GridOk w b l) (hb : Below w.heap.size w w') : GridOk w' b l := by
  rcases h with ⟨s, c, h1, h2⟩ | ⟨s, c, h1, h2⟩
  · exact Or.inl ⟨s, c, h1.on hb, fun j hj => (h2 j hj).on hb⟩
  · exact Or.inr ⟨s, c, h1.on hb, fun j hj => (h2 j hj).on hb⟩
theorem GridOk.lt {w : World} {b : Nat} {l : Nat → List SetV} (h : GridOk w b l) : b < w.heap.size := by
  rcases h with ⟨s, c, h1, h2⟩ | ⟨s, c, h1, h2⟩ <;> exact h1.lt
theorem GridIn.drew {w : World} {b : Nat} {d m : Int} {s c : Nat → Sl} (h : GridIn w b d m s c) : GridIn w.drew b d m s c := h
set_option maxHeartbeats 4000000 in
set_option maxRecDepth 100000 in
theorem laid_first (M b : Nat) (s c : Nat → Sl) (l : Nat → List SetV) (w : World) (G : GridIn w b 0 0 s c) (HS : ∀ j, j < 4 → SetsAt w (s j).val (l j)) (hf : ∀ j, j < 4 → FewC (l j)) (hMw : M ≤ w.heap.size) :
    Calls Tryz.prog 27 #[.pointer (some ⟨b, 0, none⟩)] w fun r w' => (∃ c' : Nat → Sl, r = .returned (.agg #[(c' 0).val, (c' 1).val, (c' 2).val, (c' 3).val]) ∧ GridIn w' b 1 0 (fun _ => sl0) c' ∧ (∀ j, j < 4 → CutAt M w' (c' j).val (l j))) ∧ w.grownBy w' (some b) := by
  have D : w.grownBy w (some b) := grown_refl _ _
  go_enter Tryz.func27, Tryz.ntmps27
  refine wp_seq_k (fun K1 hK1 => ?_)
  refine wp_region_lit ?_
  refine wq_boxPg (o := ⟨_, _, _, _, _, _⟩) (by rfl) _ rfl (some ⟨b, 0, none⟩) rfl (fun v1 g1 hg G1 kb => ?_)
  simp only [Act.put, lzA, lzB, lzC]
  have n_g1_b : g1 ≠ b := by have := GridIn.lt G; omega
  have ge_g1 : w.heap.size ≤ g1 := Nat.le_trans D.size hg
  clear hg
  replace D := grown_below D kb
  replace HS := fun j hj => (HS j hj).on kb
  replace G := G.on kb
  clear kb
  refine wq_alloc4 (o := ⟨_, _, _, _, _, _⟩) (by rfl) rfl (fun v2 g2 hg G2 kb => ?_)
  simp only [Act.put, lzA, lzB, lzC]
  have n_g2_b : g2 ≠ b := by have := GridIn.lt G; omega
  have n_g1_g2 : g1 ≠ g2 := by have := lt_heap G1; omega
  have ge_g2 : w.heap.size ≤ g2 := Nat.le_trans D.size hg
  clear hg
  replace D := grown_below D kb
  replace HS := fun j hj => (HS j hj).on kb
  replace G := G.on kb
  replace G1 := heap_on G1 kb
  clear kb
  refine wpList_nil ?_
  refine hK1 _ _ ?_
  clear hK1 K1
  refine wp_seq_k (fun K2 hK2 => ?_)
  refine wp_seq_k (fun K3 hK3 => ?_)
  refine wp_region_lit ?_
  refine wl_yield (o := ⟨_, _, _, _, _, _⟩) (.pointer (some ⟨b, 0, none⟩)) (yq_ldPg (by rfl) _ rfl _ 0 rfl (some ⟨b, 0, none⟩) (fun _ h => by subst h; exact cell_heap G1 0)) ?_
  simp only [Act.put, lzA, lzB, lzC]
  refine wl_yield (o := ⟨_, _, _, _, _, _⟩) (.bool false) (yq_eqPg (by rfl) _ _ _ rfl (some ⟨b, 0, none⟩) rfl rfl) ?_
  simp only [Act.put, lzA, lzB, lzC]
  refine wpList_nil ?_
  refine hK3 _ _ ?_
  clear hK3 K3
  refine wp_cond_false rfl ?_
  refine wp_skip ?_
  refine hK2 _ _ ?_
  clear hK2 K2
  refine wp_seq_k (fun K4 hK4 => ?_)
  refine wp_region_lit ?_
  refine wl_yield (o := ⟨_, _, _, _, _, _⟩) (.pointer (some ⟨b, 0, none⟩)) (yq_ldPg (by rfl) _ rfl _ 0 rfl (some ⟨b, 0, none⟩) (fun _ h => by subst h; exact cell_heap G1 0)) ?_
  simp only [Act.put, lzA, lzB, lzC]
  refine wl_yield (o := ⟨_, _, _, _, _, _⟩) (.pointer (some ⟨b, 0, none⟩)) (yt_nil (by rfl) _ rfl _ rfl) ?_
  simp only [Act.put, lzA, lzB, lzC]
  refine wl_yield (o := ⟨_, _, _, _, _, _⟩) (.pointer (some ⟨b, 0, none⟩)) (yq_fG 0 (by decide) (by rfl) _ rfl b rfl) ?_
  simp only [Act.put, lzA, lzB, lzC]
  refine wl_yield (o := ⟨_, _, _, _, _, _⟩) (.func (.func 50) #[] #[.pointer (some ⟨g1, 0, none⟩)]) (yt_fn1 (by rfl) _ _ rfl _ rfl) ?_
  simp only [Act.put, lzA, lzB, lzC]
  refine wt_call (o := ⟨_, _, _, _, _, _⟩) (by rfl) 49 _ _ rfl #[.pointer (some ⟨b, 0, none⟩), .func (.func 50) #[] #[.pointer (some ⟨g1, 0, none⟩)]] rfl (run_call Tryz.func49 (by kernel_rfl) (by kernel_rfl)) ?_
  refine (do_gen b ⟨g1, 0, none⟩ s c _ _ G (lays_any b g1 v2.heap.size s c l _ (G.put1 1) (heap_gr G1 (grown_put _ b 1 _) n_g1_b) n_g1_b (fun j hj => (HS j hj).gr G (grown_put _ b 1 _)) hf (GridIn.lt G) (by simp)) (fun w' h => ⟨_, _, h.choose_spec.1⟩)).mono ?_
  rintro r v3 (⟨rfl, u9, hR9, hw9⟩)
  · obtain ⟨c', G', NC', kg'⟩ := hR9
    have kg : v2.grownBy v3 (some b) := by rw [hw9]; exact grown_trans (grown_trans (grown_put _ b 1 _) kg') (grown_trans (grown_drew (grown_refl _ _)) (grown_trans (grown_put _ b 0 _) (grown_put _ b 1 _)))
    have G9 : GridIn v3 b 1 0 (fun _ => sl0) c' := by rw [hw9]; exact (G'.drew.put0 1).put1 0
    have hbm := GridIn.lt G
    have NC : ∀ j, j < 4 → CutAt v2.heap.size v3 (c' j).val (l j) := fun j hj => by
      rw [hw9]
      exact (NC' j hj).kept (kept_lt (grown_trans (grown_drew (grown_refl _ _)) (grown_trans (grown_put _ b 0 _) (grown_put _ b 1 _))) hbm)
    have hm2 := lt_heap G2
    have hMV : M ≤ v2.heap.size := Nat.le_trans hMw D.size
    clear HS G' NC' kg' hw9
    replace D := grown_trans D kg
    replace G1 := heap_gr G1 kg n_g1_b
    replace G2 := heap_gr G2 kg n_g2_b
    clear kg
    replace G := G9
    clear G9
    refine Or.inl ⟨.tuple #[], rfl, ?_⟩
    simp only [Act.put, lzA, lzB, lzC]
    refine wpList_nil ?_
    refine hK4 _ _ ?_
    clear hK4 K4
    refine wp_seq_k (fun K5 hK5 => ?_)
    refine wp_region_lit ?_
    refine wl_yield (o := ⟨_, _, _, _, _, _⟩) (.pointer (some ⟨b, 0, none⟩)) (yq_ldPg (by rfl) _ rfl _ 0 rfl (some ⟨b, 0, none⟩) (fun _ h => by subst h; exact cell_heap G1 0)) ?_
    simp only [Act.put, lzA, lzB, lzC]
    refine wl_yield (o := ⟨_, _, _, _, _, _⟩) (.pointer (some ⟨b, 0, none⟩)) (yt_nil (by rfl) _ rfl _ rfl) ?_
    simp only [Act.put, lzA, lzB, lzC]
    refine wl_yield (o := ⟨_, _, _, _, _, _⟩) (.pointer (some ⟨b, 7, none⟩)) (yq_fG 2 (by decide) (by rfl) _ rfl b rfl) ?_
    simp only [Act.put, lzA, lzB, lzC]
    refine wl_yield (o := ⟨_, _, _, _, _, _⟩) (.agg #[(c' 0).val, (c' 1).val, (c' 2).val, (c' 3).val]) (yq_ld4 (by rfl) _ rfl _ 7 rfl _ _ _ _ (fun _ h => by subst h; exact ⟨cell_heap G 7, cell_heap G 8, cell_heap G 9, cell_heap G 10⟩)) ?_
    simp only [Act.put, lzA, lzB, lzC]
    refine wq_put4 (o := ⟨_, _, _, _, _, _⟩) (by rfl) _ _ rfl g2 rfl c' rfl G2 (fun v4 X kg => ?_)
    simp only [Act.put, lzA, lzB, lzC]
    replace D := gr_new D ge_g2 kg
    replace G := heap_gr G kg (Ne.symm n_g2_b)
    replace NC := fun j (hj : j < 4) => (NC j hj).kept (kept_lt kg hm2)
    refine wpList_nil ?_
    refine hK5 _ _ ?_
    clear hK5 K5
    refine wp_ret ?_
    try simp only [Exit.inBlock, Exit.then]
    refine bodyPost_ret (results_cell_row rfl _ _ g2 70 _ (0, 0) _ rfl X Tryz.underlying70 rfl infoQ4) rfl ⟨⟨c', rfl, G, fun j hj => (NC j hj).mono hMV⟩, D⟩
set_option maxHeartbeats 4000000 in
set_option maxRecDepth 100000 in
theorem laid_again (M b : Nat) (s c : Nat → Sl) (l : Nat → List SetV) (w : World) (G : GridIn w b 1 0 s c) (N0 : ∀ j, j < 4 → CutAt M w (c j).val (l j)) :
    Calls Tryz.prog 27 #[.pointer (some ⟨b, 0, none⟩)] w fun r w' => (∃ c' : Nat → Sl, r = .returned (.agg #[(c' 0).val, (c' 1).val, (c' 2).val, (c' 3).val]) ∧ GridIn w' b 1 0 s c' ∧ (∀ j, j < 4 → CutAt M w' (c' j).val (l j))) ∧ w.grownBy w' (some b) := by
  have D : w.grownBy w none := grown_refl _ _
  go_enter Tryz.func27, Tryz.ntmps27
  refine wp_seq_k (fun K1 hK1 => ?_)
  refine wp_region_lit ?_
  refine wq_boxPg (o := ⟨_, _, _, _, _, _⟩) (by rfl) _ rfl (some ⟨b, 0, none⟩) rfl (fun v1 g1 hg G1 kb => ?_)
  simp only [Act.put, lzA, lzB, lzC]
  have n_g1_b : g1 ≠ b := by have := GridIn.lt G; omega
  have ge_g1 : w.heap.size ≤ g1 := Nat.le_trans D.size hg
  clear hg
  replace D := grown_below D kb
  replace G := G.on kb
  clear kb
  refine wq_alloc4 (o := ⟨_, _, _, _, _, _⟩) (by rfl) rfl (fun v2 g2 hg G2 kb => ?_)
  simp only [Act.put, lzA, lzB, lzC]
  have n_g2_b : g2 ≠ b := by have := GridIn.lt G; omega
  have n_g1_g2 : g1 ≠ g2 := by have := lt_heap G1; omega
  have ge_g2 : w.heap.size ≤ g2 := Nat.le_trans D.size hg
  clear hg
  replace D := grown_below D kb
  replace G := G.on kb
  replace G1 := heap_on G1 kb
  clear kb
  refine wpList_nil ?_
  refine hK1 _ _ ?_
  clear hK1 K1
  refine wp_seq_k (fun K2 hK2 => ?_)
  refine wp_seq_k (fun K3 hK3 => ?_)
  refine wp_region_lit ?_
  refine wl_yield (o := ⟨_, _, _, _, _, _⟩) (.pointer (some ⟨b, 0, none⟩)) (yq_ldPg (by rfl) _ rfl _ 0 rfl (some ⟨b, 0, none⟩) (fun _ h => by subst h; exact cell_heap G1 0)) ?_
  simp only [Act.put, lzA, lzB, lzC]
  refine wl_yield (o := ⟨_, _, _, _, _, _⟩) (.bool false) (yq_eqPg (by rfl) _ _ _ rfl (some ⟨b, 0, none⟩) rfl rfl) ?_
  simp only [Act.put, lzA, lzB, lzC]
  refine wpList_nil ?_
  refine hK3 _ _ ?_
  clear hK3 K3
  refine wp_cond_false rfl ?_
  refine wp_skip ?_
  refine hK2 _ _ ?_
  clear hK2 K2
  refine wp_seq_k (fun K4 hK4 => ?_)
  refine wp_region_lit ?_
  refine wl_yield (o := ⟨_, _, _, _, _, _⟩) (.pointer (some ⟨b, 0, none⟩)) (yq_ldPg (by rfl) _ rfl _ 0 rfl (some ⟨b, 0, none⟩) (fun _ h => by subst h; exact cell_heap G1 0)) ?_
  simp only [Act.put, lzA, lzB, lzC]
  refine wl_yield (o := ⟨_, _, _, _, _, _⟩) (.pointer (some ⟨b, 0, none⟩)) (yt_nil (by rfl) _ rfl _ rfl) ?_
  simp only [Act.put, lzA, lzB, lzC]
  refine wl_yield (o := ⟨_, _, _, _, _, _⟩) (.pointer (some ⟨b, 0, none⟩)) (yq_fG 0 (by decide) (by rfl) _ rfl b rfl) ?_
  simp only [Act.put, lzA, lzB, lzC]
  refine wl_yield (o := ⟨_, _, _, _, _, _⟩) (.func (.func 50) #[] #[.pointer (some ⟨g1, 0, none⟩)]) (yt_fn1 (by rfl) _ _ rfl _ rfl) ?_
  simp only [Act.put, lzA, lzB, lzC]
  refine wt_call (o := ⟨_, _, _, _, _, _⟩) (by rfl) 49 _ _ rfl #[.pointer (some ⟨b, 0, none⟩), .func (.func 50) #[] #[.pointer (some ⟨g1, 0, none⟩)]] rfl (run_call Tryz.func49 (by kernel_rfl) (by kernel_rfl)) ?_
  refine (do_done ⟨b, 0, none⟩ _ _ (GridIn.c0 G)).mono ?_
  rintro r v3 (⟨rfl, e9⟩)
  · subst e9
    refine Or.inl ⟨.tuple #[], rfl, ?_⟩
    simp only [Act.put, lzA, lzB, lzC]
    refine wpList_nil ?_
    refine hK4 _ _ ?_
    clear hK4 K4
    refine wp_seq_k (fun K5 hK5 => ?_)
    refine wp_region_lit ?_
    refine wl_yield (o := ⟨_, _, _, _, _, _⟩) (.pointer (some ⟨b, 0, none⟩)) (yq_ldPg (by rfl) _ rfl _ 0 rfl (some ⟨b, 0, none⟩) (fun _ h => by subst h; exact cell_heap G1 0)) ?_
    simp only [Act.put, lzA, lzB, lzC]
    refine wl_yield (o := ⟨_, _, _, _, _, _⟩) (.pointer (some ⟨b, 0, none⟩)) (yt_nil (by rfl) _ rfl _ rfl) ?_
    simp only [Act.put, lzA, lzB, lzC]
    refine wl_yield (o := ⟨_, _, _, _, _, _⟩) (.pointer (some ⟨b, 7, none⟩)) (yq_fG 2 (by decide) (by rfl) _ rfl b rfl) ?_
    simp only [Act.put, lzA, lzB, lzC]
    refine wl_yield (o := ⟨_, _, _, _, _, _⟩) (.agg #[(c 0).val, (c 1).val, (c 2).val, (c 3).val]) (yq_ld4 (by rfl) _ rfl _ 7 rfl _ _ _ _ (fun _ h => by subst h; exact ⟨cell_heap G 7, cell_heap G 8, cell_heap G 9, cell_heap G 10⟩)) ?_
    simp only [Act.put, lzA, lzB, lzC]
    refine wq_put4 (o := ⟨_, _, _, _, _, _⟩) (by rfl) _ _ rfl g2 rfl c rfl G2 (fun v4 X kg => ?_)
    simp only [Act.put, lzA, lzB, lzC]
    replace D := gr_new D ge_g2 kg
    replace G := heap_gr G kg (Ne.symm n_g2_b)
    refine wpList_nil ?_
    refine hK5 _ _ ?_
    clear hK5 K5
    refine wp_ret ?_
    try simp only [Exit.inBlock, Exit.then]
    refine bodyPost_ret (results_cell_row rfl _ _ g2 70 _ (0, 0) _ rfl X Tryz.underlying70 rfl infoQ4) rfl ⟨⟨c, rfl, G, fun j hj => (N0 j hj).on (below_none D)⟩, grown_below (grown_refl _ _) (below_none D)⟩
theorem laid_any (M b : Nat) (l : Nat → List SetV) (w : World) (H : GridM M w b l) (hf : ∀ j, j < 4 → FewC (l j)) (hMw : M ≤ w.heap.size) :
    Calls Tryz.prog 27 #[.pointer (some ⟨b, 0, none⟩)] w fun r w' => (∃ c' : Nat → Sl, r = .returned (.agg #[(c' 0).val, (c' 1).val, (c' 2).val, (c' 3).val]) ∧ (∀ j, j < 4 → CutAt M w' (c' j).val (l j)) ∧ GridL M w' b l) ∧ w.grownBy w' (some b) := by
  rcases H with ⟨s, c, G, HS⟩ | ⟨s, c, G, NC⟩
  · refine (laid_first M b s c l w G HS hf hMw).mono ?_
    rintro r w' ⟨⟨c', h1, h2, h3⟩, h4⟩
    exact ⟨⟨c', h1, h3, ⟨_, c', h2, h3⟩⟩, h4⟩
  · refine (laid_again M b s c l w G NC).mono ?_
    rintro r w' ⟨⟨c', h1, h2, h3⟩, h4⟩
    exact ⟨⟨c', h1, h3, ⟨_, c', h2, h3⟩⟩, h4⟩
end Go.Proofs.YtbaijjclofekcaaGreatDoor
