/-
  The program's set: Not, Or, And, In.
-/
import Derived.Test.YteahjihmpchcbaaTC
import Derived.Test.YteahjihmpchcbaaTI
import Derived.Test.YteahjihmpchcbaaTJ
import Derived.Test.YteahjihmpchcbaaM0
import Derived.Deep.RegionHeld3
set_option linter.unusedSimpArgs false
set_option linter.unusedVariables false
namespace Go.Proofs.Yteahjihmpchcbaa
open Go.RowKit

theorem right_size {l : List ByteArray} (h : rightS l) : ∀ s ∈ l, s.size ≤ 9223372036854775807 := fun s hs => by have := h.1 s hs; omega
theorem OwnR.frm {w : World} {B : Nat} {v : Value} {l : List Rg} (h : OwnR w B v l) : ∃ a n cap, v = .slice a n cap := by
  rcases h.2 with ⟨e, _⟩ | ⟨g, cap, cur, e, _⟩
  · exact ⟨_, _, _, e⟩
  · exact ⟨_, _, _, e⟩
theorem OwnS.frm {w : World} {B : Nat} {v : Value} {l : List ByteArray} (h : OwnS w B v l) : ∃ a n cap, v = .slice a n cap := by
  rcases h.2 with ⟨e, _⟩ | ⟨g, cap, cur, e, _⟩
  · exact ⟨_, _, _, e⟩
  · exact ⟨_, _, _, e⟩
/-! ### A set written into a block -/
theorem put4 {B p : Nat} {w0 w : World} {t : TypeId} {y0 y1 y2 y3 : Value} (x0 x1 x2 x3 : Value) (hp : w.heap[p]? = some (.cells #[y0, y1, y2, y3] t (0, 0))) (hB : B ≤ p) (hb : Below B w0 w) :
    ((((w.setCell ⟨p, 0, none⟩ x0).setCell ⟨p, 1, none⟩ x1).setCell ⟨p, 2, none⟩ x2).setCell ⟨p, 3, none⟩ x3).heap[p]? = some (.cells #[x0, x1, x2, x3] t (0, 0)) ∧
    Below B w0 ((((w.setCell ⟨p, 0, none⟩ x0).setCell ⟨p, 1, none⟩ x1).setCell ⟨p, 2, none⟩ x2).setCell ⟨p, 3, none⟩ x3) ∧
    (∀ k, k ≠ p → ((((w.setCell ⟨p, 0, none⟩ x0).setCell ⟨p, 1, none⟩ x1).setCell ⟨p, 2, none⟩ x2).setCell ⟨p, 3, none⟩ x3).heap[k]? = w.heap[k]?) := by
  refine ⟨?_, ?_, fun k hk => ?_⟩
  · have h0 := heap_setCell (i := 0) x0 hp
    have h1 := heap_setCell (i := 1) x1 h0
    have h2 := heap_setCell (i := 2) x2 h1
    have h3 := heap_setCell (i := 3) x3 h2
    exact h3
  · exact (((hb.setCell (p := ⟨p, 0, none⟩) hB _).setCell (p := ⟨p, 1, none⟩) hB _).setCell (p := ⟨p, 2, none⟩) hB _).setCell (p := ⟨p, 3, none⟩) hB _
  · have hk' : p ≠ k := fun e => hk e.symm
    simp [World.setCell, Array.getElem?_modify, hk']
theorem OwnR.aside {w W : World} {B p : Nat} {v : Value} {l : List Rg} (h : OwnR w B v l) (hp : p < B) (hk : ∀ k, k ≠ p → W.heap[k]? = w.heap[k]?) : OwnR W B v l := by
  refine ⟨h.1, ?_⟩
  rcases h.2 with h2 | ⟨g, cap, cur, e, hg, hc, hr⟩
  · exact Or.inl h2
  · exact Or.inr ⟨g, cap, cur, e, hg, (hk g (by omega)).trans hc, hr⟩
theorem OwnS.aside {w W : World} {B p : Nat} {v : Value} {l : List ByteArray} (h : OwnS w B v l) (hp : p < B) (hk : ∀ k, k ≠ p → W.heap[k]? = w.heap[k]?) : OwnS W B v l := by
  refine ⟨h.1, ?_⟩
  rcases h.2 with h2 | ⟨g, cap, cur, e, hg, hc, hr⟩
  · exact Or.inl h2
  · exact Or.inr ⟨g, cap, cur, e, hg, (hk g (by omega)).trans hc, hr⟩
/-- The set that is handed back. -/
theorem made_set {w0 w : World} {p : Nat} {t : TypeId} {y0 y1 y2 y3 ui us : Value} {B1 B2 : Nat} (S : SetV) (hp : w.heap[p]? = some (.cells #[y0, y1, y2, y3] t (0, 0))) (hw : w0.heap.size ≤ p) (hb : Below w0.heap.size w0 w)
    (hi : OwnR w B1 ui S.ints) (hs : OwnS w B2 us S.strs) (h1 : p < B1) (h2 : p < B2) (hg : Good S) (n1 : S.ints.length ≤ 9223372036854775807) (n2 : S.strs.length ≤ 9223372036854775807) :
    ((((w.setCell ⟨p, 0, none⟩ (.bool S.absent)).setCell ⟨p, 1, none⟩ ui).setCell ⟨p, 2, none⟩ (.bool S.co)).setCell ⟨p, 3, none⟩ us).heap[p]? = some (.cells #[.bool S.absent, ui, .bool S.co, us] t (0, 0)) ∧
    SetAt ((((w.setCell ⟨p, 0, none⟩ (.bool S.absent)).setCell ⟨p, 1, none⟩ ui).setCell ⟨p, 2, none⟩ (.bool S.co)).setCell ⟨p, 3, none⟩ us) (.agg #[.bool S.absent, ui, .bool S.co, us]) S ∧
    Below w0.heap.size w0 ((((w.setCell ⟨p, 0, none⟩ (.bool S.absent)).setCell ⟨p, 1, none⟩ ui).setCell ⟨p, 2, none⟩ (.bool S.co)).setCell ⟨p, 3, none⟩ us) := by
  obtain ⟨a1, a2, a3⟩ := put4 (.bool S.absent) ui (.bool S.co) us hp hw hb
  exact ⟨a1, ⟨ui, us, rfl, (hi.aside h1 a3).rngs hg.i n1, (hs.aside h2 a3).strs (right_size hg.rs) n2⟩, a2⟩
/-! ### slices.Clone of strings -/
theorem clone_any (v : Value) (l : List ByteArray) (w : World) (hv : StrsAt w v l) (hl : l.length ≤ 100000) :
    Calls Try.prog 41 #[v] w fun r w' => (∃ x, r = .returned x ∧ OwnS w' w.heap.size x l) ∧ Below w.heap.size w w' := by
  obtain ⟨_, _, a, cap, rfl, hel⟩ := hv
  cases a with
  | none =>
    have hm : l = [] := by
      cases l with
      | nil => rfl
      | cons r m =>
        obtain ⟨b, off, e, _⟩ := hel 0 (by simp)
        cases e
    subst hm
    refine (Try.slices_Clone_string_nil _ _ w).mono ?_
    rintro r w1 ⟨rfl, rfl⟩
    exact ⟨⟨_, rfl, ownS_none _ _⟩, Below.refl _ _⟩
  | some ad =>
    cases l with
    | nil =>
      refine (Try.slices_Clone_string_zero ad _ w).mono ?_
      rintro r w1 ⟨x, rfl, h1, _, h2⟩
      exact ⟨⟨x, rfl, h1⟩, h2⟩
    | cons s m =>
      obtain ⟨b, off, e, _⟩ := hel 0 (by simp)
      cases e
      refine (Try.slices_Clone_string b off (s :: m).length _ (s :: m) w (Nat.le_refl _) (by omega) (fun j hj => ?_)).mono ?_
      · obtain ⟨b', off', e, _, c0⟩ := hel j hj
        simp at e
        obtain ⟨rfl, rfl⟩ := e
        exact c0
      · rintro r w1 ⟨x, rfl, h1, _, h2⟩
        rw [List.take_length] at h1
        exact ⟨⟨x, rfl, h1⟩, h2⟩

set_option maxHeartbeats 4000000 in
set_option maxRecDepth 100000 in
theorem not_any (v : Value) (S : SetV) (w : World) (hv : SetAt w v S) (hf : Fit S) :
    Calls Try.prog 54 #[v] w fun r w' => (∃ u, r = .returned u ∧ SetAt w' u (notV S)) ∧ Below w.heap.size w w' := by
  have HG := hide hf.good
  have HNI := hide hf.ni
  have HNS := hide hf.ns
  clear hf
  obtain ⟨vi, vs, rfl, hI, hS⟩ := hv
  obtain ⟨ai, ci, rfl⟩ := hI.form
  obtain ⟨aq, cq, rfl⟩ := hS.form
  obtain ⟨sa, si, sc, ss⟩ := S
  dsimp only at *
  have T0 := Two.start w (.cells #[.bool sa, .slice ai si.length ci, .bool sc, .slice aq ss.length cq] 25) (.cells #[.bool false, .slice none 0 0, .bool false, .slice none 0 0] 25)
  have OR := fun (W : World) (h : RngsAt W (.slice ai si.length ci) si) => hide (otherRanges_any _ si W h HG.out.ri (Nat.le_trans HNI.out (by omega)))
  have CL := fun (W : World) (h : StrsAt W (.slice aq ss.length cq) ss) => hide (clone_any _ ss W h (Nat.le_trans HNS.out (by omega)))
  have I0 := hide (hI.on T0.b)
  have S0 := hide (hS.on T0.b)
  clear hI hS
  go_enter Try.func54, Try.ntmps54
  go_wp2
  generalize hw0 : ((w.alloc (Obj.cells #[.bool sa, .slice ai si.length ci, .bool sc, .slice aq ss.length cq] 25)).alloc (Obj.cells #[.bool false, .slice none 0 0, .bool false, .slice none 0 0] 25)) = w1 at *
  clear hw0
  have T1 := hide T0
  clear T0
  obtain ⟨c0, c1, c2, c3⟩ := setCells T1.out.e1
  have HLT := hide (lt_heap T1.out.e2)
  have PH1 := True.intro
  go_region_held3 (fun w' => (w'.cell? ⟨w.heap.size, 0, none⟩ = some (.bool sa) ∧ w'.cell? ⟨w.heap.size, 1, none⟩ = some (.slice ai si.length ci)) ∧ w'.cell? ⟨w.heap.size, 2, none⟩ = some (.bool sc) ∧ w'.cell? ⟨w.heap.size, 3, none⟩ = some (.slice aq ss.length cq)) (first | go_keep | (refine ⟨⟨?_, ?_⟩, ?_, ?_⟩ <;> assumption))
    ((first
      | (go_at_call 63; have pz := PH1; clear pz PH1; refine (unhide (OR _ ?_)).mono ?_; exact I0.out; rintro r w2 ⟨⟨u2, rfl, o2⟩, b'⟩; obtain ⟨p2, n2, k2, rfl⟩ := o2.frm; have b : Below w1.heap.size w1 w2 := ⟨b'.os, b'.tape, b'.output, b'.size, b'.block⟩; have HL2 : Hid (w1.heap.size ≤ w2.heap.size) := hide b.size; have T2 := hide (T1.out.on b); have O2 := hide o2; have S2 := hide (S0.out.on b); obtain ⟨e0, e1, e2, e3⟩ := setCells T2.out.e1; have PH2 := True.intro; clear b b' o2 T1 S0 I0)
      | (go_at_call 41; have pz := PH2; clear pz PH2; refine (unhide (CL _ ?_)).mono ?_; exact S2.out; rintro r w3 ⟨⟨u3, rfl, o3⟩, b'⟩; obtain ⟨p3, n3, k3, rfl⟩ := o3.frm; have b : Below w2.heap.size w2 w3 := ⟨b'.os, b'.tape, b'.output, b'.size, b'.block⟩; have T3 := hide (T2.out.on b); have O3 := hide o3; have O2' := hide (O2.out.on b); obtain ⟨e0, e1, e2, e3⟩ := setCells T3.out.e1; obtain ⟨f0, f1, f2, f3⟩ := setCells T3.out.e2; have z0 := frozen_heap T3.out.e2 0; have z1 := frozen_heap T3.out.e2 1; have z2 := frozen_heap T3.out.e2 2; have z3 := frozen_heap T3.out.e2 3; have PH3 := True.intro; clear b b' o3 T2 S2 O2)))
  have hsz := T3.out.b.size
  have MS := made_set (notV ⟨sa, si, sc, ss⟩) (p := w.heap.size + 1) T3.out.e2 (by omega) T3.out.b O2'.out O3.out HLT.out (Nat.lt_of_lt_of_le HLT.out HL2.out) (notV_good HG.out) (by have := (notV_len _ HG.out).1; have := HNI.out; dsimp only at *; omega) (by have := HNS.out; unfold notV; dsimp only; omega)
  dsimp only [notV] at MS
  obtain ⟨m1, m2, m3⟩ := MS
  go_wp2
  exact bodyPost_ret (results_cell_row rfl _ _ (w.heap.size + 1) 25 _ (0, 0) _ rfl m1 Try.underlying25 rfl infoSet) rfl ⟨⟨_, rfl, m2⟩, m3⟩
end Go.Proofs.Yteahjihmpchcbaa
