/-
  The walk of the law SetRanges, out of the program's contracts.
-/
import Derived.Test.YtdmjpdhjebmnfaaSR
import Derived.Laws.AppendOwnNone
set_option linter.unusedSimpArgs false
set_option linter.unusedVariables false
namespace Go.Proofs.Ytdmjpdhjebmnfaa
open Go.RowKit

theorem ownR_empty (w : World) : OwnR (w.alloc (.cells #[] 45)) w.heap.size (.slice (some ⟨w.heap.size, 0, none⟩) 0 0) [] :=
  ⟨rfl, Or.inr ⟨w.heap.size, 0, #[], rfl, Nat.le_refl _, heap_top _ _, Nat.le_refl _, by unfold maxLen; omega, rfl, rfl⟩⟩
/-- A row of ranges, wherever it lies, put behind one of the call's own. -/
theorem wpList_appRow {ops : Array Oper} {rest : List Oper} {o : Oper} {a : Act} {Q : Exit → Act → World → Prop} (w : World) (hgd : o.guard = none) (s x : Operand)
    (ho : o.op = .call { callee := .builtin .append, args := #[s, x], argTypes := #[22, 22] })
    (B : Nat) (v u : Value) (l m : List Rg) (hs : a.eval s = v) (hown : OwnR w B v l) (hu : a.eval x = u) (hx : RngsAt w u m) (hnil : ∀ n c, u = .slice none n c → u = .slice none 0 0) (hlen : l.length + m.length ≤ 1000000) (hB : B ≤ w.heap.size)
    (h : ∀ v' w', OwnR w' B v' (l ++ m) → Below B w w' → wpList Try.prog ops Q rest (a.put o.dst v') w') : wpList Try.prog ops Q (o :: rest) a w := by
  obtain ⟨i0, hi, hz0, hz1, hz2⟩ := info_parts infoRg
  obtain ⟨_, _, ad, cap, rfl, hel⟩ := hx
  cases ad with
  | none =>
    have hm : m = [] := by
      cases m with
      | nil => rfl
      | cons r m =>
        obtain ⟨b, off, e, _⟩ := hel 0 (by simp)
        cases e
    subst hm
    refine wpList_append_own_none hgd s x 22 ho B 45 i0 2 Try.underlying22 hi v l.length (rgCells l) hs hown (hu.trans (hnil _ _ rfl)) ?_
    refine h v w ?_ (Below.refl _ _)
    rw [List.append_nil]; exact hown
  | some ad =>
    refine wpList_append_own w hgd s x 22 ho B 45 i0 _ 2 16 Try.underlying22 hi hz0 hz1 hz2 rfl (by decide) v l.length (rgCells l) hs hown ad m.length _ (rgCells m) hu (by rw [rgCells_len]) ?_ (rgCells_one _) (by unfold maxLen; omega) (by omega) hB ?_
    · intro j u hj
      have hjl : j < m.length * 2 := by
        have := (List.getElem?_eq_some_iff.1 hj).1
        rwa [rgCells_len] at this
      obtain ⟨b, off, e, _, c0, c1⟩ := hel (j / 2) (by omega)
      obtain ⟨a0, a1⟩ := rgCells_at m (j / 2) (by omega)
      simp at e
      subst e
      rw [Go.WideShapes.add_plain]
      rcases Nat.mod_two_eq_zero_or_one j with hm | hm
      · rw [show off + j = off + j / 2 * 2 by omega, c0, ← a0, ← hj]
        exact congrArg (fun k => (rgCells m)[k]?) (by omega)
      · rw [show off + j = off + j / 2 * 2 + 1 by omega, c1, ← a1, ← hj]
        exact congrArg (fun k => (rgCells m)[k]?) (by omega)
    · intro v' w' h1 h2 _
      refine h v' w' ?_ (OwnR.grownB hown hB h2)
      unfold OwnR
      rw [List.length_append, rgCells_append]
      exact h1
theorem below_alloc' {w w1 : World} {o : Obj} (hb : Below w.heap.size (w.alloc o) w1) : Below w.heap.size w w1 := ((Below.refl _ _).alloc (Nat.le_refl _) o).trans hb
theorem ranges_one {l a b : List Rg} (h1 : RangesOut l a) (h2 : RangesOut l b) : a = b := rightR_ext a b h1.1 h2.1 fun n => by rw [h1.2.2.2, h2.2.2.2]

set_option maxHeartbeats 4000000 in
set_option maxRecDepth 100000 in
theorem setRanges_walk (P : SetProg) (v : Value) (l : List Rg) (w : World) (hv : RngsAt w v l) (hnil : ∀ n c, v = .slice none n c → v = .slice none 0 0) :
    Calls Try.prog 5 #[v] w fun r w' => r = .returned (.bool true) ∧ Below w.heap.size w w' := by
  have HV := hide hv
  obtain ⟨_, hlen, a, cap, rfl, hel⟩ := hv
  clear hel
  have HAW := fun W => hide (awake3_any P W)
  have HNI := hide hnil
  clear hnil
  obtain ⟨N, hN⟩ : ∃ N : Nat, N = l.length := ⟨_, rfl⟩
  rw [← hN] at hlen HV HNI ⊢
  have HN := hide hN
  clear hN
  by_cases big : N ≤ 60
  · have hb' : ¬ (60 : Int) < (N : Int) := by omega
    go_enter Try.func5, Try.ntmps5
    go_wp2_with fail
    refine (unhide (HAW _)).mono ?_
    rintro r w1 ⟨rfl, b1⟩
    have B1 := hide b1
    have sz1 := B1.out.size
    clear b1
    have V1 := hide (HV.out.on B1.out)
    have LE : Hid (([] : List Rg).length + l.length ≤ 1000000) := hide (by have := HN.out; simp; omega)
    go_wp2_with (at_builtin; refine wpList_appRow _ rfl _ _ rfl w1.heap.size _ _ [] l rfl (ownR_empty _) rfl (V1.out.on ((Below.refl _ w1).alloc (Nat.le_refl _) _)) HNI.out LE.out (by simp) ?_; intro v2 w2 hO2 hb2; have O2 := hide hO2; have B2 := hide hb2; clear hO2 hb2)
    rw [List.nil_append] at O2
    have il := HV.out.1
    have B2' := below_alloc' B2.out
    have B2'' := hide (B1.out.trans (B2'.mono sz1))
    have X := hide (P.ranges _ l w2 (O2.out.rngs il (by have := HN.out; omega)) (by have := HN.out; omega))
    clear B2 B2' O2 V1 il LE
    refine (unhide X).mono ?_
    rintro r w3 ⟨⟨u3, o3, rfl, ho3, hr3⟩, b3⟩
    obtain ⟨a3, c3, rfl⟩ := hr3.form
    have B3 := hide (B2''.out.trans (b3.mono B2''.out.size))
    have R3 := hide hr3
    have HO3 := hide ho3
    have Y := hide (refRanges_any _ l w3 (HV.out.on B3.out) (by have := HN.out; omega))
    clear B2'' b3 hr3 ho3 X
    go_wp2_with fail
    refine (unhide Y).mono ?_
    rintro r w4 ⟨⟨u4, o4, rfl, ho4, hO4⟩, b4⟩
    have e34 := ranges_one ho4 HO3.out
    subst e34
    obtain ⟨a4, c4, rfl⟩ := (hO4.rngs ho4.2.1 (by have h1 := ho4.2.2.1; have h2 := HN.out; omega)).form
    have B4 := hide (B3.out.trans (b4.mono B3.out.size))
    have R4 := hide (R3.out.on b4)
    have R5 := hide (hO4.rngs ho4.2.1 (by have h1 := ho4.2.2.1; have h2 := HN.out; omega))
    clear B3 b4 R3 hO4 ho4 Y
    have Z := hide (refSame_any _ _ ⟨false, o4, false, []⟩ ⟨false, o4, false, []⟩ w4 ⟨_, _, rfl, R4.out, strs_none _⟩ ⟨_, _, rfl, R5.out, strs_none _⟩)
    go_wp2_with fail
    refine (unhide Z).mono ?_
    rintro r w5 ⟨rfl, b5⟩
    rw [(sameB_iff _ _).2 rfl]
    have B5 := hide (B4.out.trans (b5.mono B4.out.size))
    have U := hide (refRightSet_any _ ⟨false, o4, false, []⟩ w5 ⟨_, _, rfl, R4.out.on b5, strs_none _⟩)
    have er : rightSet ⟨false, o4, false, []⟩ = true := (rightSet_iff _).2 ⟨HO3.out.1, ⟨fun _ h => by simp at h, trivial⟩⟩
    rw [er] at U
    clear b5 B4 R4 R5 Z er
    go_wp2_with fail
    refine (unhide U).mono ?_
    rintro r w6 ⟨rfl, b6⟩
    have B6 := hide (B5.out.trans (b6.mono B5.out.size))
    clear b6 B5 U
    go_wp2
    go_ret
    exact ⟨rfl, B6.out⟩
  · have hb' : (60 : Int) < (N : Int) := by omega
    go_enter Try.func5, Try.ntmps5
    go_wp2_with fail
    refine (unhide (HAW _)).mono ?_
    rintro r w1 ⟨rfl, b1⟩
    go_wp2_with fail
    refine (unhide (HAW _)).mono ?_
    rintro r w2 ⟨rfl, b2⟩
    have c2 := hide (b1.trans (b2.mono b1.size))
    clear b1 b2
    go_wp2
    go_ret
    exact ⟨rfl, c2.out⟩
end Go.Proofs.Ytdmjpdhjebmnfaa
