/-
  The program's set: commonRanges.
-/
import Derived.Test.YteahjihmpchcbaaTB
import Derived.Lib.MinMax
import Derived.BigRegion
import Derived.Deep.CutRange
set_option linter.unusedSimpArgs false
set_option linter.unusedVariables false
namespace Go.Proofs.Yteahjihmpchcbaa
open Go.RowKit

/-- What two rows that are gone through side by side have given so far. -/
structure ComInv (A B a b acc : List Rg) : Prop where
  ra : rightR a
  rb : rightR b
  rc : rightR acc
  ia : inI64 a
  ib : inI64 b
  ic : inI64 acc
  mem : ∀ n, (memR A n ∧ memR B n) ↔ (memR acc n ∨ (memR a n ∧ memR b n))
  gap : ∀ h, lastH acc = some h → ∀ n, memR a n → memR b n → h + 1 < n
  len : acc.length + a.length + b.length ≤ A.length + B.length
theorem com_start {A B : List Rg} (hA : rightR A) (hB : rightR B) (iA : inI64 A) (iB : inI64 B) : ComInv A B A B [] :=
  ⟨hA, hB, trivial, iA, iB, fun _ h => (List.not_mem_nil h).elim, fun n => ⟨Or.inr, fun h => h.elim (fun h => absurd h (memR_nil n)) id⟩, fun h e => by rw [lastH_nil] at e; exact absurd e (by simp), by simp⟩
theorem rightR_tail {r : Rg} {l : List Rg} (h : rightR (r :: l)) : rightR l := rightFrom_right h.2
theorem com_step {A B a b acc acc' : List Rg} {r s : Rg} (h : ComInv A B (r :: a) (s :: b) acc)
    (hc : (acc' = acc ∧ min r.2 s.2 < max r.1 s.1) ∨ (acc' = acc ++ [(max r.1 s.1, min r.2 s.2)] ∧ max r.1 s.1 ≤ min r.2 s.2)) :
    (r.2 < s.2 → ComInv A B a (s :: b) acc') ∧ (s.2 ≤ r.2 → ComInv A B (r :: a) b acc') := by
  have hA := fun n (hn : memR a n) => rightFrom_lt h.ra.2 n hn
  have hB := fun n (hn : memR b n) => rightFrom_lt h.rb.2 n hn
  have r1 := h.ra.1
  have s1 := h.rb.1
  have ir := h.ia r (by simp)
  have is := h.ib s (by simp)
  have ia' : inI64 a := fun x hx => h.ia x (by simp [hx])
  have ib' : inI64 b := fun x hx => h.ib x (by simp [hx])
  have hm : ∀ n, memR acc' n ↔ memR acc n ∨ ((r.1 ≤ n ∧ n ≤ r.2) ∧ (s.1 ≤ n ∧ n ≤ s.2)) := by
    intro n
    rcases hc with ⟨rfl, hlt⟩ | ⟨rfl, hle⟩
    · constructor
      · exact Or.inl
      · rintro (hx | hx)
        · exact hx
        · omega
    · rw [memR_append, memR_one]
      dsimp only
      constructor
      · rintro (hx | hx)
        · exact Or.inl hx
        · right; omega
      · rintro (hx | hx)
        · exact Or.inl hx
        · right; omega
  have hr : rightR acc' := by
    rcases hc with ⟨rfl, hlt⟩ | ⟨rfl, hle⟩
    · exact h.rc
    · refine rightR_concat _ _ h.rc hle (fun x hx => ?_)
      dsimp only
      exact h.gap x hx _ ((memR_cons _ _ _).2 (Or.inl (by omega))) ((memR_cons _ _ _).2 (Or.inl (by omega)))
  have hi : inI64 acc' := by
    rcases hc with ⟨rfl, hlt⟩ | ⟨rfl, hle⟩
    · exact h.ic
    · intro x hx
      rcases List.mem_append.1 hx with hx | hx
      · exact h.ic x hx
      · simp at hx; rw [hx]; dsimp only; omega
  have hl : acc'.length ≤ acc.length + 1 := by
    rcases hc with ⟨rfl, hlt⟩ | ⟨rfl, hle⟩
    · omega
    · simp
  have hlen := h.len
  simp only [List.length_cons] at hlen
  have hg : ∀ x, lastH acc' = some x → (∀ n, memR (r :: a) n → memR (s :: b) n → lastH acc = some x → x + 1 < n) ∧ (lastH acc = some x ∨ x = min r.2 s.2) := by
    intro x hx
    refine ⟨fun n h1 h2 h3 => h.gap x h3 n h1 h2, ?_⟩
    rcases hc with ⟨rfl, hlt⟩ | ⟨rfl, hle⟩
    · exact Or.inl hx
    · rw [lastH_concat] at hx; cases hx; exact Or.inr rfl
  refine ⟨fun hlt => ?_, fun hle => ?_⟩
  · refine ⟨rightR_tail h.ra, h.rb, hr, ia', h.ib, hi, fun n => ?_, fun x hx n h1 h2 => ?_, by simp only [List.length_cons]; omega⟩
    · rw [h.mem n, hm n, memR_cons r a, memR_cons s b]
      constructor
      · rintro (hx | ⟨hx | hx, hy | hy⟩)
        · exact Or.inl (Or.inl hx)
        · exact Or.inl (Or.inr ⟨hx, hy⟩)
        · have := hB n hy; omega
        · exact Or.inr ⟨hx, Or.inl hy⟩
        · exact Or.inr ⟨hx, Or.inr hy⟩
      · rintro ((hx | ⟨hx, hy⟩) | ⟨hx, hy⟩)
        · exact Or.inl hx
        · exact Or.inr ⟨Or.inl hx, Or.inl hy⟩
        · exact Or.inr ⟨Or.inr hx, hy⟩
    · obtain ⟨g1, g2⟩ := hg x hx
      rcases g2 with g2 | g2
      · exact g1 n ((memR_cons r a n).2 (Or.inr h1)) h2 g2
      · have := hA n h1; omega
  · refine ⟨h.ra, rightR_tail h.rb, hr, h.ia, ib', hi, fun n => ?_, fun x hx n h1 h2 => ?_, by simp only [List.length_cons]; omega⟩
    · rw [h.mem n, hm n, memR_cons r a, memR_cons s b]
      constructor
      · rintro (hx | ⟨hx | hx, hy | hy⟩)
        · exact Or.inl (Or.inl hx)
        · exact Or.inl (Or.inr ⟨hx, hy⟩)
        · exact Or.inr ⟨Or.inl hx, hy⟩
        · have := hA n hx; omega
        · exact Or.inr ⟨Or.inr hx, hy⟩
      · rintro ((hx | ⟨hx, hy⟩) | ⟨hx, hy⟩)
        · exact Or.inl hx
        · exact Or.inr ⟨Or.inl hx, Or.inl hy⟩
        · exact Or.inr ⟨hx, Or.inr hy⟩
    · obtain ⟨g1, g2⟩ := hg x hx
      rcases g2 with g2 | g2
      · exact g1 n h1 ((memR_cons s b n).2 (Or.inr h2)) g2
      · have := hB n h2; omega
/-- What commonRanges answers. -/
def CommonOut (A B o : List Rg) : Prop := rightR o ∧ inI64 o ∧ o.length ≤ A.length + B.length ∧ ∀ n, memR o n ↔ (memR A n ∧ memR B n)
theorem com_end {A B a b acc : List Rg} (h : ComInv A B a b acc) (he : a = [] ∨ b = []) : CommonOut A B acc := by
  refine ⟨h.rc, h.ic, by have := h.len; omega, fun n => ?_⟩
  rw [h.mem n]
  rcases he with rfl | rfl <;> simp [memR_nil]
def lenV (v : Value) : Nat := match v with
  | .slice _ n _ => n
  | _ => 0
/-- A row without its first. -/
theorem rngs_tail {w : World} {b off cap n : Nat} {r : Rg} {l : List Rg} (h : RngsAt w (.slice (some ⟨b, off, none⟩) n cap) (r :: l)) : RngsAt w (.slice (if cap = 1 then some ⟨b, off, none⟩ else some ⟨b, off + 2, none⟩) (n - 1) (cap - 1)) l := by
  obtain ⟨h1, h2⟩ := h.room
  obtain ⟨e1, e2⟩ := h.at
  subst e1
  simp only [List.length_cons] at h1 e2
  have hi : inI64 l := fun x hx => h.1 x (by simp [hx])
  have hl := h.2.1
  simp only [List.length_cons] at hl
  obtain ⟨sp, hsp⟩ := capOf_of (a := if cap = 1 then some (⟨b, off, none⟩ : Addr) else some ⟨b, off + 2, none⟩) (n := l.length) (c := cap - 1) (by omega) (fun e => by split at e <;> cases e)
  refine ⟨hi, by omega, _, sp, by rw [← hsp]; rfl, fun i hi' => ?_⟩
  rw [if_neg (by omega)]
  obtain ⟨b', off', e, hb, c0, c1⟩ := e2 (i + 1) (by omega)
  simp at e
  obtain ⟨rfl, rfl⟩ := e
  refine ⟨b, off + 2, rfl, hb, ?_, ?_⟩
  · rw [show off + 2 + i * 2 = off + (i + 1) * 2 by omega, c0]; rfl
  · rw [show off + 2 + i * 2 + 1 = off + (i + 1) * 2 + 1 by omega, c1]; rfl

set_option maxHeartbeats 4000000 in
set_option maxRecDepth 100000 in
theorem commonRanges_any (v u : Value) (A B : List Rg) (w : World) (hv : RngsAt w v A) (hu : RngsAt w u B) (hA : rightR A) (hB : rightR B) (hn : A.length + B.length ≤ 100000) :
    Calls Try.prog 38 #[v, u] w fun r w' => (∃ x o, r = .returned x ∧ CommonOut A B o ∧ OwnR w' w.heap.size x o) ∧ Below w.heap.size w w' := by
  have HV := hide hv
  have HU := hide hu
  have HC := hide (com_start hA hB hv.1 hu.1)
  clear hA hB
  obtain ⟨a0, c0, rfl⟩ := hv.form
  obtain ⟨a1, c1, rfl⟩ := hu.form
  clear hv hu
  have HN := hide hn
  clear hn
  go_enter Try.func38, Try.ntmps38
  go_wp2
  go_loopw [0, 1, 5] (fun va vb o wr => ∃ la lb acc : List Rg, Hid (RngsAt w va la) ∧ Hid (RngsAt w vb lb) ∧ Hid (OwnR wr w.heap.size o acc) ∧ Hid (ComInv A B la lb acc) ∧ Hid (Below w.heap.size w wr)) (fun va vb _ _ => lenV va + lenV vb)
  case atStart => exact ⟨A, B, [], HV, HU, hide (ownR_none _ _), HC, hide (Below.refl _ _)⟩
  case round =>
    clear HV HU HC
    obtain ⟨la, lb, acc, HVa, HVb, HO, HC, HB⟩ := hrel
    obtain ⟨pa, ca, ea⟩ := HVa.out.form
    obtain ⟨pb, cb, eb⟩ := HVb.out.form
    subst ea eb
    cases la with
    | nil =>
      have HE := hide (com_end HC.out (Or.inl rfl))
      have hl0 : (([] : List Rg).length : Int) = 0 := rfl
      go_wp2
      go_ret
      exact ⟨⟨_, acc, rfl, HE.out, HO.out⟩, HB.out⟩
    | cons r a =>
      cases lb with
      | nil =>
        have HE := hide (com_end HC.out (Or.inr rfl))
        go_wp2
        go_ret
        exact ⟨⟨_, acc, rfl, HE.out, HO.out⟩, HB.out⟩
      | cons s b =>
        obtain ⟨ba, oa, ha, hba, x0, x1⟩ := HVa.out.at.2 0 (by simp)
        obtain ⟨bb, ob, hb, hbb, y0, y1⟩ := HVb.out.at.2 0 (by simp)
        subst ha hb
        simp only [List.getD_cons_zero, Nat.zero_mul, Nat.add_zero] at x0 x1 y0 y1
        have X1 := hide x1
        have Y1 := hide y1
        replace x0 := (HB.out.cell (p := ⟨ba, _, none⟩) hba).trans x0
        replace x1 := (HB.out.cell (p := ⟨ba, _, none⟩) hba).trans x1
        replace y0 := (HB.out.cell (p := ⟨bb, _, none⟩) hbb).trans y0
        replace y1 := (HB.out.cell (p := ⟨bb, _, none⟩) hbb).trans y1
        have szB := HB.out.size
        have hba' : ba < wr.heap.size := by omega
        have hbb' : bb < wr.heap.size := by omega
        have la1 := HVa.out.2.1
        have lb1 := HVb.out.2.1
        have HLe := hide HC.out.len
        simp only [List.length_cons] at la1 lb1 HVa HVb HLe ⊢
        have ta := hide (rngs_tail HVa.out)
        have tb := hide (rngs_tail HVb.out)
        generalize a.length = na at *
        generalize b.length = nb at *
        have HS := hide (com_step HC.out (acc' := acc))
        have HS' := hide (com_step HC.out (acc' := acc ++ [(max r.1 s.1, min r.2 s.2)]))
        go_upto_region 3 with fail
        go_cut [6] from 7 to 55 (fun p wx => p = .pointer (some ⟨wr.heap.size, 0, none⟩) ∧ wx = (wr.alloc (Obj.cells #[Value.int IntKind.i64 (max r.1 s.1), Value.int IntKind.i64 (min r.2 s.2)] 55)).drew)
        case first =>
          go_big_region
          all_goals (go_wp2_with fail; go_meet; exact ⟨rfl, rfl⟩)
        case rest =>
          obtain ⟨rfl, rfl⟩ := hcut
          have O5 : Hid (OwnR ((wr.alloc (Obj.cells #[Value.int IntKind.i64 (max r.1 s.1), Value.int IntKind.i64 (min r.2 s.2)] 55)).drew) w.heap.size u5 acc) := hide (HO.out.alloc _)
          have B5 := hide ((HB.out.alloc szB (Obj.cells #[Value.int IntKind.i64 (max r.1 s.1), Value.int IntKind.i64 (min r.2 s.2)] 55)).drew)
          have n0 : ((wr.alloc (Obj.cells #[Value.int IntKind.i64 (max r.1 s.1), Value.int IntKind.i64 (min r.2 s.2)] 55)).drew).cell? ⟨wr.heap.size, 0, none⟩ = some (.int .i64 (max r.1 s.1)) := cell_heap (heap_new wr _) 0
          have n1 : ((wr.alloc (Obj.cells #[Value.int IntKind.i64 (max r.1 s.1), Value.int IntKind.i64 (min r.2 s.2)] 55)).drew).cell? ⟨wr.heap.size, 1, none⟩ = some (.int .i64 (min r.2 s.2)) := cell_heap (heap_new wr _) 1
          clear x0 y0 x1 y1 HO HB
          generalize (wr.alloc (Obj.cells #[Value.int IntKind.i64 (max r.1 s.1), Value.int IntKind.i64 (min r.2 s.2)] 55)).drew = w5 at O5 B5 n0 n1 ⊢
          generalize max r.1 s.1 = X at HS HS' n0 ⊢
          generalize min r.2 s.2 = Y at HS HS' n1 ⊢
          have sz5 := B5.out.size
          have x1 := (B5.out.cell (p := ⟨ba, _, none⟩) hba).trans X1.out
          have y1 := (B5.out.cell (p := ⟨bb, _, none⟩) hbb).trans Y1.out
          have LE : Hid (acc.length + 1 ≤ 1000000) := hide (by have := HLe.out; have := HN.out; omega)
          by_cases hxy : X ≤ Y
          · have NX := hide (HS'.out (Or.inr ⟨rfl, hxy⟩))
            clear HS HS'
            go_wp2_with (at_builtin; refine wpList_appR _ rfl _ _ rfl w.heap.size _ _ rfl (O5.out.alloc _) _ 1 1 _ [(X, Y)] rfl rfl (heap_top _ _) rfl LE.out (by simp; omega) ?_; intro v8 w8 hO8 hb8; have O8 := hide hO8; have B8 := hide ((B5.out.alloc sz5 _).trans hb8); have z1 := (B8.out.cell (p := ⟨ba, _, none⟩) hba).trans X1.out; have z2 := (B8.out.cell (p := ⟨bb, _, none⟩) hbb).trans Y1.out; clear hO8 hb8 x1 y1 n0 n1)
            go_quiet (fail)
            have O9 := hide (O8.out.drewN nq)
            have B9 := hide (below_field B8.out nq)
            clear O5 B5 sz5 LE O8 B8 z1 z2 X1 Y1 HC hba hbb hba' hbb'
            generalize w8.drewN nq = w9 at O9 B9 ⊢
            go_wp2
            · rename_i hlt
              exact ⟨⟨a, s :: b, acc ++ [(X, Y)], ta, HVb, O9, hide (NX.out.1 (by omega)), B9⟩, by simp [lenV]⟩
            · rename_i hlt
              exact ⟨⟨r :: a, b, acc ++ [(X, Y)], HVa, tb, O9, hide (NX.out.2 (by omega)), B9⟩, by simp [lenV]⟩
          · have NX := hide (HS.out (Or.inl ⟨rfl, by omega⟩))
            clear HS HS'
            go_wp2
            go_quiet (fail)
            have O9 := hide (O5.out.drewN nq)
            have B9 := hide (below_field B5.out nq)
            clear O5 B5 sz5 LE x1 y1 n0 n1 X1 Y1 HC hba hbb hba' hbb'
            generalize w5.drewN nq = w9 at O9 B9 ⊢
            go_wp2
            · rename_i hlt
              exact ⟨⟨a, s :: b, acc, ta, HVb, O9, hide (NX.out.1 (by omega)), B9⟩, by simp [lenV]⟩
            · rename_i hlt
              exact ⟨⟨r :: a, b, acc, HVa, tb, O9, hide (NX.out.2 (by omega)), B9⟩, by simp [lenV]⟩
end Go.Proofs.Yteahjihmpchcbaa
