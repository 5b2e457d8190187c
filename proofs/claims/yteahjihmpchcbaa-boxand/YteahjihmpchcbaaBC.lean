/-
  Rows of boxes; the walk of the fourth reference's Few.
-/
import Derived.Test.YteahjihmpchcbaaBB
import Derived.Test.YteahjihmpchcbaaSE
import Derived.Deep.RegionHeld3
set_option linter.unusedSimpArgs false
set_option linter.unusedVariables false
namespace Go.Proofs.Yteahjihmpchcbaa
open Go.RowKit

def noBox : BoxV := ⟨noSet, noSet, noSet, noSet⟩
/-- The value is a row of just these boxes. -/
def BoxesAt (w : World) (v : Value) (l : List BoxV) : Prop :=
  l.length ≤ 9223372036854775807 ∧ ∃ (a : Option Addr) (cap : Nat), v = .slice a l.length cap ∧ ∀ i, i < l.length → ∃ (g off : Nat) (vi0 vs0 vi1 vs1 vi2 vs2 vi3 vs3 : Value), a = some ⟨g, off, none⟩ ∧ g < w.heap.size ∧
    (w.cell? ⟨g, off + i * 16, none⟩ = some (.bool (l.getD i noBox).s0.absent) ∧ w.cell? ⟨g, off + i * 16 + 1, none⟩ = some (vi0) ∧ w.cell? ⟨g, off + i * 16 + 2, none⟩ = some (.bool (l.getD i noBox).s0.co) ∧ w.cell? ⟨g, off + i * 16 + 3, none⟩ = some (vs0) ∧ w.cell? ⟨g, off + i * 16 + 4, none⟩ = some (.bool (l.getD i noBox).s1.absent) ∧ w.cell? ⟨g, off + i * 16 + 5, none⟩ = some (vi1) ∧ w.cell? ⟨g, off + i * 16 + 6, none⟩ = some (.bool (l.getD i noBox).s1.co) ∧ w.cell? ⟨g, off + i * 16 + 7, none⟩ = some (vs1) ∧ w.cell? ⟨g, off + i * 16 + 8, none⟩ = some (.bool (l.getD i noBox).s2.absent) ∧ w.cell? ⟨g, off + i * 16 + 9, none⟩ = some (vi2) ∧ w.cell? ⟨g, off + i * 16 + 10, none⟩ = some (.bool (l.getD i noBox).s2.co) ∧ w.cell? ⟨g, off + i * 16 + 11, none⟩ = some (vs2) ∧ w.cell? ⟨g, off + i * 16 + 12, none⟩ = some (.bool (l.getD i noBox).s3.absent) ∧ w.cell? ⟨g, off + i * 16 + 13, none⟩ = some (vi3) ∧ w.cell? ⟨g, off + i * 16 + 14, none⟩ = some (.bool (l.getD i noBox).s3.co) ∧ w.cell? ⟨g, off + i * 16 + 15, none⟩ = some (vs3)) ∧ (SetAt w (.agg #[.bool (l.getD i noBox).s0.absent, vi0, .bool (l.getD i noBox).s0.co, vs0]) (l.getD i noBox).s0 ∧ SetAt w (.agg #[.bool (l.getD i noBox).s1.absent, vi1, .bool (l.getD i noBox).s1.co, vs1]) (l.getD i noBox).s1 ∧ SetAt w (.agg #[.bool (l.getD i noBox).s2.absent, vi2, .bool (l.getD i noBox).s2.co, vs2]) (l.getD i noBox).s2 ∧ SetAt w (.agg #[.bool (l.getD i noBox).s3.absent, vi3, .bool (l.getD i noBox).s3.co, vs3]) (l.getD i noBox).s3)
def fewBx (b : BoxV) : Bool := [b.s0, b.s1, b.s2, b.s3].all fewB
theorem four_sets {w : World} {x : BoxV} {vi0 vs0 vi1 vs1 vi2 vs2 vi3 vs3 : Value} (h : SetAt w (.agg #[.bool x.s0.absent, vi0, .bool x.s0.co, vs0]) x.s0 ∧ SetAt w (.agg #[.bool x.s1.absent, vi1, .bool x.s1.co, vs1]) x.s1 ∧ SetAt w (.agg #[.bool x.s2.absent, vi2, .bool x.s2.co, vs2]) x.s2 ∧ SetAt w (.agg #[.bool x.s3.absent, vi3, .bool x.s3.co, vs3]) x.s3) (n : Nat) (hn : n = w.heap.size) : SetsAt (w.alloc (Obj.cells #[.bool x.s0.absent, vi0, .bool x.s0.co, vs0, .bool x.s1.absent, vi1, .bool x.s1.co, vs1, .bool x.s2.absent, vi2, .bool x.s2.co, vs2, .bool x.s3.absent, vi3, .bool x.s3.co, vs3] 25)) (.slice (some ⟨n, 0, none⟩) 4 4) [x.s0, x.s1, x.s2, x.s3] := by
  subst hn
  obtain ⟨h0, h1, h2, h3⟩ := h
  have hb := (Below.refl _ w).alloc (Nat.le_refl _) (Obj.cells #[.bool x.s0.absent, vi0, .bool x.s0.co, vs0, .bool x.s1.absent, vi1, .bool x.s1.co, vs1, .bool x.s2.absent, vi2, .bool x.s2.co, vs2, .bool x.s3.absent, vi3, .bool x.s3.co, vs3] 25)
  have hs : w.heap.size < (w.alloc (Obj.cells #[.bool x.s0.absent, vi0, .bool x.s0.co, vs0, .bool x.s1.absent, vi1, .bool x.s1.co, vs1, .bool x.s2.absent, vi2, .bool x.s2.co, vs2, .bool x.s3.absent, vi3, .bool x.s3.co, vs3] 25)).heap.size := by show _ < (w.heap.push _).size; simp
  have hc := fun j => cell_heap (heap_new w (Obj.cells #[.bool x.s0.absent, vi0, .bool x.s0.co, vs0, .bool x.s1.absent, vi1, .bool x.s1.co, vs1, .bool x.s2.absent, vi2, .bool x.s2.co, vs2, .bool x.s3.absent, vi3, .bool x.s3.co, vs3] 25)) j
  obtain ⟨i0, s0, e0, I0, S0⟩ := h0
  obtain ⟨i1, s1, e1, I1, S1⟩ := h1
  obtain ⟨i2, s2, e2, I2, S2⟩ := h2
  obtain ⟨i3, s3, e3, I3, S3⟩ := h3
  simp at e0 e1 e2 e3
  obtain ⟨rfl, rfl⟩ := e0
  obtain ⟨rfl, rfl⟩ := e1
  obtain ⟨rfl, rfl⟩ := e2
  obtain ⟨rfl, rfl⟩ := e3
  refine ⟨by simp, _, 4, rfl, fun i hi => ?_⟩
  match i, hi with
  | 0, _ => exact ⟨_, 0, _, _, rfl, hs, hc 0, hc 1, hc 2, hc 3, I0.on hb, S0.on hb⟩
  | 1, _ => exact ⟨_, 0, _, _, rfl, hs, hc 4, hc 5, hc 6, hc 7, I1.on hb, S1.on hb⟩
  | 2, _ => exact ⟨_, 0, _, _, rfl, hs, hc 8, hc 9, hc 10, hc 11, I2.on hb, S2.on hb⟩
  | 3, _ => exact ⟨_, 0, _, _, rfl, hs, hc 12, hc 13, hc 14, hc 15, I3.on hb, S3.on hb⟩
theorem SetAt.slices {w : World} {p q : Bool} {vi vs : Value} {S : SetV} (h : SetAt w (.agg #[.bool p, vi, .bool q, vs]) S) : ∃ a n c a' n' c', vi = .slice a n c ∧ vs = .slice a' n' c' := by
  obtain ⟨i, s, e, hI, hS⟩ := h
  simp at e
  obtain ⟨_, rfl, _, rfl⟩ := e
  obtain ⟨a, c, rfl⟩ := hI.form
  obtain ⟨a', c', rfl⟩ := hS.form
  exact ⟨a, _, c, a', _, c', rfl, rfl⟩

set_option maxHeartbeats 8000000 in
set_option maxRecDepth 100000 in
theorem refFewBx_any (v : Value) (l : List BoxV) (w : World) (hv : BoxesAt w v l) :
    Calls Try.prog 8 #[v] w fun r w' => r = .returned (.bool (l.all fewBx)) ∧ Below w.heap.size w w' := by
  obtain ⟨hlen, a, cap, rfl, hel⟩ := hv
  have HE := hide hel
  clear hel
  generalize hB : l.all fewBx = B
  have HB0 : Hid ((l.drop 0).all fewBx = B) := hide (by rw [List.drop_zero]; exact hB)
  clear hB
  obtain ⟨N, hN⟩ : ∃ N : Nat, N = l.length := ⟨_, rfl⟩
  rw [← hN] at hlen ⊢
  have HN := hide hN
  clear hN
  go_enter Try.func8, Try.ntmps8
  go_wp2
  go_loopw [3] (fun i wr => ∃ k : Nat, i = .int .i64 k ∧ k ≤ N ∧ Hid (Below w.heap.size w wr) ∧ Hid ((l.drop k).all fewBx = B)) (fun i _ => N - (intOf i).toNat)
  case atStart => exact ⟨0, rfl, by omega, hide (Below.refl _ _), HB0⟩
  case round =>
    clear HB0
    obtain ⟨k, rfl, hk, HW, HD⟩ := hrel
    by_cases hlt : k < N
    · have hk' : k < l.length := by rw [← HN.out]; exact hlt
      obtain ⟨g, off, vi0, vs0, vi1, vs1, vi2, vs2, vi3, vs3, ha, hg, ⟨c0, c1, c2, c3, c4, c5, c6, c7, c8, c9, c10, c11, c12, c13, c14, c15⟩, hs0, hs1, hs2, hs3⟩ := HE.out k hk'
      subst ha
      have D0 := HD.out
      rw [drop_getD l k noBox hk', List.all_cons] at D0
      generalize l.getD k noBox = x at *
      have HD0 := hide D0
      clear D0 HD HE
      replace c0 := (HW.out.cell (p := ⟨g, _, none⟩) hg).trans c0
      replace c1 := (HW.out.cell (p := ⟨g, _, none⟩) hg).trans c1
      replace c2 := (HW.out.cell (p := ⟨g, _, none⟩) hg).trans c2
      replace c3 := (HW.out.cell (p := ⟨g, _, none⟩) hg).trans c3
      replace c4 := (HW.out.cell (p := ⟨g, _, none⟩) hg).trans c4
      replace c5 := (HW.out.cell (p := ⟨g, _, none⟩) hg).trans c5
      replace c6 := (HW.out.cell (p := ⟨g, _, none⟩) hg).trans c6
      replace c7 := (HW.out.cell (p := ⟨g, _, none⟩) hg).trans c7
      replace c8 := (HW.out.cell (p := ⟨g, _, none⟩) hg).trans c8
      replace c9 := (HW.out.cell (p := ⟨g, _, none⟩) hg).trans c9
      replace c10 := (HW.out.cell (p := ⟨g, _, none⟩) hg).trans c10
      replace c11 := (HW.out.cell (p := ⟨g, _, none⟩) hg).trans c11
      replace c12 := (HW.out.cell (p := ⟨g, _, none⟩) hg).trans c12
      replace c13 := (HW.out.cell (p := ⟨g, _, none⟩) hg).trans c13
      replace c14 := (HW.out.cell (p := ⟨g, _, none⟩) hg).trans c14
      replace c15 := (HW.out.cell (p := ⟨g, _, none⟩) hg).trans c15
      have F := hide (four_sets (w := wr) ⟨hs0.on HW.out, hs1.on HW.out, hs2.on HW.out, hs3.on HW.out⟩ wr.heap.size rfl)
      obtain ⟨a0, m0, r0, a1, m1, r1, rfl, rfl⟩ := hs0.slices
      obtain ⟨a2, m2, r2, a3, m3, r3, rfl, rfl⟩ := hs1.slices
      obtain ⟨a4, m4, r4, a5, m5, r5, rfl, rfl⟩ := hs2.slices
      obtain ⟨a6, m6, r6, a7, m7, r7, rfl, rfl⟩ := hs3.slices
      clear hs0 hs1 hs2 hs3
      have FW := fun (W : World) (y : Value) (h : SetsAt W y [x.s0, x.s1, x.s2, x.s3]) => hide (refFew_any y _ W h)
      change ∀ (W : World) (y : Value) (h : SetsAt W y [x.s0, x.s1, x.s2, x.s3]), Hid (Calls _ _ _ _ fun r w' => r = .returned (.bool (fewBx x)) ∧ _) at FW
      generalize fewBx x = q at HD0 FW
      have hg' : g < wr.heap.size := Nat.lt_of_lt_of_le hg HW.out.size
      have PH1 := True.intro
      go_wp2
      go_region_held3 (fun w' => w'.cell? ⟨g, off + k * 16, none⟩ = some (.bool x.s0.absent) ∧ w'.cell? ⟨g, off + k * 16 + 1, none⟩ = some (.slice a0 m0 r0) ∧ w'.cell? ⟨g, off + k * 16 + 2, none⟩ = some (.bool x.s0.co) ∧ w'.cell? ⟨g, off + k * 16 + 3, none⟩ = some (.slice a1 m1 r1) ∧ w'.cell? ⟨g, off + k * 16 + 4, none⟩ = some (.bool x.s1.absent) ∧ w'.cell? ⟨g, off + k * 16 + 5, none⟩ = some (.slice a2 m2 r2) ∧ w'.cell? ⟨g, off + k * 16 + 6, none⟩ = some (.bool x.s1.co) ∧ w'.cell? ⟨g, off + k * 16 + 7, none⟩ = some (.slice a3 m3 r3) ∧ w'.cell? ⟨g, off + k * 16 + 8, none⟩ = some (.bool x.s2.absent) ∧ w'.cell? ⟨g, off + k * 16 + 9, none⟩ = some (.slice a4 m4 r4) ∧ w'.cell? ⟨g, off + k * 16 + 10, none⟩ = some (.bool x.s2.co) ∧ w'.cell? ⟨g, off + k * 16 + 11, none⟩ = some (.slice a5 m5 r5) ∧ w'.cell? ⟨g, off + k * 16 + 12, none⟩ = some (.bool x.s3.absent) ∧ w'.cell? ⟨g, off + k * 16 + 13, none⟩ = some (.slice a6 m6 r6) ∧ w'.cell? ⟨g, off + k * 16 + 14, none⟩ = some (.bool x.s3.co) ∧ w'.cell? ⟨g, off + k * 16 + 15, none⟩ = some (.slice a7 m7 r7)) (first | go_keep | (refine ⟨?_, ?_, ?_, ?_, ?_, ?_, ?_, ?_, ?_, ?_, ?_, ?_, ?_, ?_, ?_, ?_⟩ <;> assumption))
        ((first
          | (go_at_call 13; have pz := PH1; clear pz PH1; refine (unhide (FW _ _ ?_)).mono ?_; exact F.out; rintro r w2 ⟨rfl, hw2⟩; subst hw2; have PH2 := True.intro; clear F)))
      have B9 := hide ((HW.out.alloc HW.out.size (Obj.cells #[.bool x.s0.absent, .slice a0 m0 r0, .bool x.s0.co, .slice a1 m1 r1, .bool x.s1.absent, .slice a2 m2 r2, .bool x.s1.co, .slice a3 m3 r3, .bool x.s2.absent, .slice a4 m4 r4, .bool x.s2.co, .slice a5 m5 r5, .bool x.s3.absent, .slice a6 m6 r6, .bool x.s3.co, .slice a7 m7 r7] 25)).drew)
      generalize (wr.alloc (Obj.cells #[.bool x.s0.absent, .slice a0 m0 r0, .bool x.s0.co, .slice a1 m1 r1, .bool x.s1.absent, .slice a2 m2 r2, .bool x.s1.co, .slice a3 m3 r3, .bool x.s2.absent, .slice a4 m4 r4, .bool x.s2.co, .slice a5 m5 r5, .bool x.s3.absent, .slice a6 m6 r6, .bool x.s3.co, .slice a7 m7 r7] 25)).drew = w9 at B9 ⊢
      cases q
      · have E : Hid (B = false) := hide (by rw [← HD0.out]; rfl)
        go_wp2
        go_ret
        exact ⟨ret_bool E.out.symm, B9.out⟩
      · have E : Hid ((l.drop (k + 1)).all fewBx = B) := hide (by rw [← HD0.out]; rfl)
        go_wp2
        exact ⟨⟨k + 1, by go_num, by omega, B9, E⟩, by simp [intOf]; omega⟩
    · have hge : (N : Int) ≤ (k : Int) := by omega
      have E : Hid (B = true) := hide (by rw [← HD.out, List.drop_eq_nil_of_le (by have := HN.out; omega)]; rfl)
      go_wp2
      go_ret
      exact ⟨ret_bool E.out.symm, HW.out⟩
end Go.Proofs.Yteahjihmpchcbaa
