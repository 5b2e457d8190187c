/-
  The walk of the law SetTurns, out of the program's contracts.
-/
import Derived.Test.YtdmjpdhjebmnfaaSS
set_option linter.unusedSimpArgs false
set_option linter.unusedVariables false
namespace Go.Proofs.Ytdmjpdhjebmnfaa
open Go.RowKit

/-- What lies in a block. -/
def AtB (w : World) (p : Nat) (o : Obj) : Prop := w.heap[p]? = some o
theorem AtB.on {w w' : World} {p : Nat} {o : Obj} (h : AtB w p o) (hb : Below w.heap.size w w') : AtB w' p o := (hb.block _ (lt_heap h)).trans h
theorem atCells {w : World} {b : Nat} {x0 x1 x2 x3 : Value} {t : TypeId} (h : AtB w b (.cells #[x0, x1, x2, x3] t (0, 0))) : w.cell? ⟨b, 0, none⟩ = some x0 ∧ w.cell? ⟨b, 1, none⟩ = some x1 ∧ w.cell? ⟨b, 2, none⟩ = some x2 ∧ w.cell? ⟨b, 3, none⟩ = some x3 := setCells h

theorem turns_at {A B : SetV} (gA : Good A) (gB : Good B) (k n : Int) (s : ByteArray) (hr : rightB k n s = true) (b0 : -9223372036854775808 ≤ n) (b1 : n ≤ 9223372036854775807) :
    hasB (notV A) k n s = (!hasB A k n s) ∧ hasB (orV A B) k n s = (hasB A k n s || hasB B k n s) ∧ hasB (andV A B) k n s = (hasB A k n s && hasB B k n s) := by
  refine ⟨?_, orV_has gA gB (k, n, s), andV_has gA gB (k, n, s) b0 b1⟩
  have h := notV_has gA (k, n, s) b0 b1
  show hasP (notV A) (k, n, s) = !hasP A (k, n, s)
  rw [h]
  show (rightB k n s && _) = _
  rw [hr, Bool.true_and]
theorem not_full {b : Bool} (h : (!b) = false) : b = true := by cases b <;> simp at h ⊢
theorem right_0 {q : ByteArray} (h : (!q.toList.isEmpty) = false) : rightB 0 0 q = true := by
  unfold rightB
  rw [if_pos rfl, not_full h]
  rfl
theorem right_1 {q : ByteArray} (n : Int) (h : (!q.toList.isEmpty) = false) : rightB 1 n q = true := by
  unfold rightB
  rw [if_neg (by decide), if_pos rfl, not_full h]
theorem pts_ok {A B : SetV} {t : ByteArray} {k n : Int} {s : ByteArray} (hA : inI64 A.ints) (hB : inI64 B.ints) (sA : ∀ x ∈ A.strs, x.size ≤ 9223372036854775807) (sB : ∀ x ∈ B.strs, x.size ≤ 9223372036854775807) (ht : FreshOut [A, B] ⟨#[126]⟩ t) (n0 : -9223372036854775808 ≤ n) (n1 : n ≤ 9223372036854775807) (hs : s.size ≤ maxLen) :
    ∀ p ∈ ptsL [A, B] ++ [(2, 0, t)] ++ [(k, n, s)], p.2.2.size ≤ maxLen ∧ -9223372036854775808 ≤ p.2.1 ∧ p.2.1 ≤ 9223372036854775807 := by
  intro p hp
  rcases List.mem_append.1 hp with hp | hp
  · rcases List.mem_append.1 hp with hp | hp
    · refine ⟨ptsL_size [A, B] maxLen (fun S hS s hs => ?_) p hp, ptsL_bound [A, B] (fun S hS => ?_) p hp⟩
      · rcases List.mem_cons.1 hS with rfl | hS
        · exact sA s hs
        · rcases List.mem_cons.1 hS with rfl | hS
          · exact sB s hs
          · simp at hS
      · rcases List.mem_cons.1 hS with rfl | hS
        · exact hA
        · rcases List.mem_cons.1 hS with rfl | hS
          · exact hB
          · simp at hS
    · simp at hp
      rw [hp]
      have := fresh_size ht
      refine ⟨?_, by simp, by simp⟩
      show t.size ≤ maxLen
      unfold maxLen; omega
  · simp at hp
    rw [hp]
    exact ⟨hs, n0, n1⟩

set_option maxHeartbeats 16000000 in
set_option maxRecDepth 100000 in
theorem setTurns_walk (P : SetProg) (v u : Value) (A B : SetV) (k n : Int) (s : ByteArray) (w : World) (hv : SetAt w v A) (hu : SetAt w u B) (n0 : -9223372036854775808 ≤ n) (n1 : n ≤ 9223372036854775807) (hs : s.size ≤ maxLen) :
    Calls Try.prog 3 #[v, u, .agg #[.int .i64 k, .int .i64 n, .string s]] w fun r w' => r = .returned (.bool true) ∧ Below w.heap.size w w' := by
  have HV := hide hv
  have HU := hide hu
  obtain ⟨vi, vs, rfl, hI, hS⟩ := hv
  obtain ⟨ui, us, rfl, hJ, hT⟩ := hu
  have HI := hide hI.1
  have HJ := hide hJ.1
  clear hI hS hJ hT
  have hs' : s.size ≤ 9223372036854775807 := by unfold maxLen at hs; omega
  have HS := hide hs
  clear hs
  have HAW := fun W => hide (awake3_any P W)
  have T0 := hide (Three.start w (.cells #[.bool A.absent, vi, .bool A.co, vs] 25) (.cells #[.bool B.absent, ui, .bool B.co, us] 25) (.cells #[.int .i64 k, .int .i64 n, .string s] 27))
  have s3 : (((w.alloc (.cells #[.bool A.absent, vi, .bool A.co, vs] 25)).alloc (.cells #[.bool B.absent, ui, .bool B.co, us] 25)).alloc (.cells #[.int .i64 k, .int .i64 n, .string s] 27)).heap.size = w.heap.size + 1 + 1 + 1 := by show (((w.heap.push _).push _).push _).size = _; simp
  have L0 := hide (SetAt.pair (HV.out.on T0.out.b) (HU.out.on T0.out.b) (w.heap.size + 1 + 1 + 1) s3.symm vi vs ui us rfl rfl)
  have T0' := hide (T0.out.al (.cells #[.bool A.absent, vi, .bool A.co, vs, .bool B.absent, ui, .bool B.co, us] 25))
  clear T0 s3
  go_enter Try.func3, Try.ntmps3
  go_wp2_with fail
  generalize (((w.alloc (.cells #[.bool A.absent, vi, .bool A.co, vs] 25)).alloc (.cells #[.bool B.absent, ui, .bool B.co, us] 25)).alloc (.cells #[.int .i64 k, .int .i64 n, .string s] 27)).alloc (.cells #[.bool A.absent, vi, .bool A.co, vs, .bool B.absent, ui, .bool B.co, us] 25) = w0 at *
  refine (unhide (HAW _)).mono ?_
  rintro r w1 ⟨rfl, b1⟩
  have T1 := hide (T0'.out.on b1)
  have L1 := hide (L0.out.on b1)
  have F1 := hide (refFew_any _ [A, B] _ L1.out)
  clear b1 T0' L0
  have V1 := hide (HV.out.on T1.out.b)
  have U1 := hide (HU.out.on T1.out.b)
  rw [show ([A, B] : List SetV).all fewB = (fewB A && fewB B) by simp] at F1
  go_wp2_with fail
  refine (unhide F1).mono ?_
  rintro r w2 ⟨rfl, rfl⟩
  cases hF : (fewB A && fewB B)
  · have TX := T1
    clear T1 F1 hF
    go_wp2_with fail
    refine (unhide (HAW _)).mono ?_
    rintro r w9 ⟨rfl, b9⟩
    have T9 := hide (TX.out.on b9)
    clear b9
    go_wp2
    go_ret
    exact ⟨rfl, T9.out.b⟩
  · rw [Bool.and_eq_true] at hF
    have T2 := T1
    have V2 := V1
    have U2 := U1
    have L2 := L1
    clear T1 V1 U1 L1 F1
    obtain ⟨c0, c1, c2, c3⟩ := setCells T2.out.e1
    obtain ⟨d0, d1, d2, d3⟩ := setCells T2.out.e2
    obtain ⟨k0, k1, k2⟩ := valCells T2.out.e3
    have R := hide (refRightSet_any _ A w2 V2.out)
    go_wp2_with fail
    refine (unhide R).mono ?_
    rintro r w3 ⟨rfl, b⟩
    have T3 := hide (T2.out.on b)
    have V3 := hide (V2.out.on b)
    have U3 := hide (U2.out.on b)
    have L3 := hide (L2.out.on b)
    clear b R T2 V2 U2 L2
    clear c0 c1 c2 c3 d0 d1 d2 d3 k0 k1 k2
    obtain ⟨c0, c1, c2, c3⟩ := setCells T3.out.e1
    obtain ⟨d0, d1, d2, d3⟩ := setCells T3.out.e2
    obtain ⟨k0, k1, k2⟩ := valCells T3.out.e3
    cases hR : rightSet A
    · have TX := T3
      clear T3 hR hF
      go_wp2_with fail
      refine (unhide (HAW _)).mono ?_
      rintro r w9 ⟨rfl, b9⟩
      have T9 := hide (TX.out.on b9)
      clear b9
      go_wp2
      go_ret
      exact ⟨rfl, T9.out.b⟩
    · have R := hide (refRightSet_any _ B w3 U3.out)
      go_wp2_with fail
      refine (unhide R).mono ?_
      rintro r w4 ⟨rfl, b⟩
      have T4 := hide (T3.out.on b)
      have V4 := hide (V3.out.on b)
      have U4 := hide (U3.out.on b)
      have L4 := hide (L3.out.on b)
      clear b R T3 V3 U3 L3
      clear c0 c1 c2 c3 d0 d1 d2 d3 k0 k1 k2
      obtain ⟨c0, c1, c2, c3⟩ := setCells T4.out.e1
      obtain ⟨d0, d1, d2, d3⟩ := setCells T4.out.e2
      obtain ⟨k0, k1, k2⟩ := valCells T4.out.e3
      cases hQ : rightSet B
      · have TX := T4
        clear T4 hR hQ hF
        go_wp2_with fail
        refine (unhide (HAW _)).mono ?_
        rintro r w9 ⟨rfl, b9⟩
        have T9 := hide (TX.out.on b9)
        clear b9
        go_wp2
        go_ret
        exact ⟨rfl, T9.out.b⟩
      · by_cases hz : s.size ≤ 100
        · have hz' : ¬ (100 : Int) < (s.size : Int) := by omega
          have gA : Good A := ⟨hR, HI.out⟩
          have gB : Good B := ⟨hQ, HJ.out⟩
          obtain ⟨lA, mA⟩ := few_len hF.1
          obtain ⟨lB, mB⟩ := few_len hF.2
          have a1 := orV_len gA gB
          have a3 := andV_len gA gB
          have a7 := notV_len A gA
          have fA := hide (show Fit A from ⟨gA, by omega, by omega⟩)
          have fB := hide (show Fit B from ⟨gB, by omega, by omega⟩)
          have fO := hide (show Fit (orV A B) from ⟨orV_good gA gB, by omega, by omega⟩)
          have fX := hide (show Fit (andV A B) from ⟨andV_good gA gB, by omega, by omega⟩)
          have fN := hide (show Fit (notV A) from ⟨notV_good gA, by omega, by omega⟩)
          have E1 := hide (not_not gA (by omega))
          have E2 := hide ((sameB_iff A A).2 rfl)
          have HlA := hide (few_len hF.1)
          have HlB := hide (few_len hF.2)
          clear a1 a3 a7 lA mA lB mB gA gB hR hQ hF
          go_wp2
          refine region4 P A B vi vs ui us fA.out fB.out _ _ _ _ _ _ _ _ _ _ _ _ _ _ _ _ _ _ _ _ _ _ _ _ _ _ _ _ _ _ _ _ _ _ _ _ _ _ _ _ _ _ _ _ _ _ _ _ _ _ _ _ _ _ _ T4.out.e1 T4.out.e2 V4.out U4.out ?_
          intro w5 y8 y9 y10 y42 y43 y44 y45 y46 y47 y48 y49 I
          have T5 := hide (T4.out.on I.b)
          have V5 := hide (V4.out.on I.b)
          have U5 := hide (U4.out.on I.b)
          have L5 := hide (L4.out.on I.b)
          have Xn_5 := hide (I.i1 rfl)
          have Xo_5 := hide (I.i4 rfl)
          have Xx_5 := hide (I.i7 rfl)
          obtain ⟨pn, rfl, qn, cn⟩ := I.i8 rfl
          obtain ⟨po, rfl, qo, co⟩ := I.i9 rfl
          obtain ⟨px, rfl, qx, cx⟩ := I.i10 rfl
          clear I T4 V4 U4 L4
          obtain ⟨hi, hs, hxe, hxi, hxs⟩ := Xn_5.out.form
          obtain ⟨na, nc, hxe1⟩ := hxi.form
          obtain ⟨nb, nd, hxe2⟩ := hxs.form
          subst hxe1 hxe2 hxe
          clear hxi hxs
          obtain ⟨hi, hs, hxe, hxi, hxs⟩ := Xo_5.out.form
          obtain ⟨oa, oc, hxe1⟩ := hxi.form
          obtain ⟨ob, od, hxe2⟩ := hxs.form
          subst hxe1 hxe2 hxe
          clear hxi hxs
          obtain ⟨hi, hs, hxe, hxi, hxs⟩ := Xx_5.out.form
          obtain ⟨xa, xc, hxe1⟩ := hxi.form
          obtain ⟨xb, xd, hxe2⟩ := hxs.form
          subst hxe1 hxe2 hxe
          clear hxi hxs
          have Hn_5 : Hid (AtB w5 pn (.cells #[.bool (notV A).absent, .slice na (notV A).ints.length nc, .bool (notV A).co, .slice nb (notV A).strs.length nd] 25)) := hide cn
          have Ho_5 : Hid (AtB w5 po (.cells #[.bool (orV A B).absent, .slice oa (orV A B).ints.length oc, .bool (orV A B).co, .slice ob (orV A B).strs.length od] 25)) := hide co
          have Hx_5 : Hid (AtB w5 px (.cells #[.bool (andV A B).absent, .slice xa (andV A B).ints.length xc, .bool (andV A B).co, .slice xb (andV A B).strs.length xd] 25)) := hide cx
          clear cn co cx c0 c1 c2 c3 d0 d1 d2 d3 k0 k1 k2
          obtain ⟨c0, c1, c2, c3⟩ := setCells T5.out.e1
          obtain ⟨g0, g1, g2, g3⟩ := atCells Hn_5.out
          obtain ⟨h0, h1, h2, h3⟩ := atCells Ho_5.out
          obtain ⟨m0, m1, m2, m3⟩ := atCells Hx_5.out
          have PH5 := True.intro
          go_wp2
          go_region_held3 (fun w' => (w'.cell? ⟨w.heap.size, 0, none⟩ = some (.bool A.absent) ∧ w'.cell? ⟨w.heap.size, 1, none⟩ = some vi ∧ w'.cell? ⟨w.heap.size, 2, none⟩ = some (.bool A.co) ∧ w'.cell? ⟨w.heap.size, 3, none⟩ = some vs) ∧ (w'.cell? ⟨pn, 0, none⟩ = some (.bool (notV A).absent) ∧ w'.cell? ⟨pn, 1, none⟩ = some (.slice na (notV A).ints.length nc) ∧ w'.cell? ⟨pn, 2, none⟩ = some (.bool (notV A).co) ∧ w'.cell? ⟨pn, 3, none⟩ = some (.slice nb (notV A).strs.length nd)) ∧ (w'.cell? ⟨po, 0, none⟩ = some (.bool (orV A B).absent) ∧ w'.cell? ⟨po, 1, none⟩ = some (.slice oa (orV A B).ints.length oc) ∧ w'.cell? ⟨po, 2, none⟩ = some (.bool (orV A B).co) ∧ w'.cell? ⟨po, 3, none⟩ = some (.slice ob (orV A B).strs.length od)) ∧ (w'.cell? ⟨px, 0, none⟩ = some (.bool (andV A B).absent) ∧ w'.cell? ⟨px, 1, none⟩ = some (.slice xa (andV A B).ints.length xc) ∧ w'.cell? ⟨px, 2, none⟩ = some (.bool (andV A B).co) ∧ w'.cell? ⟨px, 3, none⟩ = some (.slice xb (andV A B).strs.length xd))) (first | go_keep | (refine ⟨⟨?_, ?_, ?_, ?_⟩, ⟨?_, ?_, ?_, ?_⟩, ⟨?_, ?_, ?_, ?_⟩, ?_, ?_, ?_, ?_⟩ <;> assumption))
            ((first
              | (go_at_call 10; have pz := PH5; clear pz PH5; refine (refRightSet_any _ (notV A) _ ?_).mono ?_; exact Xn_5.out; rintro r w6 ⟨rfl, b'⟩; have b : Below w5.heap.size w5 w6 := ⟨b'.os, b'.tape, b'.output, b'.size, b'.block⟩; rw [fN.out.good.r]; have T6 := hide (T5.out.on b); have V6 := hide (V5.out.on b); have U6 := hide (U5.out.on b); have L6 := hide (L5.out.on b); have Xn_6 := hide (Xn_5.out.on b); have Xo_6 := hide (Xo_5.out.on b); have Xx_6 := hide (Xx_5.out.on b); have Hn_6 := hide (Hn_5.out.on b); have Ho_6 := hide (Ho_5.out.on b); have Hx_6 := hide (Hx_5.out.on b); clear c0 c1 c2 c3 g0 g1 g2 g3 h0 h1 h2 h3 m0 m1 m2 m3; obtain ⟨c0, c1, c2, c3⟩ := setCells T6.out.e1; obtain ⟨g0, g1, g2, g3⟩ := atCells Hn_6.out; obtain ⟨h0, h1, h2, h3⟩ := atCells Ho_6.out; obtain ⟨m0, m1, m2, m3⟩ := atCells Hx_6.out; have PH6 := True.intro; clear b b' T5 V5 U5 L5 Xn_5 Xo_5 Xx_5 Hn_5 Ho_5 Hx_5 )
              | (go_at_call 10; have pz := PH6; clear pz PH6; refine (refRightSet_any _ (orV A B) _ ?_).mono ?_; exact Xo_6.out; rintro r w7 ⟨rfl, b'⟩; have b : Below w6.heap.size w6 w7 := ⟨b'.os, b'.tape, b'.output, b'.size, b'.block⟩; rw [fO.out.good.r]; have T7 := hide (T6.out.on b); have V7 := hide (V6.out.on b); have U7 := hide (U6.out.on b); have L7 := hide (L6.out.on b); have Xn_7 := hide (Xn_6.out.on b); have Xo_7 := hide (Xo_6.out.on b); have Xx_7 := hide (Xx_6.out.on b); have Hn_7 := hide (Hn_6.out.on b); have Ho_7 := hide (Ho_6.out.on b); have Hx_7 := hide (Hx_6.out.on b); clear c0 c1 c2 c3 g0 g1 g2 g3 h0 h1 h2 h3 m0 m1 m2 m3; obtain ⟨c0, c1, c2, c3⟩ := setCells T7.out.e1; obtain ⟨g0, g1, g2, g3⟩ := atCells Hn_7.out; obtain ⟨h0, h1, h2, h3⟩ := atCells Ho_7.out; obtain ⟨m0, m1, m2, m3⟩ := atCells Hx_7.out; have PH7 := True.intro; clear b b' T6 V6 U6 L6 Xn_6 Xo_6 Xx_6 Hn_6 Ho_6 Hx_6 )
              | (go_at_call 10; have pz := PH7; clear pz PH7; refine (refRightSet_any _ (andV A B) _ ?_).mono ?_; exact Xx_7.out; rintro r w8 ⟨rfl, b'⟩; have b : Below w7.heap.size w7 w8 := ⟨b'.os, b'.tape, b'.output, b'.size, b'.block⟩; rw [fX.out.good.r]; have T8 := hide (T7.out.on b); have V8 := hide (V7.out.on b); have U8 := hide (U7.out.on b); have L8 := hide (L7.out.on b); have Xn_8 := hide (Xn_7.out.on b); have Xo_8 := hide (Xo_7.out.on b); have Xx_8 := hide (Xx_7.out.on b); have Hn_8 := hide (Hn_7.out.on b); have Ho_8 := hide (Ho_7.out.on b); have Hx_8 := hide (Hx_7.out.on b); clear c0 c1 c2 c3 g0 g1 g2 g3 h0 h1 h2 h3 m0 m1 m2 m3; obtain ⟨c0, c1, c2, c3⟩ := setCells T8.out.e1; obtain ⟨g0, g1, g2, g3⟩ := atCells Hn_8.out; obtain ⟨h0, h1, h2, h3⟩ := atCells Ho_8.out; obtain ⟨m0, m1, m2, m3⟩ := atCells Hx_8.out; have PH8 := True.intro; clear b b' T7 V7 U7 L7 Xn_7 Xo_7 Xx_7 Hn_7 Ho_7 Hx_7 )
              | (go_at_call 11; have pz := PH8; clear pz PH8; refine (P.not _ (notV A) _ ?_ fN.out).mono ?_; exact Xn_8.out; rintro r w9 ⟨⟨x, rfl, sx⟩, b'⟩; have b : Below w8.heap.size w8 w9 := ⟨b'.os, b'.tape, b'.output, b'.size, b'.block⟩; rw [E1.out] at sx; have Xa_9 := hide sx; have T9 := hide (T8.out.on b); have V9 := hide (V8.out.on b); have U9 := hide (U8.out.on b); have L9 := hide (L8.out.on b); have Xn_9 := hide (Xn_8.out.on b); have Xo_9 := hide (Xo_8.out.on b); have Xx_9 := hide (Xx_8.out.on b); have Hn_9 := hide (Hn_8.out.on b); have Ho_9 := hide (Ho_8.out.on b); have Hx_9 := hide (Hx_8.out.on b); obtain ⟨xi9, xs9, hxe, hxi, hxs⟩ := sx.form; obtain ⟨xa9, xc9, hxe1⟩ := hxi.form; obtain ⟨xb9, xd9, hxe2⟩ := hxs.form; subst hxe1 hxe2 hxe; clear c0 c1 c2 c3 g0 g1 g2 g3 h0 h1 h2 h3 m0 m1 m2 m3; obtain ⟨c0, c1, c2, c3⟩ := setCells T9.out.e1; obtain ⟨g0, g1, g2, g3⟩ := atCells Hn_9.out; obtain ⟨h0, h1, h2, h3⟩ := atCells Ho_9.out; obtain ⟨m0, m1, m2, m3⟩ := atCells Hx_9.out; have PH9 := True.intro; clear b b' T8 V8 U8 L8 Xn_8 Xo_8 Xx_8 Hn_8 Ho_8 Hx_8 sx hxi hxs)
              | (go_at_call 14; have pz := PH9; clear pz PH9; refine (P.same _ _ A A _ ?_ ?_ fA.out fA.out).mono ?_; exact Xa_9.out; exact V9.out; rintro r w10 ⟨rfl, b'⟩; have b : Below w9.heap.size w9 w10 := ⟨b'.os, b'.tape, b'.output, b'.size, b'.block⟩; rw [E2.out]; have T10 := hide (T9.out.on b); have V10 := hide (V9.out.on b); have U10 := hide (U9.out.on b); have L10 := hide (L9.out.on b); have Xn_10 := hide (Xn_9.out.on b); have Xo_10 := hide (Xo_9.out.on b); have Xx_10 := hide (Xx_9.out.on b); have Hn_10 := hide (Hn_9.out.on b); have Ho_10 := hide (Ho_9.out.on b); have Hx_10 := hide (Hx_9.out.on b); clear c0 c1 c2 c3 g0 g1 g2 g3 h0 h1 h2 h3 m0 m1 m2 m3; obtain ⟨c0, c1, c2, c3⟩ := setCells T10.out.e1; obtain ⟨g0, g1, g2, g3⟩ := atCells Hn_10.out; obtain ⟨h0, h1, h2, h3⟩ := atCells Ho_10.out; obtain ⟨m0, m1, m2, m3⟩ := atCells Hx_10.out; have PH10 := True.intro; clear b b' T9 V9 U9 L9 Xn_9 Xo_9 Xx_9 Hn_9 Ho_9 Hx_9 Xa_9 )))
          go_wp2
          refine region7 A B _ k n s _ _ _ _ _ _ _ _ _ _ _ _ _ _ _ _ _ _ _ _ _ _ _ _ _ _ _ _ _ _ _ _ _ _ _ _ _ _ _ _ _ _ _ _ _ _ _ _ _ _ _ _ _ _ _ _ _ _ _ _ _ _ _ _ _ _ _ _ _ _ _ _ _ _ _ _ _ _ _ _ _ T10.out.e3 L10.out HlA.out HlB.out ?_
          intro w11 y70 y71 y72 y73 y74 y75 y76 I
          have T11 := hide (T10.out.on I.b)
          have V11 := hide (V10.out.on I.b)
          have U11 := hide (U10.out.on I.b)
          have Xn_11 := hide (Xn_10.out.on I.b)
          have Xo_11 := hide (Xo_10.out.on I.b)
          have Xx_11 := hide (Xx_10.out.on I.b)
          have Hn_11 := hide (Hn_10.out.on I.b)
          have Ho_11 := hide (Ho_10.out.on I.b)
          have Hx_11 := hide (Hx_10.out.on I.b)
          have E5 := I.i5 rfl
          have E6 := I.i6 rfl
          subst E5 E6
          obtain ⟨t, ft, ow⟩ := I.i4 rfl
          have okP := hide (pts_ok (k := k) (n := n) (s := s) HI.out HJ.out (by obtain ⟨_, _, h, _, hx⟩ := V11.out; injection h with h; simp at h; obtain ⟨-, rfl⟩ := h; exact hx.1) (by obtain ⟨_, _, h, _, hx⟩ := U11.out; injection h with h; simp at h; obtain ⟨-, rfl⟩ := h; exact hx.1) ft n0 n1 HS.out)
          have hlen := ptsL_len [A, B] (by
            intro S hS
            rcases List.mem_cons.1 hS with rfl | hS
            · exact HlA.out
            · rcases List.mem_cons.1 hS with rfl | hS
              · exact HlB.out
              · simp at hS)
          have hlen' : (ptsL [A, B]).length ≤ 404 := by simpa using hlen
          have hN : (ptsL [A, B]).length + 2 = (ptsL [A, B] ++ [(2, 0, t)] ++ [(k, n, s)]).length := by simp
          have npos : 0 < (ptsL [A, B] ++ [(2, 0, t)] ++ [(k, n, s)]).length := by simp
          obtain ⟨g, cap, rfl, hg1, hg2⟩ := ow.form npos
          rw [← hN] at ow ⊢
          generalize ptsL [A, B] ++ [(2, 0, t)] ++ [(k, n, s)] = pl at hN ow okP
          clear npos
          have nle : (ptsL [A, B]).length + 2 ≤ 406 := by omega
          generalize (ptsL [A, B]).length + 2 = N at *
          have HN := hide hN
          have O1 := hide ow
          have SG := hide hg2
          clear I ow ft hlen hlen' hN hg1 hg2 T10 V10 U10 L10 Xn_10 Xo_10 Xx_10 Hn_10 Ho_10 Hx_10 c0 c1 c2 c3 g0 g1 g2 g3 h0 h1 h2 h3 m0 m1 m2 m3 PH10 hz hz'
          go_wp2
          go_loopw [76] (fun i wr => ∃ j : Nat, i = .int .i64 j ∧ j ≤ N ∧ Hid (Below w11.heap.size w11 wr)) (fun i _ => N - (intOf i).toNat)
          case atStart => exact ⟨0, rfl, by omega, hide (Below.refl _ _)⟩
          case round =>
            obtain ⟨j, rfl, hj, HB⟩ := hrel
            by_cases hlt : j < N
            · have hj' : j < pl.length := by rw [← HN.out]; exact hlt
              obtain ⟨y0, y1, y2⟩ := (O1.out.on HB.out).at j hj'
              have okq := hide (okP.out (pl.getD j noVa) (by rw [List.getD_eq_getElem?_getD, List.getElem?_eq_getElem hj']; exact List.getElem_mem _))
              generalize pl.getD j noVa = q at *
              obtain ⟨qk, qn, qs⟩ := q
              have y0' : wr.cell? ⟨g, j * 3, none⟩ = some (.int .i64 qk) := y0
              have y1' : wr.cell? ⟨g, j * 3 + 1, none⟩ = some (.int .i64 qn) := y1
              have y2' : wr.cell? ⟨g, j * 3 + 2, none⟩ = some (.string qs) := y2
              have okz : qs.size ≤ 9223372036854775807 := okq.out.1
              clear y0 y1 y2
              by_cases z1 : (8 : Int) < (qs.size : Int)
              · skip
                go_wp2
                exact ⟨⟨j + 1, by go_num, by omega, hide (HB.out.trans (((Below.refl _ wr).alloc (Nat.le_refl _) _).mono HB.out.size))⟩, by simp [intOf]; omega⟩
              by_cases z2 : qk < 0
              · skip
                go_wp2
                exact ⟨⟨j + 1, by go_num, by omega, hide (HB.out.trans (((Below.refl _ wr).alloc (Nat.le_refl _) _).mono HB.out.size))⟩, by simp [intOf]; omega⟩
              by_cases z3 : 2 < qk
              · skip
                go_wp2
                exact ⟨⟨j + 1, by go_num, by omega, hide (HB.out.trans (((Below.refl _ wr).alloc (Nat.le_refl _) _).mono HB.out.size))⟩, by simp [intOf]; omega⟩
              by_cases k0 : qk = 0
              · subst k0
                by_cases hn : qn = 0
                · subst hn
                  cases hq : (!qs.toList.isEmpty)
                  · skip
                    obtain ⟨F1, F2, F3⟩ := turns_at fA.out.good fB.out.good 0 0 qs (right_0 hq) okq.out.2.1 okq.out.2.2
                    have ba := (Below.refl _ wr).alloc (Nat.le_refl _) (.cells #[.int .i64 0, .int .i64 0, .string qs] 27)
                    have D12 := hide (HB.out.trans (ba.mono HB.out.size))
                    have T12 := hide (T11.out.on D12.out)
                    have V12 := hide (V11.out.on D12.out)
                    have U12 := hide (U11.out.on D12.out)
                    have Xn_12 := hide (Xn_11.out.on D12.out)
                    have Xo_12 := hide (Xo_11.out.on D12.out)
                    have Xx_12 := hide (Xx_11.out.on D12.out)
                    have Hn_12 := hide (Hn_11.out.on D12.out)
                    have Ho_12 := hide (Ho_11.out.on D12.out)
                    have Hx_12 := hide (Hx_11.out.on D12.out)
                    have Hp_12 : Hid (AtB (wr.alloc (.cells #[.int .i64 0, .int .i64 0, .string qs] 27)) wr.heap.size (.cells #[.int .i64 0, .int .i64 0, .string qs] 27)) := hide (heap_new _ _)
                    go_wp2
                    clear ba y0' y1' y2'
                    generalize wr.alloc (.cells #[.int .i64 0, .int .i64 0, .string qs] 27) = w12 at *
                    have qz := hide okq.out.1
                    cases hbi : hasB A 0 0 qs
                    · cases hbj : hasB B 0 0 qs
                      · rw [hbi] at F1
                        rw [hbi, hbj] at F2 F3
                        have G1 : Hid (hasB (notV A) 0 0 qs = true) := hide F1
                        have G2 : Hid (hasB (orV A B) 0 0 qs = false) := hide F2
                        have G3 : Hid (hasB (andV A B) 0 0 qs = false) := hide F3
                        have GA := hide hbi
                        have GB := hide hbj
                        clear F1 F2 F3 hbi hbj
                        obtain ⟨c0, c1, c2, c3⟩ := setCells T12.out.e1
                        obtain ⟨d0, d1, d2, d3⟩ := setCells T12.out.e2
                        obtain ⟨g0, g1, g2, g3⟩ := atCells Hn_12.out
                        obtain ⟨h0, h1, h2, h3⟩ := atCells Ho_12.out
                        obtain ⟨m0, m1, m2, m3⟩ := atCells Hx_12.out
                        obtain ⟨p0, p1, p2⟩ := valCells Hp_12.out
                        have PH12 := True.intro
                        go_region_held3 (fun w' => (w'.cell? ⟨w.heap.size, 0, none⟩ = some (.bool A.absent) ∧ w'.cell? ⟨w.heap.size, 1, none⟩ = some vi ∧ w'.cell? ⟨w.heap.size, 2, none⟩ = some (.bool A.co) ∧ w'.cell? ⟨w.heap.size, 3, none⟩ = some vs) ∧ (w'.cell? ⟨w.heap.size + 1, 0, none⟩ = some (.bool B.absent) ∧ w'.cell? ⟨w.heap.size + 1, 1, none⟩ = some ui ∧ w'.cell? ⟨w.heap.size + 1, 2, none⟩ = some (.bool B.co) ∧ w'.cell? ⟨w.heap.size + 1, 3, none⟩ = some us) ∧ (w'.cell? ⟨wr.heap.size, 0, none⟩ = some (.int .i64 0) ∧ w'.cell? ⟨wr.heap.size, 1, none⟩ = some (.int .i64 0) ∧ w'.cell? ⟨wr.heap.size, 2, none⟩ = some (.string qs))) (first | go_keep | (refine ⟨⟨?_, ?_, ?_, ?_⟩, ⟨?_, ?_, ?_, ?_⟩, ?_, ?_, ?_⟩ <;> assumption)) ((first | (go_at_call 16; have pz := PH12; clear pz PH12; refine (refHas_any _ A 0 0 qs _ ?_ qz.out).mono ?_; exact V12.out; rintro r w13 ⟨rfl, b'⟩; rw [GA.out]; have b : Below w12.heap.size w12 w13 := ⟨b'.os, b'.tape, b'.output, b'.size, b'.block⟩; have D13 := hide (D12.out.trans (b.mono D12.out.size)); have T13 := hide (T12.out.on b); have V13 := hide (V12.out.on b); have U13 := hide (U12.out.on b); have Xn_13 := hide (Xn_12.out.on b); have Xo_13 := hide (Xo_12.out.on b); have Xx_13 := hide (Xx_12.out.on b); have Hn_13 := hide (Hn_12.out.on b); have Ho_13 := hide (Ho_12.out.on b); have Hx_13 := hide (Hx_12.out.on b); have Hp_13 := hide (Hp_12.out.on b); clear c0 c1 c2 c3 d0 d1 d2 d3 g0 g1 g2 g3 h0 h1 h2 h3 m0 m1 m2 m3 p0 p1 p2; obtain ⟨c0, c1, c2, c3⟩ := setCells T13.out.e1; obtain ⟨d0, d1, d2, d3⟩ := setCells T13.out.e2; obtain ⟨g0, g1, g2, g3⟩ := atCells Hn_13.out; obtain ⟨h0, h1, h2, h3⟩ := atCells Ho_13.out; obtain ⟨m0, m1, m2, m3⟩ := atCells Hx_13.out; obtain ⟨p0, p1, p2⟩ := valCells Hp_13.out; have PH13 := True.intro; clear b b' D12 T12 V12 U12 Xn_12 Xo_12 Xx_12 Hn_12 Ho_12 Hx_12 Hp_12) | (go_at_call 16; have pz := PH13; clear pz PH13; refine (refHas_any _ B 0 0 qs _ ?_ qz.out).mono ?_; exact U13.out; rintro r w14 ⟨rfl, b'⟩; rw [GB.out]; have b : Below w13.heap.size w13 w14 := ⟨b'.os, b'.tape, b'.output, b'.size, b'.block⟩; have D14 := hide (D13.out.trans (b.mono D13.out.size)); have T14 := hide (T13.out.on b); have V14 := hide (V13.out.on b); have U14 := hide (U13.out.on b); have Xn_14 := hide (Xn_13.out.on b); have Xo_14 := hide (Xo_13.out.on b); have Xx_14 := hide (Xx_13.out.on b); have Hn_14 := hide (Hn_13.out.on b); have Ho_14 := hide (Ho_13.out.on b); have Hx_14 := hide (Hx_13.out.on b); have Hp_14 := hide (Hp_13.out.on b); clear c0 c1 c2 c3 d0 d1 d2 d3 g0 g1 g2 g3 h0 h1 h2 h3 m0 m1 m2 m3 p0 p1 p2; obtain ⟨c0, c1, c2, c3⟩ := setCells T14.out.e1; obtain ⟨d0, d1, d2, d3⟩ := setCells T14.out.e2; obtain ⟨g0, g1, g2, g3⟩ := atCells Hn_14.out; obtain ⟨h0, h1, h2, h3⟩ := atCells Ho_14.out; obtain ⟨m0, m1, m2, m3⟩ := atCells Hx_14.out; obtain ⟨p0, p1, p2⟩ := valCells Hp_14.out; have PH14 := True.intro; clear b b' D13 T13 V13 U13 Xn_13 Xo_13 Xx_13 Hn_13 Ho_13 Hx_13 Hp_13)))
                        go_wp2_with fail
                        refine (refHas_any _ (notV A) 0 0 qs _ Xn_14.out qz.out).mono ?_
                        rintro r w15 ⟨rfl, b'⟩
                        rw [G1.out]
                        have b : Below w14.heap.size w14 w15 := ⟨b'.os, b'.tape, b'.output, b'.size, b'.block⟩
                        have D15 := hide (D14.out.trans (b.mono D14.out.size))
                        have T15 := hide (T14.out.on b)
                        have V15 := hide (V14.out.on b)
                        have U15 := hide (U14.out.on b)
                        have Xn_15 := hide (Xn_14.out.on b)
                        have Xo_15 := hide (Xo_14.out.on b)
                        have Xx_15 := hide (Xx_14.out.on b)
                        have Hn_15 := hide (Hn_14.out.on b)
                        have Ho_15 := hide (Ho_14.out.on b)
                        have Hx_15 := hide (Hx_14.out.on b)
                        have Hp_15 := hide (Hp_14.out.on b)
                        clear c0 c1 c2 c3 d0 d1 d2 d3 g0 g1 g2 g3 h0 h1 h2 h3 m0 m1 m2 m3 p0 p1 p2
                        obtain ⟨c0, c1, c2, c3⟩ := setCells T15.out.e1
                        obtain ⟨d0, d1, d2, d3⟩ := setCells T15.out.e2
                        obtain ⟨g0, g1, g2, g3⟩ := atCells Hn_15.out
                        obtain ⟨h0, h1, h2, h3⟩ := atCells Ho_15.out
                        obtain ⟨m0, m1, m2, m3⟩ := atCells Hx_15.out
                        obtain ⟨p0, p1, p2⟩ := valCells Hp_15.out
                        have PH15 := True.intro
                        clear b b' D14 T14 V14 U14 Xn_14 Xo_14 Xx_14 Hn_14 Ho_14 Hx_14 Hp_14
                        go_wp2_with fail
                        refine (refHas_any _ (orV A B) 0 0 qs _ Xo_15.out qz.out).mono ?_
                        rintro r w16 ⟨rfl, b'⟩
                        rw [G2.out]
                        have b : Below w15.heap.size w15 w16 := ⟨b'.os, b'.tape, b'.output, b'.size, b'.block⟩
                        have D16 := hide (D15.out.trans (b.mono D15.out.size))
                        have T16 := hide (T15.out.on b)
                        have V16 := hide (V15.out.on b)
                        have U16 := hide (U15.out.on b)
                        have Xn_16 := hide (Xn_15.out.on b)
                        have Xo_16 := hide (Xo_15.out.on b)
                        have Xx_16 := hide (Xx_15.out.on b)
                        have Hn_16 := hide (Hn_15.out.on b)
                        have Ho_16 := hide (Ho_15.out.on b)
                        have Hx_16 := hide (Hx_15.out.on b)
                        have Hp_16 := hide (Hp_15.out.on b)
                        clear c0 c1 c2 c3 d0 d1 d2 d3 g0 g1 g2 g3 h0 h1 h2 h3 m0 m1 m2 m3 p0 p1 p2
                        obtain ⟨c0, c1, c2, c3⟩ := setCells T16.out.e1
                        obtain ⟨d0, d1, d2, d3⟩ := setCells T16.out.e2
                        obtain ⟨g0, g1, g2, g3⟩ := atCells Hn_16.out
                        obtain ⟨h0, h1, h2, h3⟩ := atCells Ho_16.out
                        obtain ⟨m0, m1, m2, m3⟩ := atCells Hx_16.out
                        obtain ⟨p0, p1, p2⟩ := valCells Hp_16.out
                        have PH16 := True.intro
                        clear b b' D15 T15 V15 U15 Xn_15 Xo_15 Xx_15 Hn_15 Ho_15 Hx_15 Hp_15
                        go_wp2_with fail
                        refine (refHas_any _ (andV A B) 0 0 qs _ Xx_16.out qz.out).mono ?_
                        rintro r w17 ⟨rfl, b'⟩
                        rw [G3.out]
                        have b : Below w16.heap.size w16 w17 := ⟨b'.os, b'.tape, b'.output, b'.size, b'.block⟩
                        have D17 := hide (D16.out.trans (b.mono D16.out.size))
                        have T17 := hide (T16.out.on b)
                        have V17 := hide (V16.out.on b)
                        have U17 := hide (U16.out.on b)
                        have Xn_17 := hide (Xn_16.out.on b)
                        have Xo_17 := hide (Xo_16.out.on b)
                        have Xx_17 := hide (Xx_16.out.on b)
                        have Hn_17 := hide (Hn_16.out.on b)
                        have Ho_17 := hide (Ho_16.out.on b)
                        have Hx_17 := hide (Hx_16.out.on b)
                        have Hp_17 := hide (Hp_16.out.on b)
                        clear c0 c1 c2 c3 d0 d1 d2 d3 g0 g1 g2 g3 h0 h1 h2 h3 m0 m1 m2 m3 p0 p1 p2
                        obtain ⟨c0, c1, c2, c3⟩ := setCells T17.out.e1
                        obtain ⟨d0, d1, d2, d3⟩ := setCells T17.out.e2
                        obtain ⟨g0, g1, g2, g3⟩ := atCells Hn_17.out
                        obtain ⟨h0, h1, h2, h3⟩ := atCells Ho_17.out
                        obtain ⟨m0, m1, m2, m3⟩ := atCells Hx_17.out
                        obtain ⟨p0, p1, p2⟩ := valCells Hp_17.out
                        have PH17 := True.intro
                        clear b b' D16 T16 V16 U16 Xn_16 Xo_16 Xx_16 Hn_16 Ho_16 Hx_16 Hp_16
                        go_wp2
                        exact ⟨⟨j + 1, by go_num, by omega, D17⟩, by simp [intOf]; omega⟩
                      · rw [hbi] at F1
                        rw [hbi, hbj] at F2 F3
                        have G1 : Hid (hasB (notV A) 0 0 qs = true) := hide F1
                        have G2 : Hid (hasB (orV A B) 0 0 qs = true) := hide F2
                        have G3 : Hid (hasB (andV A B) 0 0 qs = false) := hide F3
                        have GA := hide hbi
                        have GB := hide hbj
                        clear F1 F2 F3 hbi hbj
                        obtain ⟨c0, c1, c2, c3⟩ := setCells T12.out.e1
                        obtain ⟨d0, d1, d2, d3⟩ := setCells T12.out.e2
                        obtain ⟨g0, g1, g2, g3⟩ := atCells Hn_12.out
                        obtain ⟨h0, h1, h2, h3⟩ := atCells Ho_12.out
                        obtain ⟨m0, m1, m2, m3⟩ := atCells Hx_12.out
                        obtain ⟨p0, p1, p2⟩ := valCells Hp_12.out
                        have PH12 := True.intro
                        go_region_held3 (fun w' => (w'.cell? ⟨w.heap.size, 0, none⟩ = some (.bool A.absent) ∧ w'.cell? ⟨w.heap.size, 1, none⟩ = some vi ∧ w'.cell? ⟨w.heap.size, 2, none⟩ = some (.bool A.co) ∧ w'.cell? ⟨w.heap.size, 3, none⟩ = some vs) ∧ (w'.cell? ⟨w.heap.size + 1, 0, none⟩ = some (.bool B.absent) ∧ w'.cell? ⟨w.heap.size + 1, 1, none⟩ = some ui ∧ w'.cell? ⟨w.heap.size + 1, 2, none⟩ = some (.bool B.co) ∧ w'.cell? ⟨w.heap.size + 1, 3, none⟩ = some us) ∧ (w'.cell? ⟨wr.heap.size, 0, none⟩ = some (.int .i64 0) ∧ w'.cell? ⟨wr.heap.size, 1, none⟩ = some (.int .i64 0) ∧ w'.cell? ⟨wr.heap.size, 2, none⟩ = some (.string qs))) (first | go_keep | (refine ⟨⟨?_, ?_, ?_, ?_⟩, ⟨?_, ?_, ?_, ?_⟩, ?_, ?_, ?_⟩ <;> assumption)) ((first | (go_at_call 16; have pz := PH12; clear pz PH12; refine (refHas_any _ A 0 0 qs _ ?_ qz.out).mono ?_; exact V12.out; rintro r w13 ⟨rfl, b'⟩; rw [GA.out]; have b : Below w12.heap.size w12 w13 := ⟨b'.os, b'.tape, b'.output, b'.size, b'.block⟩; have D13 := hide (D12.out.trans (b.mono D12.out.size)); have T13 := hide (T12.out.on b); have V13 := hide (V12.out.on b); have U13 := hide (U12.out.on b); have Xn_13 := hide (Xn_12.out.on b); have Xo_13 := hide (Xo_12.out.on b); have Xx_13 := hide (Xx_12.out.on b); have Hn_13 := hide (Hn_12.out.on b); have Ho_13 := hide (Ho_12.out.on b); have Hx_13 := hide (Hx_12.out.on b); have Hp_13 := hide (Hp_12.out.on b); clear c0 c1 c2 c3 d0 d1 d2 d3 g0 g1 g2 g3 h0 h1 h2 h3 m0 m1 m2 m3 p0 p1 p2; obtain ⟨c0, c1, c2, c3⟩ := setCells T13.out.e1; obtain ⟨d0, d1, d2, d3⟩ := setCells T13.out.e2; obtain ⟨g0, g1, g2, g3⟩ := atCells Hn_13.out; obtain ⟨h0, h1, h2, h3⟩ := atCells Ho_13.out; obtain ⟨m0, m1, m2, m3⟩ := atCells Hx_13.out; obtain ⟨p0, p1, p2⟩ := valCells Hp_13.out; have PH13 := True.intro; clear b b' D12 T12 V12 U12 Xn_12 Xo_12 Xx_12 Hn_12 Ho_12 Hx_12 Hp_12) | (go_at_call 16; have pz := PH13; clear pz PH13; refine (refHas_any _ B 0 0 qs _ ?_ qz.out).mono ?_; exact U13.out; rintro r w14 ⟨rfl, b'⟩; rw [GB.out]; have b : Below w13.heap.size w13 w14 := ⟨b'.os, b'.tape, b'.output, b'.size, b'.block⟩; have D14 := hide (D13.out.trans (b.mono D13.out.size)); have T14 := hide (T13.out.on b); have V14 := hide (V13.out.on b); have U14 := hide (U13.out.on b); have Xn_14 := hide (Xn_13.out.on b); have Xo_14 := hide (Xo_13.out.on b); have Xx_14 := hide (Xx_13.out.on b); have Hn_14 := hide (Hn_13.out.on b); have Ho_14 := hide (Ho_13.out.on b); have Hx_14 := hide (Hx_13.out.on b); have Hp_14 := hide (Hp_13.out.on b); clear c0 c1 c2 c3 d0 d1 d2 d3 g0 g1 g2 g3 h0 h1 h2 h3 m0 m1 m2 m3 p0 p1 p2; obtain ⟨c0, c1, c2, c3⟩ := setCells T14.out.e1; obtain ⟨d0, d1, d2, d3⟩ := setCells T14.out.e2; obtain ⟨g0, g1, g2, g3⟩ := atCells Hn_14.out; obtain ⟨h0, h1, h2, h3⟩ := atCells Ho_14.out; obtain ⟨m0, m1, m2, m3⟩ := atCells Hx_14.out; obtain ⟨p0, p1, p2⟩ := valCells Hp_14.out; have PH14 := True.intro; clear b b' D13 T13 V13 U13 Xn_13 Xo_13 Xx_13 Hn_13 Ho_13 Hx_13 Hp_13)))
                        go_wp2_with fail
                        refine (refHas_any _ (notV A) 0 0 qs _ Xn_14.out qz.out).mono ?_
                        rintro r w15 ⟨rfl, b'⟩
                        rw [G1.out]
                        have b : Below w14.heap.size w14 w15 := ⟨b'.os, b'.tape, b'.output, b'.size, b'.block⟩
                        have D15 := hide (D14.out.trans (b.mono D14.out.size))
                        have T15 := hide (T14.out.on b)
                        have V15 := hide (V14.out.on b)
                        have U15 := hide (U14.out.on b)
                        have Xn_15 := hide (Xn_14.out.on b)
                        have Xo_15 := hide (Xo_14.out.on b)
                        have Xx_15 := hide (Xx_14.out.on b)
                        have Hn_15 := hide (Hn_14.out.on b)
                        have Ho_15 := hide (Ho_14.out.on b)
                        have Hx_15 := hide (Hx_14.out.on b)
                        have Hp_15 := hide (Hp_14.out.on b)
                        clear c0 c1 c2 c3 d0 d1 d2 d3 g0 g1 g2 g3 h0 h1 h2 h3 m0 m1 m2 m3 p0 p1 p2
                        obtain ⟨c0, c1, c2, c3⟩ := setCells T15.out.e1
                        obtain ⟨d0, d1, d2, d3⟩ := setCells T15.out.e2
                        obtain ⟨g0, g1, g2, g3⟩ := atCells Hn_15.out
                        obtain ⟨h0, h1, h2, h3⟩ := atCells Ho_15.out
                        obtain ⟨m0, m1, m2, m3⟩ := atCells Hx_15.out
                        obtain ⟨p0, p1, p2⟩ := valCells Hp_15.out
                        have PH15 := True.intro
                        clear b b' D14 T14 V14 U14 Xn_14 Xo_14 Xx_14 Hn_14 Ho_14 Hx_14 Hp_14
                        go_wp2_with fail
                        refine (refHas_any _ (orV A B) 0 0 qs _ Xo_15.out qz.out).mono ?_
                        rintro r w16 ⟨rfl, b'⟩
                        rw [G2.out]
                        have b : Below w15.heap.size w15 w16 := ⟨b'.os, b'.tape, b'.output, b'.size, b'.block⟩
                        have D16 := hide (D15.out.trans (b.mono D15.out.size))
                        have T16 := hide (T15.out.on b)
                        have V16 := hide (V15.out.on b)
                        have U16 := hide (U15.out.on b)
                        have Xn_16 := hide (Xn_15.out.on b)
                        have Xo_16 := hide (Xo_15.out.on b)
                        have Xx_16 := hide (Xx_15.out.on b)
                        have Hn_16 := hide (Hn_15.out.on b)
                        have Ho_16 := hide (Ho_15.out.on b)
                        have Hx_16 := hide (Hx_15.out.on b)
                        have Hp_16 := hide (Hp_15.out.on b)
                        clear c0 c1 c2 c3 d0 d1 d2 d3 g0 g1 g2 g3 h0 h1 h2 h3 m0 m1 m2 m3 p0 p1 p2
                        obtain ⟨c0, c1, c2, c3⟩ := setCells T16.out.e1
                        obtain ⟨d0, d1, d2, d3⟩ := setCells T16.out.e2
                        obtain ⟨g0, g1, g2, g3⟩ := atCells Hn_16.out
                        obtain ⟨h0, h1, h2, h3⟩ := atCells Ho_16.out
                        obtain ⟨m0, m1, m2, m3⟩ := atCells Hx_16.out
                        obtain ⟨p0, p1, p2⟩ := valCells Hp_16.out
                        have PH16 := True.intro
                        clear b b' D15 T15 V15 U15 Xn_15 Xo_15 Xx_15 Hn_15 Ho_15 Hx_15 Hp_15
                        go_wp2_with fail
                        refine (refHas_any _ (andV A B) 0 0 qs _ Xx_16.out qz.out).mono ?_
                        rintro r w17 ⟨rfl, b'⟩
                        rw [G3.out]
                        have b : Below w16.heap.size w16 w17 := ⟨b'.os, b'.tape, b'.output, b'.size, b'.block⟩
                        have D17 := hide (D16.out.trans (b.mono D16.out.size))
                        have T17 := hide (T16.out.on b)
                        have V17 := hide (V16.out.on b)
                        have U17 := hide (U16.out.on b)
                        have Xn_17 := hide (Xn_16.out.on b)
                        have Xo_17 := hide (Xo_16.out.on b)
                        have Xx_17 := hide (Xx_16.out.on b)
                        have Hn_17 := hide (Hn_16.out.on b)
                        have Ho_17 := hide (Ho_16.out.on b)
                        have Hx_17 := hide (Hx_16.out.on b)
                        have Hp_17 := hide (Hp_16.out.on b)
                        clear c0 c1 c2 c3 d0 d1 d2 d3 g0 g1 g2 g3 h0 h1 h2 h3 m0 m1 m2 m3 p0 p1 p2
                        obtain ⟨c0, c1, c2, c3⟩ := setCells T17.out.e1
                        obtain ⟨d0, d1, d2, d3⟩ := setCells T17.out.e2
                        obtain ⟨g0, g1, g2, g3⟩ := atCells Hn_17.out
                        obtain ⟨h0, h1, h2, h3⟩ := atCells Ho_17.out
                        obtain ⟨m0, m1, m2, m3⟩ := atCells Hx_17.out
                        obtain ⟨p0, p1, p2⟩ := valCells Hp_17.out
                        have PH17 := True.intro
                        clear b b' D16 T16 V16 U16 Xn_16 Xo_16 Xx_16 Hn_16 Ho_16 Hx_16 Hp_16
                        go_wp2
                        exact ⟨⟨j + 1, by go_num, by omega, D17⟩, by simp [intOf]; omega⟩
                    · cases hbj : hasB B 0 0 qs
                      · rw [hbi] at F1
                        rw [hbi, hbj] at F2 F3
                        have G1 : Hid (hasB (notV A) 0 0 qs = false) := hide F1
                        have G2 : Hid (hasB (orV A B) 0 0 qs = true) := hide F2
                        have G3 : Hid (hasB (andV A B) 0 0 qs = false) := hide F3
                        have GA := hide hbi
                        have GB := hide hbj
                        clear F1 F2 F3 hbi hbj
                        obtain ⟨c0, c1, c2, c3⟩ := setCells T12.out.e1
                        obtain ⟨d0, d1, d2, d3⟩ := setCells T12.out.e2
                        obtain ⟨g0, g1, g2, g3⟩ := atCells Hn_12.out
                        obtain ⟨h0, h1, h2, h3⟩ := atCells Ho_12.out
                        obtain ⟨m0, m1, m2, m3⟩ := atCells Hx_12.out
                        obtain ⟨p0, p1, p2⟩ := valCells Hp_12.out
                        have PH12 := True.intro
                        go_region_held3 (fun w' => (w'.cell? ⟨w.heap.size, 0, none⟩ = some (.bool A.absent) ∧ w'.cell? ⟨w.heap.size, 1, none⟩ = some vi ∧ w'.cell? ⟨w.heap.size, 2, none⟩ = some (.bool A.co) ∧ w'.cell? ⟨w.heap.size, 3, none⟩ = some vs) ∧ (w'.cell? ⟨w.heap.size + 1, 0, none⟩ = some (.bool B.absent) ∧ w'.cell? ⟨w.heap.size + 1, 1, none⟩ = some ui ∧ w'.cell? ⟨w.heap.size + 1, 2, none⟩ = some (.bool B.co) ∧ w'.cell? ⟨w.heap.size + 1, 3, none⟩ = some us) ∧ (w'.cell? ⟨wr.heap.size, 0, none⟩ = some (.int .i64 0) ∧ w'.cell? ⟨wr.heap.size, 1, none⟩ = some (.int .i64 0) ∧ w'.cell? ⟨wr.heap.size, 2, none⟩ = some (.string qs))) (first | go_keep | (refine ⟨⟨?_, ?_, ?_, ?_⟩, ⟨?_, ?_, ?_, ?_⟩, ?_, ?_, ?_⟩ <;> assumption)) ((first | (go_at_call 16; have pz := PH12; clear pz PH12; refine (refHas_any _ A 0 0 qs _ ?_ qz.out).mono ?_; exact V12.out; rintro r w13 ⟨rfl, b'⟩; rw [GA.out]; have b : Below w12.heap.size w12 w13 := ⟨b'.os, b'.tape, b'.output, b'.size, b'.block⟩; have D13 := hide (D12.out.trans (b.mono D12.out.size)); have T13 := hide (T12.out.on b); have V13 := hide (V12.out.on b); have U13 := hide (U12.out.on b); have Xn_13 := hide (Xn_12.out.on b); have Xo_13 := hide (Xo_12.out.on b); have Xx_13 := hide (Xx_12.out.on b); have Hn_13 := hide (Hn_12.out.on b); have Ho_13 := hide (Ho_12.out.on b); have Hx_13 := hide (Hx_12.out.on b); have Hp_13 := hide (Hp_12.out.on b); clear c0 c1 c2 c3 d0 d1 d2 d3 g0 g1 g2 g3 h0 h1 h2 h3 m0 m1 m2 m3 p0 p1 p2; obtain ⟨c0, c1, c2, c3⟩ := setCells T13.out.e1; obtain ⟨d0, d1, d2, d3⟩ := setCells T13.out.e2; obtain ⟨g0, g1, g2, g3⟩ := atCells Hn_13.out; obtain ⟨h0, h1, h2, h3⟩ := atCells Ho_13.out; obtain ⟨m0, m1, m2, m3⟩ := atCells Hx_13.out; obtain ⟨p0, p1, p2⟩ := valCells Hp_13.out; have PH13 := True.intro; clear b b' D12 T12 V12 U12 Xn_12 Xo_12 Xx_12 Hn_12 Ho_12 Hx_12 Hp_12) | (go_at_call 16; have pz := PH13; clear pz PH13; refine (refHas_any _ B 0 0 qs _ ?_ qz.out).mono ?_; exact U13.out; rintro r w14 ⟨rfl, b'⟩; rw [GB.out]; have b : Below w13.heap.size w13 w14 := ⟨b'.os, b'.tape, b'.output, b'.size, b'.block⟩; have D14 := hide (D13.out.trans (b.mono D13.out.size)); have T14 := hide (T13.out.on b); have V14 := hide (V13.out.on b); have U14 := hide (U13.out.on b); have Xn_14 := hide (Xn_13.out.on b); have Xo_14 := hide (Xo_13.out.on b); have Xx_14 := hide (Xx_13.out.on b); have Hn_14 := hide (Hn_13.out.on b); have Ho_14 := hide (Ho_13.out.on b); have Hx_14 := hide (Hx_13.out.on b); have Hp_14 := hide (Hp_13.out.on b); clear c0 c1 c2 c3 d0 d1 d2 d3 g0 g1 g2 g3 h0 h1 h2 h3 m0 m1 m2 m3 p0 p1 p2; obtain ⟨c0, c1, c2, c3⟩ := setCells T14.out.e1; obtain ⟨d0, d1, d2, d3⟩ := setCells T14.out.e2; obtain ⟨g0, g1, g2, g3⟩ := atCells Hn_14.out; obtain ⟨h0, h1, h2, h3⟩ := atCells Ho_14.out; obtain ⟨m0, m1, m2, m3⟩ := atCells Hx_14.out; obtain ⟨p0, p1, p2⟩ := valCells Hp_14.out; have PH14 := True.intro; clear b b' D13 T13 V13 U13 Xn_13 Xo_13 Xx_13 Hn_13 Ho_13 Hx_13 Hp_13)))
                        go_wp2_with fail
                        refine (refHas_any _ (notV A) 0 0 qs _ Xn_14.out qz.out).mono ?_
                        rintro r w15 ⟨rfl, b'⟩
                        rw [G1.out]
                        have b : Below w14.heap.size w14 w15 := ⟨b'.os, b'.tape, b'.output, b'.size, b'.block⟩
                        have D15 := hide (D14.out.trans (b.mono D14.out.size))
                        have T15 := hide (T14.out.on b)
                        have V15 := hide (V14.out.on b)
                        have U15 := hide (U14.out.on b)
                        have Xn_15 := hide (Xn_14.out.on b)
                        have Xo_15 := hide (Xo_14.out.on b)
                        have Xx_15 := hide (Xx_14.out.on b)
                        have Hn_15 := hide (Hn_14.out.on b)
                        have Ho_15 := hide (Ho_14.out.on b)
                        have Hx_15 := hide (Hx_14.out.on b)
                        have Hp_15 := hide (Hp_14.out.on b)
                        clear c0 c1 c2 c3 d0 d1 d2 d3 g0 g1 g2 g3 h0 h1 h2 h3 m0 m1 m2 m3 p0 p1 p2
                        obtain ⟨c0, c1, c2, c3⟩ := setCells T15.out.e1
                        obtain ⟨d0, d1, d2, d3⟩ := setCells T15.out.e2
                        obtain ⟨g0, g1, g2, g3⟩ := atCells Hn_15.out
                        obtain ⟨h0, h1, h2, h3⟩ := atCells Ho_15.out
                        obtain ⟨m0, m1, m2, m3⟩ := atCells Hx_15.out
                        obtain ⟨p0, p1, p2⟩ := valCells Hp_15.out
                        have PH15 := True.intro
                        clear b b' D14 T14 V14 U14 Xn_14 Xo_14 Xx_14 Hn_14 Ho_14 Hx_14 Hp_14
                        go_wp2_with fail
                        refine (refHas_any _ (orV A B) 0 0 qs _ Xo_15.out qz.out).mono ?_
                        rintro r w16 ⟨rfl, b'⟩
                        rw [G2.out]
                        have b : Below w15.heap.size w15 w16 := ⟨b'.os, b'.tape, b'.output, b'.size, b'.block⟩
                        have D16 := hide (D15.out.trans (b.mono D15.out.size))
                        have T16 := hide (T15.out.on b)
                        have V16 := hide (V15.out.on b)
                        have U16 := hide (U15.out.on b)
                        have Xn_16 := hide (Xn_15.out.on b)
                        have Xo_16 := hide (Xo_15.out.on b)
                        have Xx_16 := hide (Xx_15.out.on b)
                        have Hn_16 := hide (Hn_15.out.on b)
                        have Ho_16 := hide (Ho_15.out.on b)
                        have Hx_16 := hide (Hx_15.out.on b)
                        have Hp_16 := hide (Hp_15.out.on b)
                        clear c0 c1 c2 c3 d0 d1 d2 d3 g0 g1 g2 g3 h0 h1 h2 h3 m0 m1 m2 m3 p0 p1 p2
                        obtain ⟨c0, c1, c2, c3⟩ := setCells T16.out.e1
                        obtain ⟨d0, d1, d2, d3⟩ := setCells T16.out.e2
                        obtain ⟨g0, g1, g2, g3⟩ := atCells Hn_16.out
                        obtain ⟨h0, h1, h2, h3⟩ := atCells Ho_16.out
                        obtain ⟨m0, m1, m2, m3⟩ := atCells Hx_16.out
                        obtain ⟨p0, p1, p2⟩ := valCells Hp_16.out
                        have PH16 := True.intro
                        clear b b' D15 T15 V15 U15 Xn_15 Xo_15 Xx_15 Hn_15 Ho_15 Hx_15 Hp_15
                        go_wp2_with fail
                        refine (refHas_any _ (andV A B) 0 0 qs _ Xx_16.out qz.out).mono ?_
                        rintro r w17 ⟨rfl, b'⟩
                        rw [G3.out]
                        have b : Below w16.heap.size w16 w17 := ⟨b'.os, b'.tape, b'.output, b'.size, b'.block⟩
                        have D17 := hide (D16.out.trans (b.mono D16.out.size))
                        have T17 := hide (T16.out.on b)
                        have V17 := hide (V16.out.on b)
                        have U17 := hide (U16.out.on b)
                        have Xn_17 := hide (Xn_16.out.on b)
                        have Xo_17 := hide (Xo_16.out.on b)
                        have Xx_17 := hide (Xx_16.out.on b)
                        have Hn_17 := hide (Hn_16.out.on b)
                        have Ho_17 := hide (Ho_16.out.on b)
                        have Hx_17 := hide (Hx_16.out.on b)
                        have Hp_17 := hide (Hp_16.out.on b)
                        clear c0 c1 c2 c3 d0 d1 d2 d3 g0 g1 g2 g3 h0 h1 h2 h3 m0 m1 m2 m3 p0 p1 p2
                        obtain ⟨c0, c1, c2, c3⟩ := setCells T17.out.e1
                        obtain ⟨d0, d1, d2, d3⟩ := setCells T17.out.e2
                        obtain ⟨g0, g1, g2, g3⟩ := atCells Hn_17.out
                        obtain ⟨h0, h1, h2, h3⟩ := atCells Ho_17.out
                        obtain ⟨m0, m1, m2, m3⟩ := atCells Hx_17.out
                        obtain ⟨p0, p1, p2⟩ := valCells Hp_17.out
                        have PH17 := True.intro
                        clear b b' D16 T16 V16 U16 Xn_16 Xo_16 Xx_16 Hn_16 Ho_16 Hx_16 Hp_16
                        go_wp2
                        exact ⟨⟨j + 1, by go_num, by omega, D17⟩, by simp [intOf]; omega⟩
                      · rw [hbi] at F1
                        rw [hbi, hbj] at F2 F3
                        have G1 : Hid (hasB (notV A) 0 0 qs = false) := hide F1
                        have G2 : Hid (hasB (orV A B) 0 0 qs = true) := hide F2
                        have G3 : Hid (hasB (andV A B) 0 0 qs = true) := hide F3
                        have GA := hide hbi
                        have GB := hide hbj
                        clear F1 F2 F3 hbi hbj
                        obtain ⟨c0, c1, c2, c3⟩ := setCells T12.out.e1
                        obtain ⟨d0, d1, d2, d3⟩ := setCells T12.out.e2
                        obtain ⟨g0, g1, g2, g3⟩ := atCells Hn_12.out
                        obtain ⟨h0, h1, h2, h3⟩ := atCells Ho_12.out
                        obtain ⟨m0, m1, m2, m3⟩ := atCells Hx_12.out
                        obtain ⟨p0, p1, p2⟩ := valCells Hp_12.out
                        have PH12 := True.intro
                        go_region_held3 (fun w' => (w'.cell? ⟨w.heap.size, 0, none⟩ = some (.bool A.absent) ∧ w'.cell? ⟨w.heap.size, 1, none⟩ = some vi ∧ w'.cell? ⟨w.heap.size, 2, none⟩ = some (.bool A.co) ∧ w'.cell? ⟨w.heap.size, 3, none⟩ = some vs) ∧ (w'.cell? ⟨w.heap.size + 1, 0, none⟩ = some (.bool B.absent) ∧ w'.cell? ⟨w.heap.size + 1, 1, none⟩ = some ui ∧ w'.cell? ⟨w.heap.size + 1, 2, none⟩ = some (.bool B.co) ∧ w'.cell? ⟨w.heap.size + 1, 3, none⟩ = some us) ∧ (w'.cell? ⟨wr.heap.size, 0, none⟩ = some (.int .i64 0) ∧ w'.cell? ⟨wr.heap.size, 1, none⟩ = some (.int .i64 0) ∧ w'.cell? ⟨wr.heap.size, 2, none⟩ = some (.string qs))) (first | go_keep | (refine ⟨⟨?_, ?_, ?_, ?_⟩, ⟨?_, ?_, ?_, ?_⟩, ?_, ?_, ?_⟩ <;> assumption)) ((first | (go_at_call 16; have pz := PH12; clear pz PH12; refine (refHas_any _ A 0 0 qs _ ?_ qz.out).mono ?_; exact V12.out; rintro r w13 ⟨rfl, b'⟩; rw [GA.out]; have b : Below w12.heap.size w12 w13 := ⟨b'.os, b'.tape, b'.output, b'.size, b'.block⟩; have D13 := hide (D12.out.trans (b.mono D12.out.size)); have T13 := hide (T12.out.on b); have V13 := hide (V12.out.on b); have U13 := hide (U12.out.on b); have Xn_13 := hide (Xn_12.out.on b); have Xo_13 := hide (Xo_12.out.on b); have Xx_13 := hide (Xx_12.out.on b); have Hn_13 := hide (Hn_12.out.on b); have Ho_13 := hide (Ho_12.out.on b); have Hx_13 := hide (Hx_12.out.on b); have Hp_13 := hide (Hp_12.out.on b); clear c0 c1 c2 c3 d0 d1 d2 d3 g0 g1 g2 g3 h0 h1 h2 h3 m0 m1 m2 m3 p0 p1 p2; obtain ⟨c0, c1, c2, c3⟩ := setCells T13.out.e1; obtain ⟨d0, d1, d2, d3⟩ := setCells T13.out.e2; obtain ⟨g0, g1, g2, g3⟩ := atCells Hn_13.out; obtain ⟨h0, h1, h2, h3⟩ := atCells Ho_13.out; obtain ⟨m0, m1, m2, m3⟩ := atCells Hx_13.out; obtain ⟨p0, p1, p2⟩ := valCells Hp_13.out; have PH13 := True.intro; clear b b' D12 T12 V12 U12 Xn_12 Xo_12 Xx_12 Hn_12 Ho_12 Hx_12 Hp_12) | (go_at_call 16; have pz := PH13; clear pz PH13; refine (refHas_any _ B 0 0 qs _ ?_ qz.out).mono ?_; exact U13.out; rintro r w14 ⟨rfl, b'⟩; rw [GB.out]; have b : Below w13.heap.size w13 w14 := ⟨b'.os, b'.tape, b'.output, b'.size, b'.block⟩; have D14 := hide (D13.out.trans (b.mono D13.out.size)); have T14 := hide (T13.out.on b); have V14 := hide (V13.out.on b); have U14 := hide (U13.out.on b); have Xn_14 := hide (Xn_13.out.on b); have Xo_14 := hide (Xo_13.out.on b); have Xx_14 := hide (Xx_13.out.on b); have Hn_14 := hide (Hn_13.out.on b); have Ho_14 := hide (Ho_13.out.on b); have Hx_14 := hide (Hx_13.out.on b); have Hp_14 := hide (Hp_13.out.on b); clear c0 c1 c2 c3 d0 d1 d2 d3 g0 g1 g2 g3 h0 h1 h2 h3 m0 m1 m2 m3 p0 p1 p2; obtain ⟨c0, c1, c2, c3⟩ := setCells T14.out.e1; obtain ⟨d0, d1, d2, d3⟩ := setCells T14.out.e2; obtain ⟨g0, g1, g2, g3⟩ := atCells Hn_14.out; obtain ⟨h0, h1, h2, h3⟩ := atCells Ho_14.out; obtain ⟨m0, m1, m2, m3⟩ := atCells Hx_14.out; obtain ⟨p0, p1, p2⟩ := valCells Hp_14.out; have PH14 := True.intro; clear b b' D13 T13 V13 U13 Xn_13 Xo_13 Xx_13 Hn_13 Ho_13 Hx_13 Hp_13)))
                        go_wp2_with fail
                        refine (refHas_any _ (notV A) 0 0 qs _ Xn_14.out qz.out).mono ?_
                        rintro r w15 ⟨rfl, b'⟩
                        rw [G1.out]
                        have b : Below w14.heap.size w14 w15 := ⟨b'.os, b'.tape, b'.output, b'.size, b'.block⟩
                        have D15 := hide (D14.out.trans (b.mono D14.out.size))
                        have T15 := hide (T14.out.on b)
                        have V15 := hide (V14.out.on b)
                        have U15 := hide (U14.out.on b)
                        have Xn_15 := hide (Xn_14.out.on b)
                        have Xo_15 := hide (Xo_14.out.on b)
                        have Xx_15 := hide (Xx_14.out.on b)
                        have Hn_15 := hide (Hn_14.out.on b)
                        have Ho_15 := hide (Ho_14.out.on b)
                        have Hx_15 := hide (Hx_14.out.on b)
                        have Hp_15 := hide (Hp_14.out.on b)
                        clear c0 c1 c2 c3 d0 d1 d2 d3 g0 g1 g2 g3 h0 h1 h2 h3 m0 m1 m2 m3 p0 p1 p2
                        obtain ⟨c0, c1, c2, c3⟩ := setCells T15.out.e1
                        obtain ⟨d0, d1, d2, d3⟩ := setCells T15.out.e2
                        obtain ⟨g0, g1, g2, g3⟩ := atCells Hn_15.out
                        obtain ⟨h0, h1, h2, h3⟩ := atCells Ho_15.out
                        obtain ⟨m0, m1, m2, m3⟩ := atCells Hx_15.out
                        obtain ⟨p0, p1, p2⟩ := valCells Hp_15.out
                        have PH15 := True.intro
                        clear b b' D14 T14 V14 U14 Xn_14 Xo_14 Xx_14 Hn_14 Ho_14 Hx_14 Hp_14
                        go_wp2_with fail
                        refine (refHas_any _ (orV A B) 0 0 qs _ Xo_15.out qz.out).mono ?_
                        rintro r w16 ⟨rfl, b'⟩
                        rw [G2.out]
                        have b : Below w15.heap.size w15 w16 := ⟨b'.os, b'.tape, b'.output, b'.size, b'.block⟩
                        have D16 := hide (D15.out.trans (b.mono D15.out.size))
                        have T16 := hide (T15.out.on b)
                        have V16 := hide (V15.out.on b)
                        have U16 := hide (U15.out.on b)
                        have Xn_16 := hide (Xn_15.out.on b)
                        have Xo_16 := hide (Xo_15.out.on b)
                        have Xx_16 := hide (Xx_15.out.on b)
                        have Hn_16 := hide (Hn_15.out.on b)
                        have Ho_16 := hide (Ho_15.out.on b)
                        have Hx_16 := hide (Hx_15.out.on b)
                        have Hp_16 := hide (Hp_15.out.on b)
                        clear c0 c1 c2 c3 d0 d1 d2 d3 g0 g1 g2 g3 h0 h1 h2 h3 m0 m1 m2 m3 p0 p1 p2
                        obtain ⟨c0, c1, c2, c3⟩ := setCells T16.out.e1
                        obtain ⟨d0, d1, d2, d3⟩ := setCells T16.out.e2
                        obtain ⟨g0, g1, g2, g3⟩ := atCells Hn_16.out
                        obtain ⟨h0, h1, h2, h3⟩ := atCells Ho_16.out
                        obtain ⟨m0, m1, m2, m3⟩ := atCells Hx_16.out
                        obtain ⟨p0, p1, p2⟩ := valCells Hp_16.out
                        have PH16 := True.intro
                        clear b b' D15 T15 V15 U15 Xn_15 Xo_15 Xx_15 Hn_15 Ho_15 Hx_15 Hp_15
                        go_wp2_with fail
                        refine (refHas_any _ (andV A B) 0 0 qs _ Xx_16.out qz.out).mono ?_
                        rintro r w17 ⟨rfl, b'⟩
                        rw [G3.out]
                        have b : Below w16.heap.size w16 w17 := ⟨b'.os, b'.tape, b'.output, b'.size, b'.block⟩
                        have D17 := hide (D16.out.trans (b.mono D16.out.size))
                        have T17 := hide (T16.out.on b)
                        have V17 := hide (V16.out.on b)
                        have U17 := hide (U16.out.on b)
                        have Xn_17 := hide (Xn_16.out.on b)
                        have Xo_17 := hide (Xo_16.out.on b)
                        have Xx_17 := hide (Xx_16.out.on b)
                        have Hn_17 := hide (Hn_16.out.on b)
                        have Ho_17 := hide (Ho_16.out.on b)
                        have Hx_17 := hide (Hx_16.out.on b)
                        have Hp_17 := hide (Hp_16.out.on b)
                        clear c0 c1 c2 c3 d0 d1 d2 d3 g0 g1 g2 g3 h0 h1 h2 h3 m0 m1 m2 m3 p0 p1 p2
                        obtain ⟨c0, c1, c2, c3⟩ := setCells T17.out.e1
                        obtain ⟨d0, d1, d2, d3⟩ := setCells T17.out.e2
                        obtain ⟨g0, g1, g2, g3⟩ := atCells Hn_17.out
                        obtain ⟨h0, h1, h2, h3⟩ := atCells Ho_17.out
                        obtain ⟨m0, m1, m2, m3⟩ := atCells Hx_17.out
                        obtain ⟨p0, p1, p2⟩ := valCells Hp_17.out
                        have PH17 := True.intro
                        clear b b' D16 T16 V16 U16 Xn_16 Xo_16 Xx_16 Hn_16 Ho_16 Hx_16 Hp_16
                        go_wp2
                        exact ⟨⟨j + 1, by go_num, by omega, D17⟩, by simp [intOf]; omega⟩
                  · skip
                    go_wp2
                    exact ⟨⟨j + 1, by go_num, by omega, hide (HB.out.trans (((Below.refl _ wr).alloc (Nat.le_refl _) _).mono HB.out.size))⟩, by simp [intOf]; omega⟩
                · have hn' : (qn == 0) = false := by simp [hn]
                  go_wp2
                  exact ⟨⟨j + 1, by go_num, by omega, hide (HB.out.trans (((Below.refl _ wr).alloc (Nat.le_refl _) _).mono HB.out.size))⟩, by simp [intOf]; omega⟩
              have k0' : (qk == 0) = false := by simp [k0]
              by_cases k1 : qk = 1
              · subst k1
                cases hq : (!qs.toList.isEmpty)
                · skip
                  obtain ⟨F1, F2, F3⟩ := turns_at fA.out.good fB.out.good 1 qn qs (right_1 qn hq) okq.out.2.1 okq.out.2.2
                  have ba := (Below.refl _ wr).alloc (Nat.le_refl _) (.cells #[.int .i64 1, .int .i64 qn, .string qs] 27)
                  have D12 := hide (HB.out.trans (ba.mono HB.out.size))
                  have T12 := hide (T11.out.on D12.out)
                  have V12 := hide (V11.out.on D12.out)
                  have U12 := hide (U11.out.on D12.out)
                  have Xn_12 := hide (Xn_11.out.on D12.out)
                  have Xo_12 := hide (Xo_11.out.on D12.out)
                  have Xx_12 := hide (Xx_11.out.on D12.out)
                  have Hn_12 := hide (Hn_11.out.on D12.out)
                  have Ho_12 := hide (Ho_11.out.on D12.out)
                  have Hx_12 := hide (Hx_11.out.on D12.out)
                  have Hp_12 : Hid (AtB (wr.alloc (.cells #[.int .i64 1, .int .i64 qn, .string qs] 27)) wr.heap.size (.cells #[.int .i64 1, .int .i64 qn, .string qs] 27)) := hide (heap_new _ _)
                  go_wp2
                  clear ba y0' y1' y2'
                  generalize wr.alloc (.cells #[.int .i64 1, .int .i64 qn, .string qs] 27) = w12 at *
                  have qz := hide okq.out.1
                  cases hbi : hasB A 1 qn qs
                  · cases hbj : hasB B 1 qn qs
                    · rw [hbi] at F1
                      rw [hbi, hbj] at F2 F3
                      have G1 : Hid (hasB (notV A) 1 qn qs = true) := hide F1
                      have G2 : Hid (hasB (orV A B) 1 qn qs = false) := hide F2
                      have G3 : Hid (hasB (andV A B) 1 qn qs = false) := hide F3
                      have GA := hide hbi
                      have GB := hide hbj
                      clear F1 F2 F3 hbi hbj
                      obtain ⟨c0, c1, c2, c3⟩ := setCells T12.out.e1
                      obtain ⟨d0, d1, d2, d3⟩ := setCells T12.out.e2
                      obtain ⟨g0, g1, g2, g3⟩ := atCells Hn_12.out
                      obtain ⟨h0, h1, h2, h3⟩ := atCells Ho_12.out
                      obtain ⟨m0, m1, m2, m3⟩ := atCells Hx_12.out
                      obtain ⟨p0, p1, p2⟩ := valCells Hp_12.out
                      have PH12 := True.intro
                      go_region_held3 (fun w' => (w'.cell? ⟨w.heap.size, 0, none⟩ = some (.bool A.absent) ∧ w'.cell? ⟨w.heap.size, 1, none⟩ = some vi ∧ w'.cell? ⟨w.heap.size, 2, none⟩ = some (.bool A.co) ∧ w'.cell? ⟨w.heap.size, 3, none⟩ = some vs) ∧ (w'.cell? ⟨w.heap.size + 1, 0, none⟩ = some (.bool B.absent) ∧ w'.cell? ⟨w.heap.size + 1, 1, none⟩ = some ui ∧ w'.cell? ⟨w.heap.size + 1, 2, none⟩ = some (.bool B.co) ∧ w'.cell? ⟨w.heap.size + 1, 3, none⟩ = some us) ∧ (w'.cell? ⟨wr.heap.size, 0, none⟩ = some (.int .i64 1) ∧ w'.cell? ⟨wr.heap.size, 1, none⟩ = some (.int .i64 qn) ∧ w'.cell? ⟨wr.heap.size, 2, none⟩ = some (.string qs))) (first | go_keep | (refine ⟨⟨?_, ?_, ?_, ?_⟩, ⟨?_, ?_, ?_, ?_⟩, ?_, ?_, ?_⟩ <;> assumption)) ((first | (go_at_call 16; have pz := PH12; clear pz PH12; refine (refHas_any _ A 1 qn qs _ ?_ qz.out).mono ?_; exact V12.out; rintro r w13 ⟨rfl, b'⟩; rw [GA.out]; have b : Below w12.heap.size w12 w13 := ⟨b'.os, b'.tape, b'.output, b'.size, b'.block⟩; have D13 := hide (D12.out.trans (b.mono D12.out.size)); have T13 := hide (T12.out.on b); have V13 := hide (V12.out.on b); have U13 := hide (U12.out.on b); have Xn_13 := hide (Xn_12.out.on b); have Xo_13 := hide (Xo_12.out.on b); have Xx_13 := hide (Xx_12.out.on b); have Hn_13 := hide (Hn_12.out.on b); have Ho_13 := hide (Ho_12.out.on b); have Hx_13 := hide (Hx_12.out.on b); have Hp_13 := hide (Hp_12.out.on b); clear c0 c1 c2 c3 d0 d1 d2 d3 g0 g1 g2 g3 h0 h1 h2 h3 m0 m1 m2 m3 p0 p1 p2; obtain ⟨c0, c1, c2, c3⟩ := setCells T13.out.e1; obtain ⟨d0, d1, d2, d3⟩ := setCells T13.out.e2; obtain ⟨g0, g1, g2, g3⟩ := atCells Hn_13.out; obtain ⟨h0, h1, h2, h3⟩ := atCells Ho_13.out; obtain ⟨m0, m1, m2, m3⟩ := atCells Hx_13.out; obtain ⟨p0, p1, p2⟩ := valCells Hp_13.out; have PH13 := True.intro; clear b b' D12 T12 V12 U12 Xn_12 Xo_12 Xx_12 Hn_12 Ho_12 Hx_12 Hp_12) | (go_at_call 16; have pz := PH13; clear pz PH13; refine (refHas_any _ B 1 qn qs _ ?_ qz.out).mono ?_; exact U13.out; rintro r w14 ⟨rfl, b'⟩; rw [GB.out]; have b : Below w13.heap.size w13 w14 := ⟨b'.os, b'.tape, b'.output, b'.size, b'.block⟩; have D14 := hide (D13.out.trans (b.mono D13.out.size)); have T14 := hide (T13.out.on b); have V14 := hide (V13.out.on b); have U14 := hide (U13.out.on b); have Xn_14 := hide (Xn_13.out.on b); have Xo_14 := hide (Xo_13.out.on b); have Xx_14 := hide (Xx_13.out.on b); have Hn_14 := hide (Hn_13.out.on b); have Ho_14 := hide (Ho_13.out.on b); have Hx_14 := hide (Hx_13.out.on b); have Hp_14 := hide (Hp_13.out.on b); clear c0 c1 c2 c3 d0 d1 d2 d3 g0 g1 g2 g3 h0 h1 h2 h3 m0 m1 m2 m3 p0 p1 p2; obtain ⟨c0, c1, c2, c3⟩ := setCells T14.out.e1; obtain ⟨d0, d1, d2, d3⟩ := setCells T14.out.e2; obtain ⟨g0, g1, g2, g3⟩ := atCells Hn_14.out; obtain ⟨h0, h1, h2, h3⟩ := atCells Ho_14.out; obtain ⟨m0, m1, m2, m3⟩ := atCells Hx_14.out; obtain ⟨p0, p1, p2⟩ := valCells Hp_14.out; have PH14 := True.intro; clear b b' D13 T13 V13 U13 Xn_13 Xo_13 Xx_13 Hn_13 Ho_13 Hx_13 Hp_13)))
                      go_wp2_with fail
                      refine (refHas_any _ (notV A) 1 qn qs _ Xn_14.out qz.out).mono ?_
                      rintro r w15 ⟨rfl, b'⟩
                      rw [G1.out]
                      have b : Below w14.heap.size w14 w15 := ⟨b'.os, b'.tape, b'.output, b'.size, b'.block⟩
                      have D15 := hide (D14.out.trans (b.mono D14.out.size))
                      have T15 := hide (T14.out.on b)
                      have V15 := hide (V14.out.on b)
                      have U15 := hide (U14.out.on b)
                      have Xn_15 := hide (Xn_14.out.on b)
                      have Xo_15 := hide (Xo_14.out.on b)
                      have Xx_15 := hide (Xx_14.out.on b)
                      have Hn_15 := hide (Hn_14.out.on b)
                      have Ho_15 := hide (Ho_14.out.on b)
                      have Hx_15 := hide (Hx_14.out.on b)
                      have Hp_15 := hide (Hp_14.out.on b)
                      clear c0 c1 c2 c3 d0 d1 d2 d3 g0 g1 g2 g3 h0 h1 h2 h3 m0 m1 m2 m3 p0 p1 p2
                      obtain ⟨c0, c1, c2, c3⟩ := setCells T15.out.e1
                      obtain ⟨d0, d1, d2, d3⟩ := setCells T15.out.e2
                      obtain ⟨g0, g1, g2, g3⟩ := atCells Hn_15.out
                      obtain ⟨h0, h1, h2, h3⟩ := atCells Ho_15.out
                      obtain ⟨m0, m1, m2, m3⟩ := atCells Hx_15.out
                      obtain ⟨p0, p1, p2⟩ := valCells Hp_15.out
                      have PH15 := True.intro
                      clear b b' D14 T14 V14 U14 Xn_14 Xo_14 Xx_14 Hn_14 Ho_14 Hx_14 Hp_14
                      go_wp2_with fail
                      refine (refHas_any _ (orV A B) 1 qn qs _ Xo_15.out qz.out).mono ?_
                      rintro r w16 ⟨rfl, b'⟩
                      rw [G2.out]
                      have b : Below w15.heap.size w15 w16 := ⟨b'.os, b'.tape, b'.output, b'.size, b'.block⟩
                      have D16 := hide (D15.out.trans (b.mono D15.out.size))
                      have T16 := hide (T15.out.on b)
                      have V16 := hide (V15.out.on b)
                      have U16 := hide (U15.out.on b)
                      have Xn_16 := hide (Xn_15.out.on b)
                      have Xo_16 := hide (Xo_15.out.on b)
                      have Xx_16 := hide (Xx_15.out.on b)
                      have Hn_16 := hide (Hn_15.out.on b)
                      have Ho_16 := hide (Ho_15.out.on b)
                      have Hx_16 := hide (Hx_15.out.on b)
                      have Hp_16 := hide (Hp_15.out.on b)
                      clear c0 c1 c2 c3 d0 d1 d2 d3 g0 g1 g2 g3 h0 h1 h2 h3 m0 m1 m2 m3 p0 p1 p2
                      obtain ⟨c0, c1, c2, c3⟩ := setCells T16.out.e1
                      obtain ⟨d0, d1, d2, d3⟩ := setCells T16.out.e2
                      obtain ⟨g0, g1, g2, g3⟩ := atCells Hn_16.out
                      obtain ⟨h0, h1, h2, h3⟩ := atCells Ho_16.out
                      obtain ⟨m0, m1, m2, m3⟩ := atCells Hx_16.out
                      obtain ⟨p0, p1, p2⟩ := valCells Hp_16.out
                      have PH16 := True.intro
                      clear b b' D15 T15 V15 U15 Xn_15 Xo_15 Xx_15 Hn_15 Ho_15 Hx_15 Hp_15
                      go_wp2_with fail
                      refine (refHas_any _ (andV A B) 1 qn qs _ Xx_16.out qz.out).mono ?_
                      rintro r w17 ⟨rfl, b'⟩
                      rw [G3.out]
                      have b : Below w16.heap.size w16 w17 := ⟨b'.os, b'.tape, b'.output, b'.size, b'.block⟩
                      have D17 := hide (D16.out.trans (b.mono D16.out.size))
                      have T17 := hide (T16.out.on b)
                      have V17 := hide (V16.out.on b)
                      have U17 := hide (U16.out.on b)
                      have Xn_17 := hide (Xn_16.out.on b)
                      have Xo_17 := hide (Xo_16.out.on b)
                      have Xx_17 := hide (Xx_16.out.on b)
                      have Hn_17 := hide (Hn_16.out.on b)
                      have Ho_17 := hide (Ho_16.out.on b)
                      have Hx_17 := hide (Hx_16.out.on b)
                      have Hp_17 := hide (Hp_16.out.on b)
                      clear c0 c1 c2 c3 d0 d1 d2 d3 g0 g1 g2 g3 h0 h1 h2 h3 m0 m1 m2 m3 p0 p1 p2
                      obtain ⟨c0, c1, c2, c3⟩ := setCells T17.out.e1
                      obtain ⟨d0, d1, d2, d3⟩ := setCells T17.out.e2
                      obtain ⟨g0, g1, g2, g3⟩ := atCells Hn_17.out
                      obtain ⟨h0, h1, h2, h3⟩ := atCells Ho_17.out
                      obtain ⟨m0, m1, m2, m3⟩ := atCells Hx_17.out
                      obtain ⟨p0, p1, p2⟩ := valCells Hp_17.out
                      have PH17 := True.intro
                      clear b b' D16 T16 V16 U16 Xn_16 Xo_16 Xx_16 Hn_16 Ho_16 Hx_16 Hp_16
                      go_wp2
                      exact ⟨⟨j + 1, by go_num, by omega, D17⟩, by simp [intOf]; omega⟩
                    · rw [hbi] at F1
                      rw [hbi, hbj] at F2 F3
                      have G1 : Hid (hasB (notV A) 1 qn qs = true) := hide F1
                      have G2 : Hid (hasB (orV A B) 1 qn qs = true) := hide F2
                      have G3 : Hid (hasB (andV A B) 1 qn qs = false) := hide F3
                      have GA := hide hbi
                      have GB := hide hbj
                      clear F1 F2 F3 hbi hbj
                      obtain ⟨c0, c1, c2, c3⟩ := setCells T12.out.e1
                      obtain ⟨d0, d1, d2, d3⟩ := setCells T12.out.e2
                      obtain ⟨g0, g1, g2, g3⟩ := atCells Hn_12.out
                      obtain ⟨h0, h1, h2, h3⟩ := atCells Ho_12.out
                      obtain ⟨m0, m1, m2, m3⟩ := atCells Hx_12.out
                      obtain ⟨p0, p1, p2⟩ := valCells Hp_12.out
                      have PH12 := True.intro
                      go_region_held3 (fun w' => (w'.cell? ⟨w.heap.size, 0, none⟩ = some (.bool A.absent) ∧ w'.cell? ⟨w.heap.size, 1, none⟩ = some vi ∧ w'.cell? ⟨w.heap.size, 2, none⟩ = some (.bool A.co) ∧ w'.cell? ⟨w.heap.size, 3, none⟩ = some vs) ∧ (w'.cell? ⟨w.heap.size + 1, 0, none⟩ = some (.bool B.absent) ∧ w'.cell? ⟨w.heap.size + 1, 1, none⟩ = some ui ∧ w'.cell? ⟨w.heap.size + 1, 2, none⟩ = some (.bool B.co) ∧ w'.cell? ⟨w.heap.size + 1, 3, none⟩ = some us) ∧ (w'.cell? ⟨wr.heap.size, 0, none⟩ = some (.int .i64 1) ∧ w'.cell? ⟨wr.heap.size, 1, none⟩ = some (.int .i64 qn) ∧ w'.cell? ⟨wr.heap.size, 2, none⟩ = some (.string qs))) (first | go_keep | (refine ⟨⟨?_, ?_, ?_, ?_⟩, ⟨?_, ?_, ?_, ?_⟩, ?_, ?_, ?_⟩ <;> assumption)) ((first | (go_at_call 16; have pz := PH12; clear pz PH12; refine (refHas_any _ A 1 qn qs _ ?_ qz.out).mono ?_; exact V12.out; rintro r w13 ⟨rfl, b'⟩; rw [GA.out]; have b : Below w12.heap.size w12 w13 := ⟨b'.os, b'.tape, b'.output, b'.size, b'.block⟩; have D13 := hide (D12.out.trans (b.mono D12.out.size)); have T13 := hide (T12.out.on b); have V13 := hide (V12.out.on b); have U13 := hide (U12.out.on b); have Xn_13 := hide (Xn_12.out.on b); have Xo_13 := hide (Xo_12.out.on b); have Xx_13 := hide (Xx_12.out.on b); have Hn_13 := hide (Hn_12.out.on b); have Ho_13 := hide (Ho_12.out.on b); have Hx_13 := hide (Hx_12.out.on b); have Hp_13 := hide (Hp_12.out.on b); clear c0 c1 c2 c3 d0 d1 d2 d3 g0 g1 g2 g3 h0 h1 h2 h3 m0 m1 m2 m3 p0 p1 p2; obtain ⟨c0, c1, c2, c3⟩ := setCells T13.out.e1; obtain ⟨d0, d1, d2, d3⟩ := setCells T13.out.e2; obtain ⟨g0, g1, g2, g3⟩ := atCells Hn_13.out; obtain ⟨h0, h1, h2, h3⟩ := atCells Ho_13.out; obtain ⟨m0, m1, m2, m3⟩ := atCells Hx_13.out; obtain ⟨p0, p1, p2⟩ := valCells Hp_13.out; have PH13 := True.intro; clear b b' D12 T12 V12 U12 Xn_12 Xo_12 Xx_12 Hn_12 Ho_12 Hx_12 Hp_12) | (go_at_call 16; have pz := PH13; clear pz PH13; refine (refHas_any _ B 1 qn qs _ ?_ qz.out).mono ?_; exact U13.out; rintro r w14 ⟨rfl, b'⟩; rw [GB.out]; have b : Below w13.heap.size w13 w14 := ⟨b'.os, b'.tape, b'.output, b'.size, b'.block⟩; have D14 := hide (D13.out.trans (b.mono D13.out.size)); have T14 := hide (T13.out.on b); have V14 := hide (V13.out.on b); have U14 := hide (U13.out.on b); have Xn_14 := hide (Xn_13.out.on b); have Xo_14 := hide (Xo_13.out.on b); have Xx_14 := hide (Xx_13.out.on b); have Hn_14 := hide (Hn_13.out.on b); have Ho_14 := hide (Ho_13.out.on b); have Hx_14 := hide (Hx_13.out.on b); have Hp_14 := hide (Hp_13.out.on b); clear c0 c1 c2 c3 d0 d1 d2 d3 g0 g1 g2 g3 h0 h1 h2 h3 m0 m1 m2 m3 p0 p1 p2; obtain ⟨c0, c1, c2, c3⟩ := setCells T14.out.e1; obtain ⟨d0, d1, d2, d3⟩ := setCells T14.out.e2; obtain ⟨g0, g1, g2, g3⟩ := atCells Hn_14.out; obtain ⟨h0, h1, h2, h3⟩ := atCells Ho_14.out; obtain ⟨m0, m1, m2, m3⟩ := atCells Hx_14.out; obtain ⟨p0, p1, p2⟩ := valCells Hp_14.out; have PH14 := True.intro; clear b b' D13 T13 V13 U13 Xn_13 Xo_13 Xx_13 Hn_13 Ho_13 Hx_13 Hp_13)))
                      go_wp2_with fail
                      refine (refHas_any _ (notV A) 1 qn qs _ Xn_14.out qz.out).mono ?_
                      rintro r w15 ⟨rfl, b'⟩
                      rw [G1.out]
                      have b : Below w14.heap.size w14 w15 := ⟨b'.os, b'.tape, b'.output, b'.size, b'.block⟩
                      have D15 := hide (D14.out.trans (b.mono D14.out.size))
                      have T15 := hide (T14.out.on b)
                      have V15 := hide (V14.out.on b)
                      have U15 := hide (U14.out.on b)
                      have Xn_15 := hide (Xn_14.out.on b)
                      have Xo_15 := hide (Xo_14.out.on b)
                      have Xx_15 := hide (Xx_14.out.on b)
                      have Hn_15 := hide (Hn_14.out.on b)
                      have Ho_15 := hide (Ho_14.out.on b)
                      have Hx_15 := hide (Hx_14.out.on b)
                      have Hp_15 := hide (Hp_14.out.on b)
                      clear c0 c1 c2 c3 d0 d1 d2 d3 g0 g1 g2 g3 h0 h1 h2 h3 m0 m1 m2 m3 p0 p1 p2
                      obtain ⟨c0, c1, c2, c3⟩ := setCells T15.out.e1
                      obtain ⟨d0, d1, d2, d3⟩ := setCells T15.out.e2
                      obtain ⟨g0, g1, g2, g3⟩ := atCells Hn_15.out
                      obtain ⟨h0, h1, h2, h3⟩ := atCells Ho_15.out
                      obtain ⟨m0, m1, m2, m3⟩ := atCells Hx_15.out
                      obtain ⟨p0, p1, p2⟩ := valCells Hp_15.out
                      have PH15 := True.intro
                      clear b b' D14 T14 V14 U14 Xn_14 Xo_14 Xx_14 Hn_14 Ho_14 Hx_14 Hp_14
                      go_wp2_with fail
                      refine (refHas_any _ (orV A B) 1 qn qs _ Xo_15.out qz.out).mono ?_
                      rintro r w16 ⟨rfl, b'⟩
                      rw [G2.out]
                      have b : Below w15.heap.size w15 w16 := ⟨b'.os, b'.tape, b'.output, b'.size, b'.block⟩
                      have D16 := hide (D15.out.trans (b.mono D15.out.size))
                      have T16 := hide (T15.out.on b)
                      have V16 := hide (V15.out.on b)
                      have U16 := hide (U15.out.on b)
                      have Xn_16 := hide (Xn_15.out.on b)
                      have Xo_16 := hide (Xo_15.out.on b)
                      have Xx_16 := hide (Xx_15.out.on b)
                      have Hn_16 := hide (Hn_15.out.on b)
                      have Ho_16 := hide (Ho_15.out.on b)
                      have Hx_16 := hide (Hx_15.out.on b)
                      have Hp_16 := hide (Hp_15.out.on b)
                      clear c0 c1 c2 c3 d0 d1 d2 d3 g0 g1 g2 g3 h0 h1 h2 h3 m0 m1 m2 m3 p0 p1 p2
                      obtain ⟨c0, c1, c2, c3⟩ := setCells T16.out.e1
                      obtain ⟨d0, d1, d2, d3⟩ := setCells T16.out.e2
                      obtain ⟨g0, g1, g2, g3⟩ := atCells Hn_16.out
                      obtain ⟨h0, h1, h2, h3⟩ := atCells Ho_16.out
                      obtain ⟨m0, m1, m2, m3⟩ := atCells Hx_16.out
                      obtain ⟨p0, p1, p2⟩ := valCells Hp_16.out
                      have PH16 := True.intro
                      clear b b' D15 T15 V15 U15 Xn_15 Xo_15 Xx_15 Hn_15 Ho_15 Hx_15 Hp_15
                      go_wp2_with fail
                      refine (refHas_any _ (andV A B) 1 qn qs _ Xx_16.out qz.out).mono ?_
                      rintro r w17 ⟨rfl, b'⟩
                      rw [G3.out]
                      have b : Below w16.heap.size w16 w17 := ⟨b'.os, b'.tape, b'.output, b'.size, b'.block⟩
                      have D17 := hide (D16.out.trans (b.mono D16.out.size))
                      have T17 := hide (T16.out.on b)
                      have V17 := hide (V16.out.on b)
                      have U17 := hide (U16.out.on b)
                      have Xn_17 := hide (Xn_16.out.on b)
                      have Xo_17 := hide (Xo_16.out.on b)
                      have Xx_17 := hide (Xx_16.out.on b)
                      have Hn_17 := hide (Hn_16.out.on b)
                      have Ho_17 := hide (Ho_16.out.on b)
                      have Hx_17 := hide (Hx_16.out.on b)
                      have Hp_17 := hide (Hp_16.out.on b)
                      clear c0 c1 c2 c3 d0 d1 d2 d3 g0 g1 g2 g3 h0 h1 h2 h3 m0 m1 m2 m3 p0 p1 p2
                      obtain ⟨c0, c1, c2, c3⟩ := setCells T17.out.e1
                      obtain ⟨d0, d1, d2, d3⟩ := setCells T17.out.e2
                      obtain ⟨g0, g1, g2, g3⟩ := atCells Hn_17.out
                      obtain ⟨h0, h1, h2, h3⟩ := atCells Ho_17.out
                      obtain ⟨m0, m1, m2, m3⟩ := atCells Hx_17.out
                      obtain ⟨p0, p1, p2⟩ := valCells Hp_17.out
                      have PH17 := True.intro
                      clear b b' D16 T16 V16 U16 Xn_16 Xo_16 Xx_16 Hn_16 Ho_16 Hx_16 Hp_16
                      go_wp2
                      exact ⟨⟨j + 1, by go_num, by omega, D17⟩, by simp [intOf]; omega⟩
                  · cases hbj : hasB B 1 qn qs
                    · rw [hbi] at F1
                      rw [hbi, hbj] at F2 F3
                      have G1 : Hid (hasB (notV A) 1 qn qs = false) := hide F1
                      have G2 : Hid (hasB (orV A B) 1 qn qs = true) := hide F2
                      have G3 : Hid (hasB (andV A B) 1 qn qs = false) := hide F3
                      have GA := hide hbi
                      have GB := hide hbj
                      clear F1 F2 F3 hbi hbj
                      obtain ⟨c0, c1, c2, c3⟩ := setCells T12.out.e1
                      obtain ⟨d0, d1, d2, d3⟩ := setCells T12.out.e2
                      obtain ⟨g0, g1, g2, g3⟩ := atCells Hn_12.out
                      obtain ⟨h0, h1, h2, h3⟩ := atCells Ho_12.out
                      obtain ⟨m0, m1, m2, m3⟩ := atCells Hx_12.out
                      obtain ⟨p0, p1, p2⟩ := valCells Hp_12.out
                      have PH12 := True.intro
                      go_region_held3 (fun w' => (w'.cell? ⟨w.heap.size, 0, none⟩ = some (.bool A.absent) ∧ w'.cell? ⟨w.heap.size, 1, none⟩ = some vi ∧ w'.cell? ⟨w.heap.size, 2, none⟩ = some (.bool A.co) ∧ w'.cell? ⟨w.heap.size, 3, none⟩ = some vs) ∧ (w'.cell? ⟨w.heap.size + 1, 0, none⟩ = some (.bool B.absent) ∧ w'.cell? ⟨w.heap.size + 1, 1, none⟩ = some ui ∧ w'.cell? ⟨w.heap.size + 1, 2, none⟩ = some (.bool B.co) ∧ w'.cell? ⟨w.heap.size + 1, 3, none⟩ = some us) ∧ (w'.cell? ⟨wr.heap.size, 0, none⟩ = some (.int .i64 1) ∧ w'.cell? ⟨wr.heap.size, 1, none⟩ = some (.int .i64 qn) ∧ w'.cell? ⟨wr.heap.size, 2, none⟩ = some (.string qs))) (first | go_keep | (refine ⟨⟨?_, ?_, ?_, ?_⟩, ⟨?_, ?_, ?_, ?_⟩, ?_, ?_, ?_⟩ <;> assumption)) ((first | (go_at_call 16; have pz := PH12; clear pz PH12; refine (refHas_any _ A 1 qn qs _ ?_ qz.out).mono ?_; exact V12.out; rintro r w13 ⟨rfl, b'⟩; rw [GA.out]; have b : Below w12.heap.size w12 w13 := ⟨b'.os, b'.tape, b'.output, b'.size, b'.block⟩; have D13 := hide (D12.out.trans (b.mono D12.out.size)); have T13 := hide (T12.out.on b); have V13 := hide (V12.out.on b); have U13 := hide (U12.out.on b); have Xn_13 := hide (Xn_12.out.on b); have Xo_13 := hide (Xo_12.out.on b); have Xx_13 := hide (Xx_12.out.on b); have Hn_13 := hide (Hn_12.out.on b); have Ho_13 := hide (Ho_12.out.on b); have Hx_13 := hide (Hx_12.out.on b); have Hp_13 := hide (Hp_12.out.on b); clear c0 c1 c2 c3 d0 d1 d2 d3 g0 g1 g2 g3 h0 h1 h2 h3 m0 m1 m2 m3 p0 p1 p2; obtain ⟨c0, c1, c2, c3⟩ := setCells T13.out.e1; obtain ⟨d0, d1, d2, d3⟩ := setCells T13.out.e2; obtain ⟨g0, g1, g2, g3⟩ := atCells Hn_13.out; obtain ⟨h0, h1, h2, h3⟩ := atCells Ho_13.out; obtain ⟨m0, m1, m2, m3⟩ := atCells Hx_13.out; obtain ⟨p0, p1, p2⟩ := valCells Hp_13.out; have PH13 := True.intro; clear b b' D12 T12 V12 U12 Xn_12 Xo_12 Xx_12 Hn_12 Ho_12 Hx_12 Hp_12) | (go_at_call 16; have pz := PH13; clear pz PH13; refine (refHas_any _ B 1 qn qs _ ?_ qz.out).mono ?_; exact U13.out; rintro r w14 ⟨rfl, b'⟩; rw [GB.out]; have b : Below w13.heap.size w13 w14 := ⟨b'.os, b'.tape, b'.output, b'.size, b'.block⟩; have D14 := hide (D13.out.trans (b.mono D13.out.size)); have T14 := hide (T13.out.on b); have V14 := hide (V13.out.on b); have U14 := hide (U13.out.on b); have Xn_14 := hide (Xn_13.out.on b); have Xo_14 := hide (Xo_13.out.on b); have Xx_14 := hide (Xx_13.out.on b); have Hn_14 := hide (Hn_13.out.on b); have Ho_14 := hide (Ho_13.out.on b); have Hx_14 := hide (Hx_13.out.on b); have Hp_14 := hide (Hp_13.out.on b); clear c0 c1 c2 c3 d0 d1 d2 d3 g0 g1 g2 g3 h0 h1 h2 h3 m0 m1 m2 m3 p0 p1 p2; obtain ⟨c0, c1, c2, c3⟩ := setCells T14.out.e1; obtain ⟨d0, d1, d2, d3⟩ := setCells T14.out.e2; obtain ⟨g0, g1, g2, g3⟩ := atCells Hn_14.out; obtain ⟨h0, h1, h2, h3⟩ := atCells Ho_14.out; obtain ⟨m0, m1, m2, m3⟩ := atCells Hx_14.out; obtain ⟨p0, p1, p2⟩ := valCells Hp_14.out; have PH14 := True.intro; clear b b' D13 T13 V13 U13 Xn_13 Xo_13 Xx_13 Hn_13 Ho_13 Hx_13 Hp_13)))
                      go_wp2_with fail
                      refine (refHas_any _ (notV A) 1 qn qs _ Xn_14.out qz.out).mono ?_
                      rintro r w15 ⟨rfl, b'⟩
                      rw [G1.out]
                      have b : Below w14.heap.size w14 w15 := ⟨b'.os, b'.tape, b'.output, b'.size, b'.block⟩
                      have D15 := hide (D14.out.trans (b.mono D14.out.size))
                      have T15 := hide (T14.out.on b)
                      have V15 := hide (V14.out.on b)
                      have U15 := hide (U14.out.on b)
                      have Xn_15 := hide (Xn_14.out.on b)
                      have Xo_15 := hide (Xo_14.out.on b)
                      have Xx_15 := hide (Xx_14.out.on b)
                      have Hn_15 := hide (Hn_14.out.on b)
                      have Ho_15 := hide (Ho_14.out.on b)
                      have Hx_15 := hide (Hx_14.out.on b)
                      have Hp_15 := hide (Hp_14.out.on b)
                      clear c0 c1 c2 c3 d0 d1 d2 d3 g0 g1 g2 g3 h0 h1 h2 h3 m0 m1 m2 m3 p0 p1 p2
                      obtain ⟨c0, c1, c2, c3⟩ := setCells T15.out.e1
                      obtain ⟨d0, d1, d2, d3⟩ := setCells T15.out.e2
                      obtain ⟨g0, g1, g2, g3⟩ := atCells Hn_15.out
                      obtain ⟨h0, h1, h2, h3⟩ := atCells Ho_15.out
                      obtain ⟨m0, m1, m2, m3⟩ := atCells Hx_15.out
                      obtain ⟨p0, p1, p2⟩ := valCells Hp_15.out
                      have PH15 := True.intro
                      clear b b' D14 T14 V14 U14 Xn_14 Xo_14 Xx_14 Hn_14 Ho_14 Hx_14 Hp_14
                      go_wp2_with fail
                      refine (refHas_any _ (orV A B) 1 qn qs _ Xo_15.out qz.out).mono ?_
                      rintro r w16 ⟨rfl, b'⟩
                      rw [G2.out]
                      have b : Below w15.heap.size w15 w16 := ⟨b'.os, b'.tape, b'.output, b'.size, b'.block⟩
                      have D16 := hide (D15.out.trans (b.mono D15.out.size))
                      have T16 := hide (T15.out.on b)
                      have V16 := hide (V15.out.on b)
                      have U16 := hide (U15.out.on b)
                      have Xn_16 := hide (Xn_15.out.on b)
                      have Xo_16 := hide (Xo_15.out.on b)
                      have Xx_16 := hide (Xx_15.out.on b)
                      have Hn_16 := hide (Hn_15.out.on b)
                      have Ho_16 := hide (Ho_15.out.on b)
                      have Hx_16 := hide (Hx_15.out.on b)
                      have Hp_16 := hide (Hp_15.out.on b)
                      clear c0 c1 c2 c3 d0 d1 d2 d3 g0 g1 g2 g3 h0 h1 h2 h3 m0 m1 m2 m3 p0 p1 p2
                      obtain ⟨c0, c1, c2, c3⟩ := setCells T16.out.e1
                      obtain ⟨d0, d1, d2, d3⟩ := setCells T16.out.e2
                      obtain ⟨g0, g1, g2, g3⟩ := atCells Hn_16.out
                      obtain ⟨h0, h1, h2, h3⟩ := atCells Ho_16.out
                      obtain ⟨m0, m1, m2, m3⟩ := atCells Hx_16.out
                      obtain ⟨p0, p1, p2⟩ := valCells Hp_16.out
                      have PH16 := True.intro
                      clear b b' D15 T15 V15 U15 Xn_15 Xo_15 Xx_15 Hn_15 Ho_15 Hx_15 Hp_15
                      go_wp2_with fail
                      refine (refHas_any _ (andV A B) 1 qn qs _ Xx_16.out qz.out).mono ?_
                      rintro r w17 ⟨rfl, b'⟩
                      rw [G3.out]
                      have b : Below w16.heap.size w16 w17 := ⟨b'.os, b'.tape, b'.output, b'.size, b'.block⟩
                      have D17 := hide (D16.out.trans (b.mono D16.out.size))
                      have T17 := hide (T16.out.on b)
                      have V17 := hide (V16.out.on b)
                      have U17 := hide (U16.out.on b)
                      have Xn_17 := hide (Xn_16.out.on b)
                      have Xo_17 := hide (Xo_16.out.on b)
                      have Xx_17 := hide (Xx_16.out.on b)
                      have Hn_17 := hide (Hn_16.out.on b)
                      have Ho_17 := hide (Ho_16.out.on b)
                      have Hx_17 := hide (Hx_16.out.on b)
                      have Hp_17 := hide (Hp_16.out.on b)
                      clear c0 c1 c2 c3 d0 d1 d2 d3 g0 g1 g2 g3 h0 h1 h2 h3 m0 m1 m2 m3 p0 p1 p2
                      obtain ⟨c0, c1, c2, c3⟩ := setCells T17.out.e1
                      obtain ⟨d0, d1, d2, d3⟩ := setCells T17.out.e2
                      obtain ⟨g0, g1, g2, g3⟩ := atCells Hn_17.out
                      obtain ⟨h0, h1, h2, h3⟩ := atCells Ho_17.out
                      obtain ⟨m0, m1, m2, m3⟩ := atCells Hx_17.out
                      obtain ⟨p0, p1, p2⟩ := valCells Hp_17.out
                      have PH17 := True.intro
                      clear b b' D16 T16 V16 U16 Xn_16 Xo_16 Xx_16 Hn_16 Ho_16 Hx_16 Hp_16
                      go_wp2
                      exact ⟨⟨j + 1, by go_num, by omega, D17⟩, by simp [intOf]; omega⟩
                    · rw [hbi] at F1
                      rw [hbi, hbj] at F2 F3
                      have G1 : Hid (hasB (notV A) 1 qn qs = false) := hide F1
                      have G2 : Hid (hasB (orV A B) 1 qn qs = true) := hide F2
                      have G3 : Hid (hasB (andV A B) 1 qn qs = true) := hide F3
                      have GA := hide hbi
                      have GB := hide hbj
                      clear F1 F2 F3 hbi hbj
                      obtain ⟨c0, c1, c2, c3⟩ := setCells T12.out.e1
                      obtain ⟨d0, d1, d2, d3⟩ := setCells T12.out.e2
                      obtain ⟨g0, g1, g2, g3⟩ := atCells Hn_12.out
                      obtain ⟨h0, h1, h2, h3⟩ := atCells Ho_12.out
                      obtain ⟨m0, m1, m2, m3⟩ := atCells Hx_12.out
                      obtain ⟨p0, p1, p2⟩ := valCells Hp_12.out
                      have PH12 := True.intro
                      go_region_held3 (fun w' => (w'.cell? ⟨w.heap.size, 0, none⟩ = some (.bool A.absent) ∧ w'.cell? ⟨w.heap.size, 1, none⟩ = some vi ∧ w'.cell? ⟨w.heap.size, 2, none⟩ = some (.bool A.co) ∧ w'.cell? ⟨w.heap.size, 3, none⟩ = some vs) ∧ (w'.cell? ⟨w.heap.size + 1, 0, none⟩ = some (.bool B.absent) ∧ w'.cell? ⟨w.heap.size + 1, 1, none⟩ = some ui ∧ w'.cell? ⟨w.heap.size + 1, 2, none⟩ = some (.bool B.co) ∧ w'.cell? ⟨w.heap.size + 1, 3, none⟩ = some us) ∧ (w'.cell? ⟨wr.heap.size, 0, none⟩ = some (.int .i64 1) ∧ w'.cell? ⟨wr.heap.size, 1, none⟩ = some (.int .i64 qn) ∧ w'.cell? ⟨wr.heap.size, 2, none⟩ = some (.string qs))) (first | go_keep | (refine ⟨⟨?_, ?_, ?_, ?_⟩, ⟨?_, ?_, ?_, ?_⟩, ?_, ?_, ?_⟩ <;> assumption)) ((first | (go_at_call 16; have pz := PH12; clear pz PH12; refine (refHas_any _ A 1 qn qs _ ?_ qz.out).mono ?_; exact V12.out; rintro r w13 ⟨rfl, b'⟩; rw [GA.out]; have b : Below w12.heap.size w12 w13 := ⟨b'.os, b'.tape, b'.output, b'.size, b'.block⟩; have D13 := hide (D12.out.trans (b.mono D12.out.size)); have T13 := hide (T12.out.on b); have V13 := hide (V12.out.on b); have U13 := hide (U12.out.on b); have Xn_13 := hide (Xn_12.out.on b); have Xo_13 := hide (Xo_12.out.on b); have Xx_13 := hide (Xx_12.out.on b); have Hn_13 := hide (Hn_12.out.on b); have Ho_13 := hide (Ho_12.out.on b); have Hx_13 := hide (Hx_12.out.on b); have Hp_13 := hide (Hp_12.out.on b); clear c0 c1 c2 c3 d0 d1 d2 d3 g0 g1 g2 g3 h0 h1 h2 h3 m0 m1 m2 m3 p0 p1 p2; obtain ⟨c0, c1, c2, c3⟩ := setCells T13.out.e1; obtain ⟨d0, d1, d2, d3⟩ := setCells T13.out.e2; obtain ⟨g0, g1, g2, g3⟩ := atCells Hn_13.out; obtain ⟨h0, h1, h2, h3⟩ := atCells Ho_13.out; obtain ⟨m0, m1, m2, m3⟩ := atCells Hx_13.out; obtain ⟨p0, p1, p2⟩ := valCells Hp_13.out; have PH13 := True.intro; clear b b' D12 T12 V12 U12 Xn_12 Xo_12 Xx_12 Hn_12 Ho_12 Hx_12 Hp_12) | (go_at_call 16; have pz := PH13; clear pz PH13; refine (refHas_any _ B 1 qn qs _ ?_ qz.out).mono ?_; exact U13.out; rintro r w14 ⟨rfl, b'⟩; rw [GB.out]; have b : Below w13.heap.size w13 w14 := ⟨b'.os, b'.tape, b'.output, b'.size, b'.block⟩; have D14 := hide (D13.out.trans (b.mono D13.out.size)); have T14 := hide (T13.out.on b); have V14 := hide (V13.out.on b); have U14 := hide (U13.out.on b); have Xn_14 := hide (Xn_13.out.on b); have Xo_14 := hide (Xo_13.out.on b); have Xx_14 := hide (Xx_13.out.on b); have Hn_14 := hide (Hn_13.out.on b); have Ho_14 := hide (Ho_13.out.on b); have Hx_14 := hide (Hx_13.out.on b); have Hp_14 := hide (Hp_13.out.on b); clear c0 c1 c2 c3 d0 d1 d2 d3 g0 g1 g2 g3 h0 h1 h2 h3 m0 m1 m2 m3 p0 p1 p2; obtain ⟨c0, c1, c2, c3⟩ := setCells T14.out.e1; obtain ⟨d0, d1, d2, d3⟩ := setCells T14.out.e2; obtain ⟨g0, g1, g2, g3⟩ := atCells Hn_14.out; obtain ⟨h0, h1, h2, h3⟩ := atCells Ho_14.out; obtain ⟨m0, m1, m2, m3⟩ := atCells Hx_14.out; obtain ⟨p0, p1, p2⟩ := valCells Hp_14.out; have PH14 := True.intro; clear b b' D13 T13 V13 U13 Xn_13 Xo_13 Xx_13 Hn_13 Ho_13 Hx_13 Hp_13)))
                      go_wp2_with fail
                      refine (refHas_any _ (notV A) 1 qn qs _ Xn_14.out qz.out).mono ?_
                      rintro r w15 ⟨rfl, b'⟩
                      rw [G1.out]
                      have b : Below w14.heap.size w14 w15 := ⟨b'.os, b'.tape, b'.output, b'.size, b'.block⟩
                      have D15 := hide (D14.out.trans (b.mono D14.out.size))
                      have T15 := hide (T14.out.on b)
                      have V15 := hide (V14.out.on b)
                      have U15 := hide (U14.out.on b)
                      have Xn_15 := hide (Xn_14.out.on b)
                      have Xo_15 := hide (Xo_14.out.on b)
                      have Xx_15 := hide (Xx_14.out.on b)
                      have Hn_15 := hide (Hn_14.out.on b)
                      have Ho_15 := hide (Ho_14.out.on b)
                      have Hx_15 := hide (Hx_14.out.on b)
                      have Hp_15 := hide (Hp_14.out.on b)
                      clear c0 c1 c2 c3 d0 d1 d2 d3 g0 g1 g2 g3 h0 h1 h2 h3 m0 m1 m2 m3 p0 p1 p2
                      obtain ⟨c0, c1, c2, c3⟩ := setCells T15.out.e1
                      obtain ⟨d0, d1, d2, d3⟩ := setCells T15.out.e2
                      obtain ⟨g0, g1, g2, g3⟩ := atCells Hn_15.out
                      obtain ⟨h0, h1, h2, h3⟩ := atCells Ho_15.out
                      obtain ⟨m0, m1, m2, m3⟩ := atCells Hx_15.out
                      obtain ⟨p0, p1, p2⟩ := valCells Hp_15.out
                      have PH15 := True.intro
                      clear b b' D14 T14 V14 U14 Xn_14 Xo_14 Xx_14 Hn_14 Ho_14 Hx_14 Hp_14
                      go_wp2_with fail
                      refine (refHas_any _ (orV A B) 1 qn qs _ Xo_15.out qz.out).mono ?_
                      rintro r w16 ⟨rfl, b'⟩
                      rw [G2.out]
                      have b : Below w15.heap.size w15 w16 := ⟨b'.os, b'.tape, b'.output, b'.size, b'.block⟩
                      have D16 := hide (D15.out.trans (b.mono D15.out.size))
                      have T16 := hide (T15.out.on b)
                      have V16 := hide (V15.out.on b)
                      have U16 := hide (U15.out.on b)
                      have Xn_16 := hide (Xn_15.out.on b)
                      have Xo_16 := hide (Xo_15.out.on b)
                      have Xx_16 := hide (Xx_15.out.on b)
                      have Hn_16 := hide (Hn_15.out.on b)
                      have Ho_16 := hide (Ho_15.out.on b)
                      have Hx_16 := hide (Hx_15.out.on b)
                      have Hp_16 := hide (Hp_15.out.on b)
                      clear c0 c1 c2 c3 d0 d1 d2 d3 g0 g1 g2 g3 h0 h1 h2 h3 m0 m1 m2 m3 p0 p1 p2
                      obtain ⟨c0, c1, c2, c3⟩ := setCells T16.out.e1
                      obtain ⟨d0, d1, d2, d3⟩ := setCells T16.out.e2
                      obtain ⟨g0, g1, g2, g3⟩ := atCells Hn_16.out
                      obtain ⟨h0, h1, h2, h3⟩ := atCells Ho_16.out
                      obtain ⟨m0, m1, m2, m3⟩ := atCells Hx_16.out
                      obtain ⟨p0, p1, p2⟩ := valCells Hp_16.out
                      have PH16 := True.intro
                      clear b b' D15 T15 V15 U15 Xn_15 Xo_15 Xx_15 Hn_15 Ho_15 Hx_15 Hp_15
                      go_wp2_with fail
                      refine (refHas_any _ (andV A B) 1 qn qs _ Xx_16.out qz.out).mono ?_
                      rintro r w17 ⟨rfl, b'⟩
                      rw [G3.out]
                      have b : Below w16.heap.size w16 w17 := ⟨b'.os, b'.tape, b'.output, b'.size, b'.block⟩
                      have D17 := hide (D16.out.trans (b.mono D16.out.size))
                      have T17 := hide (T16.out.on b)
                      have V17 := hide (V16.out.on b)
                      have U17 := hide (U16.out.on b)
                      have Xn_17 := hide (Xn_16.out.on b)
                      have Xo_17 := hide (Xo_16.out.on b)
                      have Xx_17 := hide (Xx_16.out.on b)
                      have Hn_17 := hide (Hn_16.out.on b)
                      have Ho_17 := hide (Ho_16.out.on b)
                      have Hx_17 := hide (Hx_16.out.on b)
                      have Hp_17 := hide (Hp_16.out.on b)
                      clear c0 c1 c2 c3 d0 d1 d2 d3 g0 g1 g2 g3 h0 h1 h2 h3 m0 m1 m2 m3 p0 p1 p2
                      obtain ⟨c0, c1, c2, c3⟩ := setCells T17.out.e1
                      obtain ⟨d0, d1, d2, d3⟩ := setCells T17.out.e2
                      obtain ⟨g0, g1, g2, g3⟩ := atCells Hn_17.out
                      obtain ⟨h0, h1, h2, h3⟩ := atCells Ho_17.out
                      obtain ⟨m0, m1, m2, m3⟩ := atCells Hx_17.out
                      obtain ⟨p0, p1, p2⟩ := valCells Hp_17.out
                      have PH17 := True.intro
                      clear b b' D16 T16 V16 U16 Xn_16 Xo_16 Xx_16 Hn_16 Ho_16 Hx_16 Hp_16
                      go_wp2
                      exact ⟨⟨j + 1, by go_num, by omega, D17⟩, by simp [intOf]; omega⟩
                · skip
                  go_wp2
                  exact ⟨⟨j + 1, by go_num, by omega, hide (HB.out.trans (((Below.refl _ wr).alloc (Nat.le_refl _) _).mono HB.out.size))⟩, by simp [intOf]; omega⟩
              have k2 : qk = 2 := by omega
              subst k2
              by_cases hn : qn = 0
              · subst hn
                obtain ⟨F1, F2, F3⟩ := turns_at fA.out.good fB.out.good 2 0 qs (by simp [rightB]; omega) okq.out.2.1 okq.out.2.2
                have ba := (Below.refl _ wr).alloc (Nat.le_refl _) (.cells #[.int .i64 2, .int .i64 0, .string qs] 27)
                have D12 := hide (HB.out.trans (ba.mono HB.out.size))
                have T12 := hide (T11.out.on D12.out)
                have V12 := hide (V11.out.on D12.out)
                have U12 := hide (U11.out.on D12.out)
                have Xn_12 := hide (Xn_11.out.on D12.out)
                have Xo_12 := hide (Xo_11.out.on D12.out)
                have Xx_12 := hide (Xx_11.out.on D12.out)
                have Hn_12 := hide (Hn_11.out.on D12.out)
                have Ho_12 := hide (Ho_11.out.on D12.out)
                have Hx_12 := hide (Hx_11.out.on D12.out)
                have Hp_12 : Hid (AtB (wr.alloc (.cells #[.int .i64 2, .int .i64 0, .string qs] 27)) wr.heap.size (.cells #[.int .i64 2, .int .i64 0, .string qs] 27)) := hide (heap_new _ _)
                go_wp2
                clear ba y0' y1' y2'
                generalize wr.alloc (.cells #[.int .i64 2, .int .i64 0, .string qs] 27) = w12 at *
                have qz := hide okq.out.1
                cases hbi : hasB A 2 0 qs
                · cases hbj : hasB B 2 0 qs
                  · rw [hbi] at F1
                    rw [hbi, hbj] at F2 F3
                    have G1 : Hid (hasB (notV A) 2 0 qs = true) := hide F1
                    have G2 : Hid (hasB (orV A B) 2 0 qs = false) := hide F2
                    have G3 : Hid (hasB (andV A B) 2 0 qs = false) := hide F3
                    have GA := hide hbi
                    have GB := hide hbj
                    clear F1 F2 F3 hbi hbj
                    obtain ⟨c0, c1, c2, c3⟩ := setCells T12.out.e1
                    obtain ⟨d0, d1, d2, d3⟩ := setCells T12.out.e2
                    obtain ⟨g0, g1, g2, g3⟩ := atCells Hn_12.out
                    obtain ⟨h0, h1, h2, h3⟩ := atCells Ho_12.out
                    obtain ⟨m0, m1, m2, m3⟩ := atCells Hx_12.out
                    obtain ⟨p0, p1, p2⟩ := valCells Hp_12.out
                    have PH12 := True.intro
                    go_region_held3 (fun w' => (w'.cell? ⟨w.heap.size, 0, none⟩ = some (.bool A.absent) ∧ w'.cell? ⟨w.heap.size, 1, none⟩ = some vi ∧ w'.cell? ⟨w.heap.size, 2, none⟩ = some (.bool A.co) ∧ w'.cell? ⟨w.heap.size, 3, none⟩ = some vs) ∧ (w'.cell? ⟨w.heap.size + 1, 0, none⟩ = some (.bool B.absent) ∧ w'.cell? ⟨w.heap.size + 1, 1, none⟩ = some ui ∧ w'.cell? ⟨w.heap.size + 1, 2, none⟩ = some (.bool B.co) ∧ w'.cell? ⟨w.heap.size + 1, 3, none⟩ = some us) ∧ (w'.cell? ⟨wr.heap.size, 0, none⟩ = some (.int .i64 2) ∧ w'.cell? ⟨wr.heap.size, 1, none⟩ = some (.int .i64 0) ∧ w'.cell? ⟨wr.heap.size, 2, none⟩ = some (.string qs))) (first | go_keep | (refine ⟨⟨?_, ?_, ?_, ?_⟩, ⟨?_, ?_, ?_, ?_⟩, ?_, ?_, ?_⟩ <;> assumption)) ((first | (go_at_call 16; have pz := PH12; clear pz PH12; refine (refHas_any _ A 2 0 qs _ ?_ qz.out).mono ?_; exact V12.out; rintro r w13 ⟨rfl, b'⟩; rw [GA.out]; have b : Below w12.heap.size w12 w13 := ⟨b'.os, b'.tape, b'.output, b'.size, b'.block⟩; have D13 := hide (D12.out.trans (b.mono D12.out.size)); have T13 := hide (T12.out.on b); have V13 := hide (V12.out.on b); have U13 := hide (U12.out.on b); have Xn_13 := hide (Xn_12.out.on b); have Xo_13 := hide (Xo_12.out.on b); have Xx_13 := hide (Xx_12.out.on b); have Hn_13 := hide (Hn_12.out.on b); have Ho_13 := hide (Ho_12.out.on b); have Hx_13 := hide (Hx_12.out.on b); have Hp_13 := hide (Hp_12.out.on b); clear c0 c1 c2 c3 d0 d1 d2 d3 g0 g1 g2 g3 h0 h1 h2 h3 m0 m1 m2 m3 p0 p1 p2; obtain ⟨c0, c1, c2, c3⟩ := setCells T13.out.e1; obtain ⟨d0, d1, d2, d3⟩ := setCells T13.out.e2; obtain ⟨g0, g1, g2, g3⟩ := atCells Hn_13.out; obtain ⟨h0, h1, h2, h3⟩ := atCells Ho_13.out; obtain ⟨m0, m1, m2, m3⟩ := atCells Hx_13.out; obtain ⟨p0, p1, p2⟩ := valCells Hp_13.out; have PH13 := True.intro; clear b b' D12 T12 V12 U12 Xn_12 Xo_12 Xx_12 Hn_12 Ho_12 Hx_12 Hp_12) | (go_at_call 16; have pz := PH13; clear pz PH13; refine (refHas_any _ B 2 0 qs _ ?_ qz.out).mono ?_; exact U13.out; rintro r w14 ⟨rfl, b'⟩; rw [GB.out]; have b : Below w13.heap.size w13 w14 := ⟨b'.os, b'.tape, b'.output, b'.size, b'.block⟩; have D14 := hide (D13.out.trans (b.mono D13.out.size)); have T14 := hide (T13.out.on b); have V14 := hide (V13.out.on b); have U14 := hide (U13.out.on b); have Xn_14 := hide (Xn_13.out.on b); have Xo_14 := hide (Xo_13.out.on b); have Xx_14 := hide (Xx_13.out.on b); have Hn_14 := hide (Hn_13.out.on b); have Ho_14 := hide (Ho_13.out.on b); have Hx_14 := hide (Hx_13.out.on b); have Hp_14 := hide (Hp_13.out.on b); clear c0 c1 c2 c3 d0 d1 d2 d3 g0 g1 g2 g3 h0 h1 h2 h3 m0 m1 m2 m3 p0 p1 p2; obtain ⟨c0, c1, c2, c3⟩ := setCells T14.out.e1; obtain ⟨d0, d1, d2, d3⟩ := setCells T14.out.e2; obtain ⟨g0, g1, g2, g3⟩ := atCells Hn_14.out; obtain ⟨h0, h1, h2, h3⟩ := atCells Ho_14.out; obtain ⟨m0, m1, m2, m3⟩ := atCells Hx_14.out; obtain ⟨p0, p1, p2⟩ := valCells Hp_14.out; have PH14 := True.intro; clear b b' D13 T13 V13 U13 Xn_13 Xo_13 Xx_13 Hn_13 Ho_13 Hx_13 Hp_13)))
                    go_wp2_with fail
                    refine (refHas_any _ (notV A) 2 0 qs _ Xn_14.out qz.out).mono ?_
                    rintro r w15 ⟨rfl, b'⟩
                    rw [G1.out]
                    have b : Below w14.heap.size w14 w15 := ⟨b'.os, b'.tape, b'.output, b'.size, b'.block⟩
                    have D15 := hide (D14.out.trans (b.mono D14.out.size))
                    have T15 := hide (T14.out.on b)
                    have V15 := hide (V14.out.on b)
                    have U15 := hide (U14.out.on b)
                    have Xn_15 := hide (Xn_14.out.on b)
                    have Xo_15 := hide (Xo_14.out.on b)
                    have Xx_15 := hide (Xx_14.out.on b)
                    have Hn_15 := hide (Hn_14.out.on b)
                    have Ho_15 := hide (Ho_14.out.on b)
                    have Hx_15 := hide (Hx_14.out.on b)
                    have Hp_15 := hide (Hp_14.out.on b)
                    clear c0 c1 c2 c3 d0 d1 d2 d3 g0 g1 g2 g3 h0 h1 h2 h3 m0 m1 m2 m3 p0 p1 p2
                    obtain ⟨c0, c1, c2, c3⟩ := setCells T15.out.e1
                    obtain ⟨d0, d1, d2, d3⟩ := setCells T15.out.e2
                    obtain ⟨g0, g1, g2, g3⟩ := atCells Hn_15.out
                    obtain ⟨h0, h1, h2, h3⟩ := atCells Ho_15.out
                    obtain ⟨m0, m1, m2, m3⟩ := atCells Hx_15.out
                    obtain ⟨p0, p1, p2⟩ := valCells Hp_15.out
                    have PH15 := True.intro
                    clear b b' D14 T14 V14 U14 Xn_14 Xo_14 Xx_14 Hn_14 Ho_14 Hx_14 Hp_14
                    go_wp2_with fail
                    refine (refHas_any _ (orV A B) 2 0 qs _ Xo_15.out qz.out).mono ?_
                    rintro r w16 ⟨rfl, b'⟩
                    rw [G2.out]
                    have b : Below w15.heap.size w15 w16 := ⟨b'.os, b'.tape, b'.output, b'.size, b'.block⟩
                    have D16 := hide (D15.out.trans (b.mono D15.out.size))
                    have T16 := hide (T15.out.on b)
                    have V16 := hide (V15.out.on b)
                    have U16 := hide (U15.out.on b)
                    have Xn_16 := hide (Xn_15.out.on b)
                    have Xo_16 := hide (Xo_15.out.on b)
                    have Xx_16 := hide (Xx_15.out.on b)
                    have Hn_16 := hide (Hn_15.out.on b)
                    have Ho_16 := hide (Ho_15.out.on b)
                    have Hx_16 := hide (Hx_15.out.on b)
                    have Hp_16 := hide (Hp_15.out.on b)
                    clear c0 c1 c2 c3 d0 d1 d2 d3 g0 g1 g2 g3 h0 h1 h2 h3 m0 m1 m2 m3 p0 p1 p2
                    obtain ⟨c0, c1, c2, c3⟩ := setCells T16.out.e1
                    obtain ⟨d0, d1, d2, d3⟩ := setCells T16.out.e2
                    obtain ⟨g0, g1, g2, g3⟩ := atCells Hn_16.out
                    obtain ⟨h0, h1, h2, h3⟩ := atCells Ho_16.out
                    obtain ⟨m0, m1, m2, m3⟩ := atCells Hx_16.out
                    obtain ⟨p0, p1, p2⟩ := valCells Hp_16.out
                    have PH16 := True.intro
                    clear b b' D15 T15 V15 U15 Xn_15 Xo_15 Xx_15 Hn_15 Ho_15 Hx_15 Hp_15
                    go_wp2_with fail
                    refine (refHas_any _ (andV A B) 2 0 qs _ Xx_16.out qz.out).mono ?_
                    rintro r w17 ⟨rfl, b'⟩
                    rw [G3.out]
                    have b : Below w16.heap.size w16 w17 := ⟨b'.os, b'.tape, b'.output, b'.size, b'.block⟩
                    have D17 := hide (D16.out.trans (b.mono D16.out.size))
                    have T17 := hide (T16.out.on b)
                    have V17 := hide (V16.out.on b)
                    have U17 := hide (U16.out.on b)
                    have Xn_17 := hide (Xn_16.out.on b)
                    have Xo_17 := hide (Xo_16.out.on b)
                    have Xx_17 := hide (Xx_16.out.on b)
                    have Hn_17 := hide (Hn_16.out.on b)
                    have Ho_17 := hide (Ho_16.out.on b)
                    have Hx_17 := hide (Hx_16.out.on b)
                    have Hp_17 := hide (Hp_16.out.on b)
                    clear c0 c1 c2 c3 d0 d1 d2 d3 g0 g1 g2 g3 h0 h1 h2 h3 m0 m1 m2 m3 p0 p1 p2
                    obtain ⟨c0, c1, c2, c3⟩ := setCells T17.out.e1
                    obtain ⟨d0, d1, d2, d3⟩ := setCells T17.out.e2
                    obtain ⟨g0, g1, g2, g3⟩ := atCells Hn_17.out
                    obtain ⟨h0, h1, h2, h3⟩ := atCells Ho_17.out
                    obtain ⟨m0, m1, m2, m3⟩ := atCells Hx_17.out
                    obtain ⟨p0, p1, p2⟩ := valCells Hp_17.out
                    have PH17 := True.intro
                    clear b b' D16 T16 V16 U16 Xn_16 Xo_16 Xx_16 Hn_16 Ho_16 Hx_16 Hp_16
                    go_wp2
                    exact ⟨⟨j + 1, by go_num, by omega, D17⟩, by simp [intOf]; omega⟩
                  · rw [hbi] at F1
                    rw [hbi, hbj] at F2 F3
                    have G1 : Hid (hasB (notV A) 2 0 qs = true) := hide F1
                    have G2 : Hid (hasB (orV A B) 2 0 qs = true) := hide F2
                    have G3 : Hid (hasB (andV A B) 2 0 qs = false) := hide F3
                    have GA := hide hbi
                    have GB := hide hbj
                    clear F1 F2 F3 hbi hbj
                    obtain ⟨c0, c1, c2, c3⟩ := setCells T12.out.e1
                    obtain ⟨d0, d1, d2, d3⟩ := setCells T12.out.e2
                    obtain ⟨g0, g1, g2, g3⟩ := atCells Hn_12.out
                    obtain ⟨h0, h1, h2, h3⟩ := atCells Ho_12.out
                    obtain ⟨m0, m1, m2, m3⟩ := atCells Hx_12.out
                    obtain ⟨p0, p1, p2⟩ := valCells Hp_12.out
                    have PH12 := True.intro
                    go_region_held3 (fun w' => (w'.cell? ⟨w.heap.size, 0, none⟩ = some (.bool A.absent) ∧ w'.cell? ⟨w.heap.size, 1, none⟩ = some vi ∧ w'.cell? ⟨w.heap.size, 2, none⟩ = some (.bool A.co) ∧ w'.cell? ⟨w.heap.size, 3, none⟩ = some vs) ∧ (w'.cell? ⟨w.heap.size + 1, 0, none⟩ = some (.bool B.absent) ∧ w'.cell? ⟨w.heap.size + 1, 1, none⟩ = some ui ∧ w'.cell? ⟨w.heap.size + 1, 2, none⟩ = some (.bool B.co) ∧ w'.cell? ⟨w.heap.size + 1, 3, none⟩ = some us) ∧ (w'.cell? ⟨wr.heap.size, 0, none⟩ = some (.int .i64 2) ∧ w'.cell? ⟨wr.heap.size, 1, none⟩ = some (.int .i64 0) ∧ w'.cell? ⟨wr.heap.size, 2, none⟩ = some (.string qs))) (first | go_keep | (refine ⟨⟨?_, ?_, ?_, ?_⟩, ⟨?_, ?_, ?_, ?_⟩, ?_, ?_, ?_⟩ <;> assumption)) ((first | (go_at_call 16; have pz := PH12; clear pz PH12; refine (refHas_any _ A 2 0 qs _ ?_ qz.out).mono ?_; exact V12.out; rintro r w13 ⟨rfl, b'⟩; rw [GA.out]; have b : Below w12.heap.size w12 w13 := ⟨b'.os, b'.tape, b'.output, b'.size, b'.block⟩; have D13 := hide (D12.out.trans (b.mono D12.out.size)); have T13 := hide (T12.out.on b); have V13 := hide (V12.out.on b); have U13 := hide (U12.out.on b); have Xn_13 := hide (Xn_12.out.on b); have Xo_13 := hide (Xo_12.out.on b); have Xx_13 := hide (Xx_12.out.on b); have Hn_13 := hide (Hn_12.out.on b); have Ho_13 := hide (Ho_12.out.on b); have Hx_13 := hide (Hx_12.out.on b); have Hp_13 := hide (Hp_12.out.on b); clear c0 c1 c2 c3 d0 d1 d2 d3 g0 g1 g2 g3 h0 h1 h2 h3 m0 m1 m2 m3 p0 p1 p2; obtain ⟨c0, c1, c2, c3⟩ := setCells T13.out.e1; obtain ⟨d0, d1, d2, d3⟩ := setCells T13.out.e2; obtain ⟨g0, g1, g2, g3⟩ := atCells Hn_13.out; obtain ⟨h0, h1, h2, h3⟩ := atCells Ho_13.out; obtain ⟨m0, m1, m2, m3⟩ := atCells Hx_13.out; obtain ⟨p0, p1, p2⟩ := valCells Hp_13.out; have PH13 := True.intro; clear b b' D12 T12 V12 U12 Xn_12 Xo_12 Xx_12 Hn_12 Ho_12 Hx_12 Hp_12) | (go_at_call 16; have pz := PH13; clear pz PH13; refine (refHas_any _ B 2 0 qs _ ?_ qz.out).mono ?_; exact U13.out; rintro r w14 ⟨rfl, b'⟩; rw [GB.out]; have b : Below w13.heap.size w13 w14 := ⟨b'.os, b'.tape, b'.output, b'.size, b'.block⟩; have D14 := hide (D13.out.trans (b.mono D13.out.size)); have T14 := hide (T13.out.on b); have V14 := hide (V13.out.on b); have U14 := hide (U13.out.on b); have Xn_14 := hide (Xn_13.out.on b); have Xo_14 := hide (Xo_13.out.on b); have Xx_14 := hide (Xx_13.out.on b); have Hn_14 := hide (Hn_13.out.on b); have Ho_14 := hide (Ho_13.out.on b); have Hx_14 := hide (Hx_13.out.on b); have Hp_14 := hide (Hp_13.out.on b); clear c0 c1 c2 c3 d0 d1 d2 d3 g0 g1 g2 g3 h0 h1 h2 h3 m0 m1 m2 m3 p0 p1 p2; obtain ⟨c0, c1, c2, c3⟩ := setCells T14.out.e1; obtain ⟨d0, d1, d2, d3⟩ := setCells T14.out.e2; obtain ⟨g0, g1, g2, g3⟩ := atCells Hn_14.out; obtain ⟨h0, h1, h2, h3⟩ := atCells Ho_14.out; obtain ⟨m0, m1, m2, m3⟩ := atCells Hx_14.out; obtain ⟨p0, p1, p2⟩ := valCells Hp_14.out; have PH14 := True.intro; clear b b' D13 T13 V13 U13 Xn_13 Xo_13 Xx_13 Hn_13 Ho_13 Hx_13 Hp_13)))
                    go_wp2_with fail
                    refine (refHas_any _ (notV A) 2 0 qs _ Xn_14.out qz.out).mono ?_
                    rintro r w15 ⟨rfl, b'⟩
                    rw [G1.out]
                    have b : Below w14.heap.size w14 w15 := ⟨b'.os, b'.tape, b'.output, b'.size, b'.block⟩
                    have D15 := hide (D14.out.trans (b.mono D14.out.size))
                    have T15 := hide (T14.out.on b)
                    have V15 := hide (V14.out.on b)
                    have U15 := hide (U14.out.on b)
                    have Xn_15 := hide (Xn_14.out.on b)
                    have Xo_15 := hide (Xo_14.out.on b)
                    have Xx_15 := hide (Xx_14.out.on b)
                    have Hn_15 := hide (Hn_14.out.on b)
                    have Ho_15 := hide (Ho_14.out.on b)
                    have Hx_15 := hide (Hx_14.out.on b)
                    have Hp_15 := hide (Hp_14.out.on b)
                    clear c0 c1 c2 c3 d0 d1 d2 d3 g0 g1 g2 g3 h0 h1 h2 h3 m0 m1 m2 m3 p0 p1 p2
                    obtain ⟨c0, c1, c2, c3⟩ := setCells T15.out.e1
                    obtain ⟨d0, d1, d2, d3⟩ := setCells T15.out.e2
                    obtain ⟨g0, g1, g2, g3⟩ := atCells Hn_15.out
                    obtain ⟨h0, h1, h2, h3⟩ := atCells Ho_15.out
                    obtain ⟨m0, m1, m2, m3⟩ := atCells Hx_15.out
                    obtain ⟨p0, p1, p2⟩ := valCells Hp_15.out
                    have PH15 := True.intro
                    clear b b' D14 T14 V14 U14 Xn_14 Xo_14 Xx_14 Hn_14 Ho_14 Hx_14 Hp_14
                    go_wp2_with fail
                    refine (refHas_any _ (orV A B) 2 0 qs _ Xo_15.out qz.out).mono ?_
                    rintro r w16 ⟨rfl, b'⟩
                    rw [G2.out]
                    have b : Below w15.heap.size w15 w16 := ⟨b'.os, b'.tape, b'.output, b'.size, b'.block⟩
                    have D16 := hide (D15.out.trans (b.mono D15.out.size))
                    have T16 := hide (T15.out.on b)
                    have V16 := hide (V15.out.on b)
                    have U16 := hide (U15.out.on b)
                    have Xn_16 := hide (Xn_15.out.on b)
                    have Xo_16 := hide (Xo_15.out.on b)
                    have Xx_16 := hide (Xx_15.out.on b)
                    have Hn_16 := hide (Hn_15.out.on b)
                    have Ho_16 := hide (Ho_15.out.on b)
                    have Hx_16 := hide (Hx_15.out.on b)
                    have Hp_16 := hide (Hp_15.out.on b)
                    clear c0 c1 c2 c3 d0 d1 d2 d3 g0 g1 g2 g3 h0 h1 h2 h3 m0 m1 m2 m3 p0 p1 p2
                    obtain ⟨c0, c1, c2, c3⟩ := setCells T16.out.e1
                    obtain ⟨d0, d1, d2, d3⟩ := setCells T16.out.e2
                    obtain ⟨g0, g1, g2, g3⟩ := atCells Hn_16.out
                    obtain ⟨h0, h1, h2, h3⟩ := atCells Ho_16.out
                    obtain ⟨m0, m1, m2, m3⟩ := atCells Hx_16.out
                    obtain ⟨p0, p1, p2⟩ := valCells Hp_16.out
                    have PH16 := True.intro
                    clear b b' D15 T15 V15 U15 Xn_15 Xo_15 Xx_15 Hn_15 Ho_15 Hx_15 Hp_15
                    go_wp2_with fail
                    refine (refHas_any _ (andV A B) 2 0 qs _ Xx_16.out qz.out).mono ?_
                    rintro r w17 ⟨rfl, b'⟩
                    rw [G3.out]
                    have b : Below w16.heap.size w16 w17 := ⟨b'.os, b'.tape, b'.output, b'.size, b'.block⟩
                    have D17 := hide (D16.out.trans (b.mono D16.out.size))
                    have T17 := hide (T16.out.on b)
                    have V17 := hide (V16.out.on b)
                    have U17 := hide (U16.out.on b)
                    have Xn_17 := hide (Xn_16.out.on b)
                    have Xo_17 := hide (Xo_16.out.on b)
                    have Xx_17 := hide (Xx_16.out.on b)
                    have Hn_17 := hide (Hn_16.out.on b)
                    have Ho_17 := hide (Ho_16.out.on b)
                    have Hx_17 := hide (Hx_16.out.on b)
                    have Hp_17 := hide (Hp_16.out.on b)
                    clear c0 c1 c2 c3 d0 d1 d2 d3 g0 g1 g2 g3 h0 h1 h2 h3 m0 m1 m2 m3 p0 p1 p2
                    obtain ⟨c0, c1, c2, c3⟩ := setCells T17.out.e1
                    obtain ⟨d0, d1, d2, d3⟩ := setCells T17.out.e2
                    obtain ⟨g0, g1, g2, g3⟩ := atCells Hn_17.out
                    obtain ⟨h0, h1, h2, h3⟩ := atCells Ho_17.out
                    obtain ⟨m0, m1, m2, m3⟩ := atCells Hx_17.out
                    obtain ⟨p0, p1, p2⟩ := valCells Hp_17.out
                    have PH17 := True.intro
                    clear b b' D16 T16 V16 U16 Xn_16 Xo_16 Xx_16 Hn_16 Ho_16 Hx_16 Hp_16
                    go_wp2
                    exact ⟨⟨j + 1, by go_num, by omega, D17⟩, by simp [intOf]; omega⟩
                · cases hbj : hasB B 2 0 qs
                  · rw [hbi] at F1
                    rw [hbi, hbj] at F2 F3
                    have G1 : Hid (hasB (notV A) 2 0 qs = false) := hide F1
                    have G2 : Hid (hasB (orV A B) 2 0 qs = true) := hide F2
                    have G3 : Hid (hasB (andV A B) 2 0 qs = false) := hide F3
                    have GA := hide hbi
                    have GB := hide hbj
                    clear F1 F2 F3 hbi hbj
                    obtain ⟨c0, c1, c2, c3⟩ := setCells T12.out.e1
                    obtain ⟨d0, d1, d2, d3⟩ := setCells T12.out.e2
                    obtain ⟨g0, g1, g2, g3⟩ := atCells Hn_12.out
                    obtain ⟨h0, h1, h2, h3⟩ := atCells Ho_12.out
                    obtain ⟨m0, m1, m2, m3⟩ := atCells Hx_12.out
                    obtain ⟨p0, p1, p2⟩ := valCells Hp_12.out
                    have PH12 := True.intro
                    go_region_held3 (fun w' => (w'.cell? ⟨w.heap.size, 0, none⟩ = some (.bool A.absent) ∧ w'.cell? ⟨w.heap.size, 1, none⟩ = some vi ∧ w'.cell? ⟨w.heap.size, 2, none⟩ = some (.bool A.co) ∧ w'.cell? ⟨w.heap.size, 3, none⟩ = some vs) ∧ (w'.cell? ⟨w.heap.size + 1, 0, none⟩ = some (.bool B.absent) ∧ w'.cell? ⟨w.heap.size + 1, 1, none⟩ = some ui ∧ w'.cell? ⟨w.heap.size + 1, 2, none⟩ = some (.bool B.co) ∧ w'.cell? ⟨w.heap.size + 1, 3, none⟩ = some us) ∧ (w'.cell? ⟨wr.heap.size, 0, none⟩ = some (.int .i64 2) ∧ w'.cell? ⟨wr.heap.size, 1, none⟩ = some (.int .i64 0) ∧ w'.cell? ⟨wr.heap.size, 2, none⟩ = some (.string qs))) (first | go_keep | (refine ⟨⟨?_, ?_, ?_, ?_⟩, ⟨?_, ?_, ?_, ?_⟩, ?_, ?_, ?_⟩ <;> assumption)) ((first | (go_at_call 16; have pz := PH12; clear pz PH12; refine (refHas_any _ A 2 0 qs _ ?_ qz.out).mono ?_; exact V12.out; rintro r w13 ⟨rfl, b'⟩; rw [GA.out]; have b : Below w12.heap.size w12 w13 := ⟨b'.os, b'.tape, b'.output, b'.size, b'.block⟩; have D13 := hide (D12.out.trans (b.mono D12.out.size)); have T13 := hide (T12.out.on b); have V13 := hide (V12.out.on b); have U13 := hide (U12.out.on b); have Xn_13 := hide (Xn_12.out.on b); have Xo_13 := hide (Xo_12.out.on b); have Xx_13 := hide (Xx_12.out.on b); have Hn_13 := hide (Hn_12.out.on b); have Ho_13 := hide (Ho_12.out.on b); have Hx_13 := hide (Hx_12.out.on b); have Hp_13 := hide (Hp_12.out.on b); clear c0 c1 c2 c3 d0 d1 d2 d3 g0 g1 g2 g3 h0 h1 h2 h3 m0 m1 m2 m3 p0 p1 p2; obtain ⟨c0, c1, c2, c3⟩ := setCells T13.out.e1; obtain ⟨d0, d1, d2, d3⟩ := setCells T13.out.e2; obtain ⟨g0, g1, g2, g3⟩ := atCells Hn_13.out; obtain ⟨h0, h1, h2, h3⟩ := atCells Ho_13.out; obtain ⟨m0, m1, m2, m3⟩ := atCells Hx_13.out; obtain ⟨p0, p1, p2⟩ := valCells Hp_13.out; have PH13 := True.intro; clear b b' D12 T12 V12 U12 Xn_12 Xo_12 Xx_12 Hn_12 Ho_12 Hx_12 Hp_12) | (go_at_call 16; have pz := PH13; clear pz PH13; refine (refHas_any _ B 2 0 qs _ ?_ qz.out).mono ?_; exact U13.out; rintro r w14 ⟨rfl, b'⟩; rw [GB.out]; have b : Below w13.heap.size w13 w14 := ⟨b'.os, b'.tape, b'.output, b'.size, b'.block⟩; have D14 := hide (D13.out.trans (b.mono D13.out.size)); have T14 := hide (T13.out.on b); have V14 := hide (V13.out.on b); have U14 := hide (U13.out.on b); have Xn_14 := hide (Xn_13.out.on b); have Xo_14 := hide (Xo_13.out.on b); have Xx_14 := hide (Xx_13.out.on b); have Hn_14 := hide (Hn_13.out.on b); have Ho_14 := hide (Ho_13.out.on b); have Hx_14 := hide (Hx_13.out.on b); have Hp_14 := hide (Hp_13.out.on b); clear c0 c1 c2 c3 d0 d1 d2 d3 g0 g1 g2 g3 h0 h1 h2 h3 m0 m1 m2 m3 p0 p1 p2; obtain ⟨c0, c1, c2, c3⟩ := setCells T14.out.e1; obtain ⟨d0, d1, d2, d3⟩ := setCells T14.out.e2; obtain ⟨g0, g1, g2, g3⟩ := atCells Hn_14.out; obtain ⟨h0, h1, h2, h3⟩ := atCells Ho_14.out; obtain ⟨m0, m1, m2, m3⟩ := atCells Hx_14.out; obtain ⟨p0, p1, p2⟩ := valCells Hp_14.out; have PH14 := True.intro; clear b b' D13 T13 V13 U13 Xn_13 Xo_13 Xx_13 Hn_13 Ho_13 Hx_13 Hp_13)))
                    go_wp2_with fail
                    refine (refHas_any _ (notV A) 2 0 qs _ Xn_14.out qz.out).mono ?_
                    rintro r w15 ⟨rfl, b'⟩
                    rw [G1.out]
                    have b : Below w14.heap.size w14 w15 := ⟨b'.os, b'.tape, b'.output, b'.size, b'.block⟩
                    have D15 := hide (D14.out.trans (b.mono D14.out.size))
                    have T15 := hide (T14.out.on b)
                    have V15 := hide (V14.out.on b)
                    have U15 := hide (U14.out.on b)
                    have Xn_15 := hide (Xn_14.out.on b)
                    have Xo_15 := hide (Xo_14.out.on b)
                    have Xx_15 := hide (Xx_14.out.on b)
                    have Hn_15 := hide (Hn_14.out.on b)
                    have Ho_15 := hide (Ho_14.out.on b)
                    have Hx_15 := hide (Hx_14.out.on b)
                    have Hp_15 := hide (Hp_14.out.on b)
                    clear c0 c1 c2 c3 d0 d1 d2 d3 g0 g1 g2 g3 h0 h1 h2 h3 m0 m1 m2 m3 p0 p1 p2
                    obtain ⟨c0, c1, c2, c3⟩ := setCells T15.out.e1
                    obtain ⟨d0, d1, d2, d3⟩ := setCells T15.out.e2
                    obtain ⟨g0, g1, g2, g3⟩ := atCells Hn_15.out
                    obtain ⟨h0, h1, h2, h3⟩ := atCells Ho_15.out
                    obtain ⟨m0, m1, m2, m3⟩ := atCells Hx_15.out
                    obtain ⟨p0, p1, p2⟩ := valCells Hp_15.out
                    have PH15 := True.intro
                    clear b b' D14 T14 V14 U14 Xn_14 Xo_14 Xx_14 Hn_14 Ho_14 Hx_14 Hp_14
                    go_wp2_with fail
                    refine (refHas_any _ (orV A B) 2 0 qs _ Xo_15.out qz.out).mono ?_
                    rintro r w16 ⟨rfl, b'⟩
                    rw [G2.out]
                    have b : Below w15.heap.size w15 w16 := ⟨b'.os, b'.tape, b'.output, b'.size, b'.block⟩
                    have D16 := hide (D15.out.trans (b.mono D15.out.size))
                    have T16 := hide (T15.out.on b)
                    have V16 := hide (V15.out.on b)
                    have U16 := hide (U15.out.on b)
                    have Xn_16 := hide (Xn_15.out.on b)
                    have Xo_16 := hide (Xo_15.out.on b)
                    have Xx_16 := hide (Xx_15.out.on b)
                    have Hn_16 := hide (Hn_15.out.on b)
                    have Ho_16 := hide (Ho_15.out.on b)
                    have Hx_16 := hide (Hx_15.out.on b)
                    have Hp_16 := hide (Hp_15.out.on b)
                    clear c0 c1 c2 c3 d0 d1 d2 d3 g0 g1 g2 g3 h0 h1 h2 h3 m0 m1 m2 m3 p0 p1 p2
                    obtain ⟨c0, c1, c2, c3⟩ := setCells T16.out.e1
                    obtain ⟨d0, d1, d2, d3⟩ := setCells T16.out.e2
                    obtain ⟨g0, g1, g2, g3⟩ := atCells Hn_16.out
                    obtain ⟨h0, h1, h2, h3⟩ := atCells Ho_16.out
                    obtain ⟨m0, m1, m2, m3⟩ := atCells Hx_16.out
                    obtain ⟨p0, p1, p2⟩ := valCells Hp_16.out
                    have PH16 := True.intro
                    clear b b' D15 T15 V15 U15 Xn_15 Xo_15 Xx_15 Hn_15 Ho_15 Hx_15 Hp_15
                    go_wp2_with fail
                    refine (refHas_any _ (andV A B) 2 0 qs _ Xx_16.out qz.out).mono ?_
                    rintro r w17 ⟨rfl, b'⟩
                    rw [G3.out]
                    have b : Below w16.heap.size w16 w17 := ⟨b'.os, b'.tape, b'.output, b'.size, b'.block⟩
                    have D17 := hide (D16.out.trans (b.mono D16.out.size))
                    have T17 := hide (T16.out.on b)
                    have V17 := hide (V16.out.on b)
                    have U17 := hide (U16.out.on b)
                    have Xn_17 := hide (Xn_16.out.on b)
                    have Xo_17 := hide (Xo_16.out.on b)
                    have Xx_17 := hide (Xx_16.out.on b)
                    have Hn_17 := hide (Hn_16.out.on b)
                    have Ho_17 := hide (Ho_16.out.on b)
                    have Hx_17 := hide (Hx_16.out.on b)
                    have Hp_17 := hide (Hp_16.out.on b)
                    clear c0 c1 c2 c3 d0 d1 d2 d3 g0 g1 g2 g3 h0 h1 h2 h3 m0 m1 m2 m3 p0 p1 p2
                    obtain ⟨c0, c1, c2, c3⟩ := setCells T17.out.e1
                    obtain ⟨d0, d1, d2, d3⟩ := setCells T17.out.e2
                    obtain ⟨g0, g1, g2, g3⟩ := atCells Hn_17.out
                    obtain ⟨h0, h1, h2, h3⟩ := atCells Ho_17.out
                    obtain ⟨m0, m1, m2, m3⟩ := atCells Hx_17.out
                    obtain ⟨p0, p1, p2⟩ := valCells Hp_17.out
                    have PH17 := True.intro
                    clear b b' D16 T16 V16 U16 Xn_16 Xo_16 Xx_16 Hn_16 Ho_16 Hx_16 Hp_16
                    go_wp2
                    exact ⟨⟨j + 1, by go_num, by omega, D17⟩, by simp [intOf]; omega⟩
                  · rw [hbi] at F1
                    rw [hbi, hbj] at F2 F3
                    have G1 : Hid (hasB (notV A) 2 0 qs = false) := hide F1
                    have G2 : Hid (hasB (orV A B) 2 0 qs = true) := hide F2
                    have G3 : Hid (hasB (andV A B) 2 0 qs = true) := hide F3
                    have GA := hide hbi
                    have GB := hide hbj
                    clear F1 F2 F3 hbi hbj
                    obtain ⟨c0, c1, c2, c3⟩ := setCells T12.out.e1
                    obtain ⟨d0, d1, d2, d3⟩ := setCells T12.out.e2
                    obtain ⟨g0, g1, g2, g3⟩ := atCells Hn_12.out
                    obtain ⟨h0, h1, h2, h3⟩ := atCells Ho_12.out
                    obtain ⟨m0, m1, m2, m3⟩ := atCells Hx_12.out
                    obtain ⟨p0, p1, p2⟩ := valCells Hp_12.out
                    have PH12 := True.intro
                    go_region_held3 (fun w' => (w'.cell? ⟨w.heap.size, 0, none⟩ = some (.bool A.absent) ∧ w'.cell? ⟨w.heap.size, 1, none⟩ = some vi ∧ w'.cell? ⟨w.heap.size, 2, none⟩ = some (.bool A.co) ∧ w'.cell? ⟨w.heap.size, 3, none⟩ = some vs) ∧ (w'.cell? ⟨w.heap.size + 1, 0, none⟩ = some (.bool B.absent) ∧ w'.cell? ⟨w.heap.size + 1, 1, none⟩ = some ui ∧ w'.cell? ⟨w.heap.size + 1, 2, none⟩ = some (.bool B.co) ∧ w'.cell? ⟨w.heap.size + 1, 3, none⟩ = some us) ∧ (w'.cell? ⟨wr.heap.size, 0, none⟩ = some (.int .i64 2) ∧ w'.cell? ⟨wr.heap.size, 1, none⟩ = some (.int .i64 0) ∧ w'.cell? ⟨wr.heap.size, 2, none⟩ = some (.string qs))) (first | go_keep | (refine ⟨⟨?_, ?_, ?_, ?_⟩, ⟨?_, ?_, ?_, ?_⟩, ?_, ?_, ?_⟩ <;> assumption)) ((first | (go_at_call 16; have pz := PH12; clear pz PH12; refine (refHas_any _ A 2 0 qs _ ?_ qz.out).mono ?_; exact V12.out; rintro r w13 ⟨rfl, b'⟩; rw [GA.out]; have b : Below w12.heap.size w12 w13 := ⟨b'.os, b'.tape, b'.output, b'.size, b'.block⟩; have D13 := hide (D12.out.trans (b.mono D12.out.size)); have T13 := hide (T12.out.on b); have V13 := hide (V12.out.on b); have U13 := hide (U12.out.on b); have Xn_13 := hide (Xn_12.out.on b); have Xo_13 := hide (Xo_12.out.on b); have Xx_13 := hide (Xx_12.out.on b); have Hn_13 := hide (Hn_12.out.on b); have Ho_13 := hide (Ho_12.out.on b); have Hx_13 := hide (Hx_12.out.on b); have Hp_13 := hide (Hp_12.out.on b); clear c0 c1 c2 c3 d0 d1 d2 d3 g0 g1 g2 g3 h0 h1 h2 h3 m0 m1 m2 m3 p0 p1 p2; obtain ⟨c0, c1, c2, c3⟩ := setCells T13.out.e1; obtain ⟨d0, d1, d2, d3⟩ := setCells T13.out.e2; obtain ⟨g0, g1, g2, g3⟩ := atCells Hn_13.out; obtain ⟨h0, h1, h2, h3⟩ := atCells Ho_13.out; obtain ⟨m0, m1, m2, m3⟩ := atCells Hx_13.out; obtain ⟨p0, p1, p2⟩ := valCells Hp_13.out; have PH13 := True.intro; clear b b' D12 T12 V12 U12 Xn_12 Xo_12 Xx_12 Hn_12 Ho_12 Hx_12 Hp_12) | (go_at_call 16; have pz := PH13; clear pz PH13; refine (refHas_any _ B 2 0 qs _ ?_ qz.out).mono ?_; exact U13.out; rintro r w14 ⟨rfl, b'⟩; rw [GB.out]; have b : Below w13.heap.size w13 w14 := ⟨b'.os, b'.tape, b'.output, b'.size, b'.block⟩; have D14 := hide (D13.out.trans (b.mono D13.out.size)); have T14 := hide (T13.out.on b); have V14 := hide (V13.out.on b); have U14 := hide (U13.out.on b); have Xn_14 := hide (Xn_13.out.on b); have Xo_14 := hide (Xo_13.out.on b); have Xx_14 := hide (Xx_13.out.on b); have Hn_14 := hide (Hn_13.out.on b); have Ho_14 := hide (Ho_13.out.on b); have Hx_14 := hide (Hx_13.out.on b); have Hp_14 := hide (Hp_13.out.on b); clear c0 c1 c2 c3 d0 d1 d2 d3 g0 g1 g2 g3 h0 h1 h2 h3 m0 m1 m2 m3 p0 p1 p2; obtain ⟨c0, c1, c2, c3⟩ := setCells T14.out.e1; obtain ⟨d0, d1, d2, d3⟩ := setCells T14.out.e2; obtain ⟨g0, g1, g2, g3⟩ := atCells Hn_14.out; obtain ⟨h0, h1, h2, h3⟩ := atCells Ho_14.out; obtain ⟨m0, m1, m2, m3⟩ := atCells Hx_14.out; obtain ⟨p0, p1, p2⟩ := valCells Hp_14.out; have PH14 := True.intro; clear b b' D13 T13 V13 U13 Xn_13 Xo_13 Xx_13 Hn_13 Ho_13 Hx_13 Hp_13)))
                    go_wp2_with fail
                    refine (refHas_any _ (notV A) 2 0 qs _ Xn_14.out qz.out).mono ?_
                    rintro r w15 ⟨rfl, b'⟩
                    rw [G1.out]
                    have b : Below w14.heap.size w14 w15 := ⟨b'.os, b'.tape, b'.output, b'.size, b'.block⟩
                    have D15 := hide (D14.out.trans (b.mono D14.out.size))
                    have T15 := hide (T14.out.on b)
                    have V15 := hide (V14.out.on b)
                    have U15 := hide (U14.out.on b)
                    have Xn_15 := hide (Xn_14.out.on b)
                    have Xo_15 := hide (Xo_14.out.on b)
                    have Xx_15 := hide (Xx_14.out.on b)
                    have Hn_15 := hide (Hn_14.out.on b)
                    have Ho_15 := hide (Ho_14.out.on b)
                    have Hx_15 := hide (Hx_14.out.on b)
                    have Hp_15 := hide (Hp_14.out.on b)
                    clear c0 c1 c2 c3 d0 d1 d2 d3 g0 g1 g2 g3 h0 h1 h2 h3 m0 m1 m2 m3 p0 p1 p2
                    obtain ⟨c0, c1, c2, c3⟩ := setCells T15.out.e1
                    obtain ⟨d0, d1, d2, d3⟩ := setCells T15.out.e2
                    obtain ⟨g0, g1, g2, g3⟩ := atCells Hn_15.out
                    obtain ⟨h0, h1, h2, h3⟩ := atCells Ho_15.out
                    obtain ⟨m0, m1, m2, m3⟩ := atCells Hx_15.out
                    obtain ⟨p0, p1, p2⟩ := valCells Hp_15.out
                    have PH15 := True.intro
                    clear b b' D14 T14 V14 U14 Xn_14 Xo_14 Xx_14 Hn_14 Ho_14 Hx_14 Hp_14
                    go_wp2_with fail
                    refine (refHas_any _ (orV A B) 2 0 qs _ Xo_15.out qz.out).mono ?_
                    rintro r w16 ⟨rfl, b'⟩
                    rw [G2.out]
                    have b : Below w15.heap.size w15 w16 := ⟨b'.os, b'.tape, b'.output, b'.size, b'.block⟩
                    have D16 := hide (D15.out.trans (b.mono D15.out.size))
                    have T16 := hide (T15.out.on b)
                    have V16 := hide (V15.out.on b)
                    have U16 := hide (U15.out.on b)
                    have Xn_16 := hide (Xn_15.out.on b)
                    have Xo_16 := hide (Xo_15.out.on b)
                    have Xx_16 := hide (Xx_15.out.on b)
                    have Hn_16 := hide (Hn_15.out.on b)
                    have Ho_16 := hide (Ho_15.out.on b)
                    have Hx_16 := hide (Hx_15.out.on b)
                    have Hp_16 := hide (Hp_15.out.on b)
                    clear c0 c1 c2 c3 d0 d1 d2 d3 g0 g1 g2 g3 h0 h1 h2 h3 m0 m1 m2 m3 p0 p1 p2
                    obtain ⟨c0, c1, c2, c3⟩ := setCells T16.out.e1
                    obtain ⟨d0, d1, d2, d3⟩ := setCells T16.out.e2
                    obtain ⟨g0, g1, g2, g3⟩ := atCells Hn_16.out
                    obtain ⟨h0, h1, h2, h3⟩ := atCells Ho_16.out
                    obtain ⟨m0, m1, m2, m3⟩ := atCells Hx_16.out
                    obtain ⟨p0, p1, p2⟩ := valCells Hp_16.out
                    have PH16 := True.intro
                    clear b b' D15 T15 V15 U15 Xn_15 Xo_15 Xx_15 Hn_15 Ho_15 Hx_15 Hp_15
                    go_wp2_with fail
                    refine (refHas_any _ (andV A B) 2 0 qs _ Xx_16.out qz.out).mono ?_
                    rintro r w17 ⟨rfl, b'⟩
                    rw [G3.out]
                    have b : Below w16.heap.size w16 w17 := ⟨b'.os, b'.tape, b'.output, b'.size, b'.block⟩
                    have D17 := hide (D16.out.trans (b.mono D16.out.size))
                    have T17 := hide (T16.out.on b)
                    have V17 := hide (V16.out.on b)
                    have U17 := hide (U16.out.on b)
                    have Xn_17 := hide (Xn_16.out.on b)
                    have Xo_17 := hide (Xo_16.out.on b)
                    have Xx_17 := hide (Xx_16.out.on b)
                    have Hn_17 := hide (Hn_16.out.on b)
                    have Ho_17 := hide (Ho_16.out.on b)
                    have Hx_17 := hide (Hx_16.out.on b)
                    have Hp_17 := hide (Hp_16.out.on b)
                    clear c0 c1 c2 c3 d0 d1 d2 d3 g0 g1 g2 g3 h0 h1 h2 h3 m0 m1 m2 m3 p0 p1 p2
                    obtain ⟨c0, c1, c2, c3⟩ := setCells T17.out.e1
                    obtain ⟨d0, d1, d2, d3⟩ := setCells T17.out.e2
                    obtain ⟨g0, g1, g2, g3⟩ := atCells Hn_17.out
                    obtain ⟨h0, h1, h2, h3⟩ := atCells Ho_17.out
                    obtain ⟨m0, m1, m2, m3⟩ := atCells Hx_17.out
                    obtain ⟨p0, p1, p2⟩ := valCells Hp_17.out
                    have PH17 := True.intro
                    clear b b' D16 T16 V16 U16 Xn_16 Xo_16 Xx_16 Hn_16 Ho_16 Hx_16 Hp_16
                    go_wp2
                    exact ⟨⟨j + 1, by go_num, by omega, D17⟩, by simp [intOf]; omega⟩
              · have hn' : (qn == 0) = false := by simp [hn]
                go_wp2
                exact ⟨⟨j + 1, by go_num, by omega, hide (HB.out.trans (((Below.refl _ wr).alloc (Nat.le_refl _) _).mono HB.out.size))⟩, by simp [intOf]; omega⟩
            · have hge : (N : Int) ≤ (j : Int) := by omega
              go_wp2
              go_ret
              exact ⟨rfl, T11.out.b.trans (HB.out.mono T11.out.b.size)⟩
        · have hz' : (100 : Int) < (s.size : Int) := by omega
          have TX := T4
          clear T4 hR hQ hF
          go_wp2_with fail
          refine (unhide (HAW _)).mono ?_
          rintro r w9 ⟨rfl, b9⟩
          have T9 := hide (TX.out.on b9)
          clear b9
          go_wp2
          go_ret
          exact ⟨rfl, T9.out.b⟩
end Go.Proofs.Ytdmjpdhjebmnfaa
