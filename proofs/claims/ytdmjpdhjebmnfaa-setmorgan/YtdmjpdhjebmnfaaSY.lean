/-
  The walk of the law SetMorgan, out of the program's contracts.
-/
import Derived.Test.YtdmjpdhjebmnfaaSW
set_option linter.unusedSimpArgs false
set_option linter.unusedVariables false
namespace Go.Proofs.Ytdmjpdhjebmnfaa
open Go.RowKit

/-- Three new blocks of a call's, in a later world. -/
structure Three (w0 w : World) (o1 o2 o3 : Obj) : Prop where
  e1 : w.heap[w0.heap.size]? = some o1
  e2 : w.heap[w0.heap.size + 1]? = some o2
  e3 : w.heap[w0.heap.size + 1 + 1]? = some o3
  b : Below w0.heap.size w0 w
theorem Three.on {w0 w w' : World} {o1 o2 o3 : Obj} (h : Three w0 w o1 o2 o3) (hb : Below w.heap.size w w') : Three w0 w' o1 o2 o3 :=
  ⟨(hb.block _ (lt_heap h.e1)).trans h.e1, (hb.block _ (lt_heap h.e2)).trans h.e2, (hb.block _ (lt_heap h.e3)).trans h.e3, h.b.trans (hb.mono h.b.size)⟩
theorem Three.al {w0 w : World} {o1 o2 o3 : Obj} (h : Three w0 w o1 o2 o3) (x : Obj) : Three w0 (w.alloc x) o1 o2 o3 := h.on ((Below.refl _ w).alloc (Nat.le_refl _) x)
theorem Three.start (w : World) (o1 o2 o3 : Obj) : Three w (((w.alloc o1).alloc o2).alloc o3) o1 o2 o3 := by
  have h := (Two.start w o1 o2).al o3
  have s2 : ((w.alloc o1).alloc o2).heap.size = w.heap.size + 1 + 1 := by show ((w.heap.push _).push _).size = _; simp
  refine ⟨h.e1, h.e2, ?_, h.b⟩
  rw [← s2]; exact heap_new _ _
theorem sets_three {w : World} {A B C : SetV} {vi vs ui us qi qs : Value} (hv : SetAt w (.agg #[.bool A.absent, vi, .bool A.co, vs]) A) (hu : SetAt w (.agg #[.bool B.absent, ui, .bool B.co, us]) B) (hq : SetAt w (.agg #[.bool C.absent, qi, .bool C.co, qs]) C) (n : Nat) (hn : n = w.heap.size) :
    SetsAt (w.alloc (.cells #[.bool A.absent, vi, .bool A.co, vs, .bool B.absent, ui, .bool B.co, us, .bool C.absent, qi, .bool C.co, qs] 25)) (.slice (some ⟨n, 0, none⟩) 3 3) [A, B, C] := by
  subst hn
  obtain ⟨vi', vs', ev', hI, hS⟩ := hv
  obtain ⟨ui', us', eu', hJ, hT⟩ := hu
  obtain ⟨qi', qs', eq', hK, hR⟩ := hq
  simp at ev' eu' eq'
  obtain ⟨rfl, rfl⟩ := ev'
  obtain ⟨rfl, rfl⟩ := eu'
  obtain ⟨rfl, rfl⟩ := eq'
  have hb := (Below.refl _ w).alloc (Nat.le_refl _) (.cells #[.bool A.absent, vi, .bool A.co, vs, .bool B.absent, ui, .bool B.co, us, .bool C.absent, qi, .bool C.co, qs] 25)
  have hs : w.heap.size < (w.alloc (.cells #[.bool A.absent, vi, .bool A.co, vs, .bool B.absent, ui, .bool B.co, us, .bool C.absent, qi, .bool C.co, qs] 25)).heap.size := by show _ < (w.heap.push _).size; simp
  refine ⟨by simp, _, 3, rfl, fun i hi => ?_⟩
  have hc := fun j => cell_heap (heap_new w (.cells #[.bool A.absent, vi, .bool A.co, vs, .bool B.absent, ui, .bool B.co, us, .bool C.absent, qi, .bool C.co, qs] 25)) j
  match i, hi with
  | 0, _ => exact ⟨_, 0, vi, vs, rfl, hs, hc 0, hc 1, hc 2, hc 3, hI.on hb, hS.on hb⟩
  | 1, _ => exact ⟨_, 0, ui, us, rfl, hs, hc 4, hc 5, hc 6, hc 7, hJ.on hb, hT.on hb⟩
  | 2, _ => exact ⟨_, 0, qi, qs, rfl, hs, hc 8, hc 9, hc 10, hc 11, hK.on hb, hR.on hb⟩

set_option maxHeartbeats 16000000 in
set_option maxRecDepth 100000 in
theorem setMorgan_walk (P : SetProg) (v u q : Value) (A B C : SetV) (w : World) (hv : SetAt w v A) (hu : SetAt w u B) (hq : SetAt w q C) :
    Calls Try.prog 6 #[v, u, q] w fun r w' => r = .returned (.bool true) ∧ Below w.heap.size w w' := by
  have HV := hide hv
  have HU := hide hu
  have HQ := hide hq
  obtain ⟨vi, vs, rfl, hI, hS⟩ := hv
  obtain ⟨ui, us, rfl, hJ, hT⟩ := hu
  obtain ⟨qi, qs, rfl, hK, hR⟩ := hq
  have HI := hide hI.1
  have HJ := hide hJ.1
  have HK := hide hK.1
  clear hI hS hJ hT hK hR
  have HAW := fun W => hide (awake3_any P W)
  have T0 := hide (Three.start w (.cells #[.bool A.absent, vi, .bool A.co, vs] 25) (.cells #[.bool B.absent, ui, .bool B.co, us] 25) (.cells #[.bool C.absent, qi, .bool C.co, qs] 25))
  have s3 : (((w.alloc (.cells #[.bool A.absent, vi, .bool A.co, vs] 25)).alloc (.cells #[.bool B.absent, ui, .bool B.co, us] 25)).alloc (.cells #[.bool C.absent, qi, .bool C.co, qs] 25)).heap.size = w.heap.size + 1 + 1 + 1 := by show (((w.heap.push _).push _).push _).size = _; simp
  have L0 := hide (sets_three (HV.out.on T0.out.b) (HU.out.on T0.out.b) (HQ.out.on T0.out.b) (w.heap.size + 1 + 1 + 1) s3.symm)
  have T0' := hide (T0.out.al (.cells #[.bool A.absent, vi, .bool A.co, vs, .bool B.absent, ui, .bool B.co, us, .bool C.absent, qi, .bool C.co, qs] 25))
  clear T0 s3
  go_enter Try.func6, Try.ntmps6
  go_wp2_with fail
  generalize (((w.alloc (.cells #[.bool A.absent, vi, .bool A.co, vs] 25)).alloc (.cells #[.bool B.absent, ui, .bool B.co, us] 25)).alloc (.cells #[.bool C.absent, qi, .bool C.co, qs] 25)).alloc (.cells #[.bool A.absent, vi, .bool A.co, vs, .bool B.absent, ui, .bool B.co, us, .bool C.absent, qi, .bool C.co, qs] 25) = w0 at *
  refine (unhide (HAW _)).mono ?_
  rintro r w1 ⟨rfl, b1⟩
  have T1 := hide (T0'.out.on b1)
  have F1 := hide (refFew_any _ [A, B, C] _ (L0.out.on b1))
  clear b1 T0' L0
  have V1 := hide (HV.out.on T1.out.b)
  have U1 := hide (HU.out.on T1.out.b)
  have Q1 := hide (HQ.out.on T1.out.b)
  rw [show ([A, B, C] : List SetV).all fewB = (fewB A && (fewB B && fewB C)) by simp] at F1
  go_wp2_with fail
  refine (unhide F1).mono ?_
  rintro r w2 ⟨rfl, rfl⟩
  cases hF : (fewB A && (fewB B && fewB C))
  · have TX := T1
    clear T1 F1 hF
    go_wp2_with fail
    refine (unhide (HAW _)).mono ?_
    rintro r w9 ⟨rfl, b9⟩
    have T9 := hide (TX.out.on b9)
    clear b9
    go_wp2
    go_ret
    exact ⟨rfl, T9.out.b⟩
  · rw [Bool.and_eq_true, Bool.and_eq_true] at hF
    have T2 := T1
    have V2 := V1
    have U2 := U1
    have Q2 := Q1
    clear T1 V1 U1 Q1 F1
    obtain ⟨c0, c1, c2, c3⟩ := setCells T2.out.e1
    obtain ⟨d0, d1, d2, d3⟩ := setCells T2.out.e2
    obtain ⟨k0, k1, k2, k3⟩ := setCells T2.out.e3
    have R := hide (refRightSet_any _ A w2 V2.out)
    go_wp2_with fail
    refine (unhide R).mono ?_
    rintro r w3 ⟨rfl, b⟩
    have T3 := hide (T2.out.on b)
    have V3 := hide (V2.out.on b)
    have U3 := hide (U2.out.on b)
    have Q3 := hide (Q2.out.on b)
    clear b R T2 V2 U2 Q2
    clear c0 c1 c2 c3 d0 d1 d2 d3 k0 k1 k2 k3
    obtain ⟨c0, c1, c2, c3⟩ := setCells T3.out.e1
    obtain ⟨d0, d1, d2, d3⟩ := setCells T3.out.e2
    obtain ⟨k0, k1, k2, k3⟩ := setCells T3.out.e3
    cases hR : rightSet A
    · have TX := T3
      clear T3 hR hF
      go_wp2_with fail
      refine (unhide (HAW _)).mono ?_
      rintro r w9 ⟨rfl, b9⟩
      have T9 := hide (TX.out.on b9)
      clear b9
      go_wp2
      go_ret
      exact ⟨rfl, T9.out.b⟩
    · have R := hide (refRightSet_any _ B w3 U3.out)
      go_wp2_with fail
      refine (unhide R).mono ?_
      rintro r w4 ⟨rfl, b⟩
      have T4 := hide (T3.out.on b)
      have V4 := hide (V3.out.on b)
      have U4 := hide (U3.out.on b)
      have Q4 := hide (Q3.out.on b)
      clear b R T3 V3 U3 Q3
      clear c0 c1 c2 c3 d0 d1 d2 d3 k0 k1 k2 k3
      obtain ⟨c0, c1, c2, c3⟩ := setCells T4.out.e1
      obtain ⟨d0, d1, d2, d3⟩ := setCells T4.out.e2
      obtain ⟨k0, k1, k2, k3⟩ := setCells T4.out.e3
      cases hQ : rightSet B
      · have TX := T4
        clear T4 hR hQ hF
        go_wp2_with fail
        refine (unhide (HAW _)).mono ?_
        rintro r w9 ⟨rfl, b9⟩
        have T9 := hide (TX.out.on b9)
        clear b9
        go_wp2
        go_ret
        exact ⟨rfl, T9.out.b⟩
      · have R := hide (refRightSet_any _ C w4 Q4.out)
        go_wp2_with fail
        refine (unhide R).mono ?_
        rintro r w5 ⟨rfl, b⟩
        have T5 := hide (T4.out.on b)
        have V5 := hide (V4.out.on b)
        have U5 := hide (U4.out.on b)
        have Q5 := hide (Q4.out.on b)
        clear b R T4 V4 U4 Q4
        clear c0 c1 c2 c3 d0 d1 d2 d3 k0 k1 k2 k3
        obtain ⟨c0, c1, c2, c3⟩ := setCells T5.out.e1
        obtain ⟨d0, d1, d2, d3⟩ := setCells T5.out.e2
        obtain ⟨k0, k1, k2, k3⟩ := setCells T5.out.e3
        cases hP : rightSet C
        · have TX := T5
          clear T5 hR hQ hP hF
          go_wp2_with fail
          refine (unhide (HAW _)).mono ?_
          rintro r w9 ⟨rfl, b9⟩
          have T9 := hide (TX.out.on b9)
          clear b9
          go_wp2
          go_ret
          exact ⟨rfl, T9.out.b⟩
        · have gA : Good A := ⟨hR, HI.out⟩
          have gB : Good B := ⟨hQ, HJ.out⟩
          have gC : Good C := ⟨hP, HK.out⟩
          obtain ⟨lA, mA⟩ := few_len hF.1
          obtain ⟨lB, mB⟩ := few_len hF.2.1
          obtain ⟨lC, mC⟩ := few_len hF.2.2
          have a1 := orV_len gA gB
          have a2 := orV_len gB gA
          have a3 := andV_len gA gB
          have a4 := andV_len gB gA
          have a5 := orV_len gB gC
          have a6 := andV_len gA gC
          have a7 := notV_len A gA
          have a8 := notV_len B gB
          have a9 := notV_len _ (orV_good gA gB)
          have b1 := notV_len _ (andV_good gA gB)
          have b2 := andV_len (notV_good gA) (notV_good gB)
          have b3 := orV_len (notV_good gA) (notV_good gB)
          have b4 := orV_len gA (orV_good gB gC)
          have b5 := orV_len (orV_good gA gB) gC
          have b6 := andV_len gA (orV_good gB gC)
          have b7 := orV_len (andV_good gA gB) (andV_good gA gC)
          have fA := hide (show Fit A from ⟨gA, by omega, by omega⟩)
          have fB := hide (show Fit B from ⟨gB, by omega, by omega⟩)
          have fC := hide (show Fit C from ⟨gC, by omega, by omega⟩)
          have fOab := hide (show Fit (orV A B) from ⟨orV_good gA gB, by omega, by omega⟩)
          have fOba := hide (show Fit (orV B A) from ⟨orV_good gB gA, by omega, by omega⟩)
          have fXab := hide (show Fit (andV A B) from ⟨andV_good gA gB, by omega, by omega⟩)
          have fXba := hide (show Fit (andV B A) from ⟨andV_good gB gA, by omega, by omega⟩)
          have fObc := hide (show Fit (orV B C) from ⟨orV_good gB gC, by omega, by omega⟩)
          have fXac := hide (show Fit (andV A C) from ⟨andV_good gA gC, by omega, by omega⟩)
          have fNa := hide (show Fit (notV A) from ⟨notV_good gA, by omega, by omega⟩)
          have fNb := hide (show Fit (notV B) from ⟨notV_good gB, by omega, by omega⟩)
          have fNO := hide (show Fit (notV (orV A B)) from ⟨notV_good (orV_good gA gB), by omega, by omega⟩)
          have fNX := hide (show Fit (notV (andV A B)) from ⟨notV_good (andV_good gA gB), by omega, by omega⟩)
          have fXn := hide (show Fit (andV (notV A) (notV B)) from ⟨andV_good (notV_good gA) (notV_good gB), by omega, by omega⟩)
          have fOn := hide (show Fit (orV (notV A) (notV B)) from ⟨orV_good (notV_good gA) (notV_good gB), by omega, by omega⟩)
          have fO1 := hide (show Fit (orV A (orV B C)) from ⟨orV_good gA (orV_good gB gC), by omega, by omega⟩)
          have fO2 := hide (show Fit (orV (orV A B) C) from ⟨orV_good (orV_good gA gB) gC, by omega, by omega⟩)
          have fX1 := hide (show Fit (andV A (orV B C)) from ⟨andV_good gA (orV_good gB gC), by omega, by omega⟩)
          have fX2 := hide (show Fit (orV (andV A B) (andV A C)) from ⟨orV_good (andV_good gA gB) (andV_good gA gC), by omega, by omega⟩)
          have E1 := hide ((sameB_iff _ _).2 (morgan1 gA gB (by omega) (by omega)))
          have E2 := hide ((sameB_iff _ _).2 (morgan2 gA gB (by omega) (by omega)))
          have E3 := hide ((sameB_iff _ _).2 (or_comm' gA gB (by omega) (by omega)))
          have E4 := hide ((sameB_iff _ _).2 (and_comm' gA gB (by omega) (by omega)))
          have E5 := hide ((sameB_iff _ _).2 (or_assoc' gA gB gC (by omega) (by omega) (by omega)))
          have E6 := hide ((sameB_iff _ _).2 (and_or' gA gB gC (by omega) (by omega) (by omega)))
          clear a1 a2 a3 a4 a5 a6 a7 a8 a9 b1 b2 b3 b4 b5 b6 b7 lA lB lC mA mB mC gA gB gC hR hQ hP hF
          have PH5 := True.intro
          go_wp2
          simp only [List.append_eq, List.cons_append, List.nil_append]
          go_region_held3 (fun w' => (w'.cell? ⟨w.heap.size, 0, none⟩ = some (.bool A.absent) ∧ w'.cell? ⟨w.heap.size, 1, none⟩ = some vi ∧ w'.cell? ⟨w.heap.size, 2, none⟩ = some (.bool A.co) ∧ w'.cell? ⟨w.heap.size, 3, none⟩ = some vs) ∧ (w'.cell? ⟨w.heap.size + 1, 0, none⟩ = some (.bool B.absent) ∧ w'.cell? ⟨w.heap.size + 1, 1, none⟩ = some ui ∧ w'.cell? ⟨w.heap.size + 1, 2, none⟩ = some (.bool B.co) ∧ w'.cell? ⟨w.heap.size + 1, 3, none⟩ = some us) ∧ (w'.cell? ⟨w.heap.size + 1 + 1, 0, none⟩ = some (.bool C.absent) ∧ w'.cell? ⟨w.heap.size + 1 + 1, 1, none⟩ = some qi ∧ w'.cell? ⟨w.heap.size + 1 + 1, 2, none⟩ = some (.bool C.co) ∧ w'.cell? ⟨w.heap.size + 1 + 1, 3, none⟩ = some qs)) (first | go_keep | (refine ⟨⟨?_, ?_, ?_, ?_⟩, ⟨?_, ?_, ?_, ?_⟩, ?_, ?_, ?_, ?_⟩ <;> assumption))
            ((first
              | (go_at_call 12; have pz := PH5; clear pz PH5; refine (P.or _ _ A B _ ?_ ?_ fA.out fB.out).mono ?_; exact V5.out; exact U5.out; rintro r w6 ⟨⟨x, rfl, sx⟩, b'⟩; have b : Below w5.heap.size w5 w6 := ⟨b'.os, b'.tape, b'.output, b'.size, b'.block⟩; have Xa_6 := hide sx; have T6 := hide (T5.out.on b); have V6 := hide (V5.out.on b); have U6 := hide (U5.out.on b); have Q6 := hide (Q5.out.on b); obtain ⟨e0, e1, e2, e3⟩ := setCells T6.out.e1; obtain ⟨f0, f1, f2, f3⟩ := setCells T6.out.e2; obtain ⟨g0, g1, g2, g3⟩ := setCells T6.out.e3; have PH6 := True.intro; clear b b' T5 V5 U5 Q5  sx)
              | (go_at_call 11; have pz := PH6; clear pz PH6; refine (P.not _ (orV A B) _ ?_ fOab.out).mono ?_; exact Xa_6.out; rintro r w7 ⟨⟨x, rfl, sx⟩, b'⟩; have b : Below w6.heap.size w6 w7 := ⟨b'.os, b'.tape, b'.output, b'.size, b'.block⟩; have Xb_7 := hide sx; have T7 := hide (T6.out.on b); have V7 := hide (V6.out.on b); have U7 := hide (U6.out.on b); have Q7 := hide (Q6.out.on b); obtain ⟨e0, e1, e2, e3⟩ := setCells T7.out.e1; obtain ⟨f0, f1, f2, f3⟩ := setCells T7.out.e2; obtain ⟨g0, g1, g2, g3⟩ := setCells T7.out.e3; have PH7 := True.intro; clear b b' T6 V6 U6 Q6 Xa_6 sx)
              | (go_at_call 11; have pz := PH7; clear pz PH7; refine (P.not _ A _ ?_ fA.out).mono ?_; exact V7.out; rintro r w8 ⟨⟨x, rfl, sx⟩, b'⟩; have b : Below w7.heap.size w7 w8 := ⟨b'.os, b'.tape, b'.output, b'.size, b'.block⟩; have Xc_8 := hide sx; have T8 := hide (T7.out.on b); have V8 := hide (V7.out.on b); have U8 := hide (U7.out.on b); have Q8 := hide (Q7.out.on b); have Xb_8 := hide (Xb_7.out.on b); obtain ⟨e0, e1, e2, e3⟩ := setCells T8.out.e1; obtain ⟨f0, f1, f2, f3⟩ := setCells T8.out.e2; obtain ⟨g0, g1, g2, g3⟩ := setCells T8.out.e3; have PH8 := True.intro; clear b b' T7 V7 U7 Q7 Xb_7 sx)
              | (go_at_call 11; have pz := PH8; clear pz PH8; refine (P.not _ B _ ?_ fB.out).mono ?_; exact U8.out; rintro r w9 ⟨⟨x, rfl, sx⟩, b'⟩; have b : Below w8.heap.size w8 w9 := ⟨b'.os, b'.tape, b'.output, b'.size, b'.block⟩; have Xd_9 := hide sx; have T9 := hide (T8.out.on b); have V9 := hide (V8.out.on b); have U9 := hide (U8.out.on b); have Q9 := hide (Q8.out.on b); have Xb_9 := hide (Xb_8.out.on b); have Xc_9 := hide (Xc_8.out.on b); obtain ⟨e0, e1, e2, e3⟩ := setCells T9.out.e1; obtain ⟨f0, f1, f2, f3⟩ := setCells T9.out.e2; obtain ⟨g0, g1, g2, g3⟩ := setCells T9.out.e3; have PH9 := True.intro; clear b b' T8 V8 U8 Q8 Xb_8 Xc_8 sx)
              | (go_at_call 13; have pz := PH9; clear pz PH9; refine (P.and _ _ (notV A) (notV B) _ ?_ ?_ fNa.out fNb.out).mono ?_; exact Xc_9.out; exact Xd_9.out; rintro r w10 ⟨⟨x, rfl, sx⟩, b'⟩; have b : Below w9.heap.size w9 w10 := ⟨b'.os, b'.tape, b'.output, b'.size, b'.block⟩; have Xe_10 := hide sx; have T10 := hide (T9.out.on b); have V10 := hide (V9.out.on b); have U10 := hide (U9.out.on b); have Q10 := hide (Q9.out.on b); have Xb_10 := hide (Xb_9.out.on b); obtain ⟨e0, e1, e2, e3⟩ := setCells T10.out.e1; obtain ⟨f0, f1, f2, f3⟩ := setCells T10.out.e2; obtain ⟨g0, g1, g2, g3⟩ := setCells T10.out.e3; have PH10 := True.intro; clear b b' T9 V9 U9 Q9 Xb_9 Xc_9 Xd_9 sx)
              | (go_at_call 14; have pz := PH10; clear pz PH10; refine (P.same _ _ (notV (orV A B)) (andV (notV A) (notV B)) _ ?_ ?_ fNO.out fXn.out).mono ?_; exact Xb_10.out; exact Xe_10.out; rintro r w11 ⟨rfl, b'⟩; have b : Below w10.heap.size w10 w11 := ⟨b'.os, b'.tape, b'.output, b'.size, b'.block⟩; rw [E1.out]; have T11 := hide (T10.out.on b); have V11 := hide (V10.out.on b); have U11 := hide (U10.out.on b); have Q11 := hide (Q10.out.on b); obtain ⟨e0, e1, e2, e3⟩ := setCells T11.out.e1; obtain ⟨f0, f1, f2, f3⟩ := setCells T11.out.e2; obtain ⟨g0, g1, g2, g3⟩ := setCells T11.out.e3; have PH11 := True.intro; clear b b' T10 V10 U10 Q10 Xb_10 Xe_10 )
              | (go_at_call 13; have pz := PH11; clear pz PH11; refine (P.and _ _ A B _ ?_ ?_ fA.out fB.out).mono ?_; exact V11.out; exact U11.out; rintro r w12 ⟨⟨x, rfl, sx⟩, b'⟩; have b : Below w11.heap.size w11 w12 := ⟨b'.os, b'.tape, b'.output, b'.size, b'.block⟩; have Xa_12 := hide sx; have T12 := hide (T11.out.on b); have V12 := hide (V11.out.on b); have U12 := hide (U11.out.on b); have Q12 := hide (Q11.out.on b); obtain ⟨e0, e1, e2, e3⟩ := setCells T12.out.e1; obtain ⟨f0, f1, f2, f3⟩ := setCells T12.out.e2; obtain ⟨g0, g1, g2, g3⟩ := setCells T12.out.e3; have PH12 := True.intro; clear b b' T11 V11 U11 Q11  sx)
              | (go_at_call 11; have pz := PH12; clear pz PH12; refine (P.not _ (andV A B) _ ?_ fXab.out).mono ?_; exact Xa_12.out; rintro r w13 ⟨⟨x, rfl, sx⟩, b'⟩; have b : Below w12.heap.size w12 w13 := ⟨b'.os, b'.tape, b'.output, b'.size, b'.block⟩; have Xb_13 := hide sx; have T13 := hide (T12.out.on b); have V13 := hide (V12.out.on b); have U13 := hide (U12.out.on b); have Q13 := hide (Q12.out.on b); obtain ⟨e0, e1, e2, e3⟩ := setCells T13.out.e1; obtain ⟨f0, f1, f2, f3⟩ := setCells T13.out.e2; obtain ⟨g0, g1, g2, g3⟩ := setCells T13.out.e3; have PH13 := True.intro; clear b b' T12 V12 U12 Q12 Xa_12 sx)
              | (go_at_call 11; have pz := PH13; clear pz PH13; refine (P.not _ A _ ?_ fA.out).mono ?_; exact V13.out; rintro r w14 ⟨⟨x, rfl, sx⟩, b'⟩; have b : Below w13.heap.size w13 w14 := ⟨b'.os, b'.tape, b'.output, b'.size, b'.block⟩; have Xc_14 := hide sx; have T14 := hide (T13.out.on b); have V14 := hide (V13.out.on b); have U14 := hide (U13.out.on b); have Q14 := hide (Q13.out.on b); have Xb_14 := hide (Xb_13.out.on b); obtain ⟨e0, e1, e2, e3⟩ := setCells T14.out.e1; obtain ⟨f0, f1, f2, f3⟩ := setCells T14.out.e2; obtain ⟨g0, g1, g2, g3⟩ := setCells T14.out.e3; have PH14 := True.intro; clear b b' T13 V13 U13 Q13 Xb_13 sx)
              | (go_at_call 11; have pz := PH14; clear pz PH14; refine (P.not _ B _ ?_ fB.out).mono ?_; exact U14.out; rintro r w15 ⟨⟨x, rfl, sx⟩, b'⟩; have b : Below w14.heap.size w14 w15 := ⟨b'.os, b'.tape, b'.output, b'.size, b'.block⟩; have Xd_15 := hide sx; have T15 := hide (T14.out.on b); have V15 := hide (V14.out.on b); have U15 := hide (U14.out.on b); have Q15 := hide (Q14.out.on b); have Xb_15 := hide (Xb_14.out.on b); have Xc_15 := hide (Xc_14.out.on b); obtain ⟨e0, e1, e2, e3⟩ := setCells T15.out.e1; obtain ⟨f0, f1, f2, f3⟩ := setCells T15.out.e2; obtain ⟨g0, g1, g2, g3⟩ := setCells T15.out.e3; have PH15 := True.intro; clear b b' T14 V14 U14 Q14 Xb_14 Xc_14 sx)
              | (go_at_call 12; have pz := PH15; clear pz PH15; refine (P.or _ _ (notV A) (notV B) _ ?_ ?_ fNa.out fNb.out).mono ?_; exact Xc_15.out; exact Xd_15.out; rintro r w16 ⟨⟨x, rfl, sx⟩, b'⟩; have b : Below w15.heap.size w15 w16 := ⟨b'.os, b'.tape, b'.output, b'.size, b'.block⟩; have Xe_16 := hide sx; have T16 := hide (T15.out.on b); have V16 := hide (V15.out.on b); have U16 := hide (U15.out.on b); have Q16 := hide (Q15.out.on b); have Xb_16 := hide (Xb_15.out.on b); obtain ⟨e0, e1, e2, e3⟩ := setCells T16.out.e1; obtain ⟨f0, f1, f2, f3⟩ := setCells T16.out.e2; obtain ⟨g0, g1, g2, g3⟩ := setCells T16.out.e3; have PH16 := True.intro; clear b b' T15 V15 U15 Q15 Xb_15 Xc_15 Xd_15 sx)
              | (go_at_call 14; have pz := PH16; clear pz PH16; refine (P.same _ _ (notV (andV A B)) (orV (notV A) (notV B)) _ ?_ ?_ fNX.out fOn.out).mono ?_; exact Xb_16.out; exact Xe_16.out; rintro r w17 ⟨rfl, b'⟩; have b : Below w16.heap.size w16 w17 := ⟨b'.os, b'.tape, b'.output, b'.size, b'.block⟩; rw [E2.out]; have T17 := hide (T16.out.on b); have V17 := hide (V16.out.on b); have U17 := hide (U16.out.on b); have Q17 := hide (Q16.out.on b); obtain ⟨e0, e1, e2, e3⟩ := setCells T17.out.e1; obtain ⟨f0, f1, f2, f3⟩ := setCells T17.out.e2; obtain ⟨g0, g1, g2, g3⟩ := setCells T17.out.e3; have PH17 := True.intro; clear b b' T16 V16 U16 Q16 Xb_16 Xe_16 )
              | (go_at_call 12; have pz := PH17; clear pz PH17; refine (P.or _ _ A B _ ?_ ?_ fA.out fB.out).mono ?_; exact V17.out; exact U17.out; rintro r w18 ⟨⟨x, rfl, sx⟩, b'⟩; have b : Below w17.heap.size w17 w18 := ⟨b'.os, b'.tape, b'.output, b'.size, b'.block⟩; have Xa_18 := hide sx; have T18 := hide (T17.out.on b); have V18 := hide (V17.out.on b); have U18 := hide (U17.out.on b); have Q18 := hide (Q17.out.on b); obtain ⟨e0, e1, e2, e3⟩ := setCells T18.out.e1; obtain ⟨f0, f1, f2, f3⟩ := setCells T18.out.e2; obtain ⟨g0, g1, g2, g3⟩ := setCells T18.out.e3; have PH18 := True.intro; clear b b' T17 V17 U17 Q17  sx)
              | (go_at_call 12; have pz := PH18; clear pz PH18; refine (P.or _ _ B A _ ?_ ?_ fB.out fA.out).mono ?_; exact U18.out; exact V18.out; rintro r w19 ⟨⟨x, rfl, sx⟩, b'⟩; have b : Below w18.heap.size w18 w19 := ⟨b'.os, b'.tape, b'.output, b'.size, b'.block⟩; have Xb_19 := hide sx; have T19 := hide (T18.out.on b); have V19 := hide (V18.out.on b); have U19 := hide (U18.out.on b); have Q19 := hide (Q18.out.on b); have Xa_19 := hide (Xa_18.out.on b); obtain ⟨e0, e1, e2, e3⟩ := setCells T19.out.e1; obtain ⟨f0, f1, f2, f3⟩ := setCells T19.out.e2; obtain ⟨g0, g1, g2, g3⟩ := setCells T19.out.e3; have PH19 := True.intro; clear b b' T18 V18 U18 Q18 Xa_18 sx)
              | (go_at_call 14; have pz := PH19; clear pz PH19; refine (P.same _ _ (orV A B) (orV B A) _ ?_ ?_ fOab.out fOba.out).mono ?_; exact Xa_19.out; exact Xb_19.out; rintro r w20 ⟨rfl, b'⟩; have b : Below w19.heap.size w19 w20 := ⟨b'.os, b'.tape, b'.output, b'.size, b'.block⟩; rw [E3.out]; have T20 := hide (T19.out.on b); have V20 := hide (V19.out.on b); have U20 := hide (U19.out.on b); have Q20 := hide (Q19.out.on b); obtain ⟨e0, e1, e2, e3⟩ := setCells T20.out.e1; obtain ⟨f0, f1, f2, f3⟩ := setCells T20.out.e2; obtain ⟨g0, g1, g2, g3⟩ := setCells T20.out.e3; have PH20 := True.intro; clear b b' T19 V19 U19 Q19 Xa_19 Xb_19 )
              | (go_at_call 13; have pz := PH20; clear pz PH20; refine (P.and _ _ A B _ ?_ ?_ fA.out fB.out).mono ?_; exact V20.out; exact U20.out; rintro r w21 ⟨⟨x, rfl, sx⟩, b'⟩; have b : Below w20.heap.size w20 w21 := ⟨b'.os, b'.tape, b'.output, b'.size, b'.block⟩; have Xa_21 := hide sx; have T21 := hide (T20.out.on b); have V21 := hide (V20.out.on b); have U21 := hide (U20.out.on b); have Q21 := hide (Q20.out.on b); obtain ⟨e0, e1, e2, e3⟩ := setCells T21.out.e1; obtain ⟨f0, f1, f2, f3⟩ := setCells T21.out.e2; obtain ⟨g0, g1, g2, g3⟩ := setCells T21.out.e3; have PH21 := True.intro; clear b b' T20 V20 U20 Q20  sx)
              | (go_at_call 13; have pz := PH21; clear pz PH21; refine (P.and _ _ B A _ ?_ ?_ fB.out fA.out).mono ?_; exact U21.out; exact V21.out; rintro r w22 ⟨⟨x, rfl, sx⟩, b'⟩; have b : Below w21.heap.size w21 w22 := ⟨b'.os, b'.tape, b'.output, b'.size, b'.block⟩; have Xb_22 := hide sx; have T22 := hide (T21.out.on b); have V22 := hide (V21.out.on b); have U22 := hide (U21.out.on b); have Q22 := hide (Q21.out.on b); have Xa_22 := hide (Xa_21.out.on b); obtain ⟨e0, e1, e2, e3⟩ := setCells T22.out.e1; obtain ⟨f0, f1, f2, f3⟩ := setCells T22.out.e2; obtain ⟨g0, g1, g2, g3⟩ := setCells T22.out.e3; have PH22 := True.intro; clear b b' T21 V21 U21 Q21 Xa_21 sx)
              | (go_at_call 14; have pz := PH22; clear pz PH22; refine (P.same _ _ (andV A B) (andV B A) _ ?_ ?_ fXab.out fXba.out).mono ?_; exact Xa_22.out; exact Xb_22.out; rintro r w23 ⟨rfl, b'⟩; have b : Below w22.heap.size w22 w23 := ⟨b'.os, b'.tape, b'.output, b'.size, b'.block⟩; rw [E4.out]; have T23 := hide (T22.out.on b); have V23 := hide (V22.out.on b); have U23 := hide (U22.out.on b); have Q23 := hide (Q22.out.on b); obtain ⟨e0, e1, e2, e3⟩ := setCells T23.out.e1; obtain ⟨f0, f1, f2, f3⟩ := setCells T23.out.e2; obtain ⟨g0, g1, g2, g3⟩ := setCells T23.out.e3; have PH23 := True.intro; clear b b' T22 V22 U22 Q22 Xa_22 Xb_22 )
              | (go_at_call 12; have pz := PH23; clear pz PH23; refine (P.or _ _ B C _ ?_ ?_ fB.out fC.out).mono ?_; exact U23.out; exact Q23.out; rintro r w24 ⟨⟨x, rfl, sx⟩, b'⟩; have b : Below w23.heap.size w23 w24 := ⟨b'.os, b'.tape, b'.output, b'.size, b'.block⟩; have Xa_24 := hide sx; have T24 := hide (T23.out.on b); have V24 := hide (V23.out.on b); have U24 := hide (U23.out.on b); have Q24 := hide (Q23.out.on b); obtain ⟨e0, e1, e2, e3⟩ := setCells T24.out.e1; obtain ⟨f0, f1, f2, f3⟩ := setCells T24.out.e2; obtain ⟨g0, g1, g2, g3⟩ := setCells T24.out.e3; have PH24 := True.intro; clear b b' T23 V23 U23 Q23  sx)
              | (go_at_call 12; have pz := PH24; clear pz PH24; refine (P.or _ _ A (orV B C) _ ?_ ?_ fA.out fObc.out).mono ?_; exact V24.out; exact Xa_24.out; rintro r w25 ⟨⟨x, rfl, sx⟩, b'⟩; have b : Below w24.heap.size w24 w25 := ⟨b'.os, b'.tape, b'.output, b'.size, b'.block⟩; have Xb_25 := hide sx; have T25 := hide (T24.out.on b); have V25 := hide (V24.out.on b); have U25 := hide (U24.out.on b); have Q25 := hide (Q24.out.on b); obtain ⟨e0, e1, e2, e3⟩ := setCells T25.out.e1; obtain ⟨f0, f1, f2, f3⟩ := setCells T25.out.e2; obtain ⟨g0, g1, g2, g3⟩ := setCells T25.out.e3; have PH25 := True.intro; clear b b' T24 V24 U24 Q24 Xa_24 sx)
              | (go_at_call 12; have pz := PH25; clear pz PH25; refine (P.or _ _ A B _ ?_ ?_ fA.out fB.out).mono ?_; exact V25.out; exact U25.out; rintro r w26 ⟨⟨x, rfl, sx⟩, b'⟩; have b : Below w25.heap.size w25 w26 := ⟨b'.os, b'.tape, b'.output, b'.size, b'.block⟩; have Xc_26 := hide sx; have T26 := hide (T25.out.on b); have V26 := hide (V25.out.on b); have U26 := hide (U25.out.on b); have Q26 := hide (Q25.out.on b); have Xb_26 := hide (Xb_25.out.on b); obtain ⟨e0, e1, e2, e3⟩ := setCells T26.out.e1; obtain ⟨f0, f1, f2, f3⟩ := setCells T26.out.e2; obtain ⟨g0, g1, g2, g3⟩ := setCells T26.out.e3; have PH26 := True.intro; clear b b' T25 V25 U25 Q25 Xb_25 sx)
              | (go_at_call 12; have pz := PH26; clear pz PH26; refine (P.or _ _ (orV A B) C _ ?_ ?_ fOab.out fC.out).mono ?_; exact Xc_26.out; exact Q26.out; rintro r w27 ⟨⟨x, rfl, sx⟩, b'⟩; have b : Below w26.heap.size w26 w27 := ⟨b'.os, b'.tape, b'.output, b'.size, b'.block⟩; have Xd_27 := hide sx; have T27 := hide (T26.out.on b); have V27 := hide (V26.out.on b); have U27 := hide (U26.out.on b); have Q27 := hide (Q26.out.on b); have Xb_27 := hide (Xb_26.out.on b); obtain ⟨e0, e1, e2, e3⟩ := setCells T27.out.e1; obtain ⟨f0, f1, f2, f3⟩ := setCells T27.out.e2; obtain ⟨g0, g1, g2, g3⟩ := setCells T27.out.e3; have PH27 := True.intro; clear b b' T26 V26 U26 Q26 Xb_26 Xc_26 sx)
              | (go_at_call 14; have pz := PH27; clear pz PH27; refine (P.same _ _ (orV A (orV B C)) (orV (orV A B) C) _ ?_ ?_ fO1.out fO2.out).mono ?_; exact Xb_27.out; exact Xd_27.out; rintro r w28 ⟨rfl, b'⟩; have b : Below w27.heap.size w27 w28 := ⟨b'.os, b'.tape, b'.output, b'.size, b'.block⟩; rw [E5.out]; have T28 := hide (T27.out.on b); have V28 := hide (V27.out.on b); have U28 := hide (U27.out.on b); have Q28 := hide (Q27.out.on b); obtain ⟨e0, e1, e2, e3⟩ := setCells T28.out.e1; obtain ⟨f0, f1, f2, f3⟩ := setCells T28.out.e2; obtain ⟨g0, g1, g2, g3⟩ := setCells T28.out.e3; have PH28 := True.intro; clear b b' T27 V27 U27 Q27 Xb_27 Xd_27 )
              | (go_at_call 12; have pz := PH28; clear pz PH28; refine (P.or _ _ B C _ ?_ ?_ fB.out fC.out).mono ?_; exact U28.out; exact Q28.out; rintro r w29 ⟨⟨x, rfl, sx⟩, b'⟩; have b : Below w28.heap.size w28 w29 := ⟨b'.os, b'.tape, b'.output, b'.size, b'.block⟩; have Xa_29 := hide sx; have T29 := hide (T28.out.on b); have V29 := hide (V28.out.on b); have U29 := hide (U28.out.on b); have Q29 := hide (Q28.out.on b); obtain ⟨e0, e1, e2, e3⟩ := setCells T29.out.e1; obtain ⟨f0, f1, f2, f3⟩ := setCells T29.out.e2; obtain ⟨g0, g1, g2, g3⟩ := setCells T29.out.e3; have PH29 := True.intro; clear b b' T28 V28 U28 Q28  sx)
              | (go_at_call 13; have pz := PH29; clear pz PH29; refine (P.and _ _ A (orV B C) _ ?_ ?_ fA.out fObc.out).mono ?_; exact V29.out; exact Xa_29.out; rintro r w30 ⟨⟨x, rfl, sx⟩, b'⟩; have b : Below w29.heap.size w29 w30 := ⟨b'.os, b'.tape, b'.output, b'.size, b'.block⟩; have Xb_30 := hide sx; have T30 := hide (T29.out.on b); have V30 := hide (V29.out.on b); have U30 := hide (U29.out.on b); have Q30 := hide (Q29.out.on b); obtain ⟨e0, e1, e2, e3⟩ := setCells T30.out.e1; obtain ⟨f0, f1, f2, f3⟩ := setCells T30.out.e2; obtain ⟨g0, g1, g2, g3⟩ := setCells T30.out.e3; have PH30 := True.intro; clear b b' T29 V29 U29 Q29 Xa_29 sx)
              | (go_at_call 13; have pz := PH30; clear pz PH30; refine (P.and _ _ A B _ ?_ ?_ fA.out fB.out).mono ?_; exact V30.out; exact U30.out; rintro r w31 ⟨⟨x, rfl, sx⟩, b'⟩; have b : Below w30.heap.size w30 w31 := ⟨b'.os, b'.tape, b'.output, b'.size, b'.block⟩; have Xc_31 := hide sx; have T31 := hide (T30.out.on b); have V31 := hide (V30.out.on b); have U31 := hide (U30.out.on b); have Q31 := hide (Q30.out.on b); have Xb_31 := hide (Xb_30.out.on b); obtain ⟨e0, e1, e2, e3⟩ := setCells T31.out.e1; obtain ⟨f0, f1, f2, f3⟩ := setCells T31.out.e2; obtain ⟨g0, g1, g2, g3⟩ := setCells T31.out.e3; have PH31 := True.intro; clear b b' T30 V30 U30 Q30 Xb_30 sx)
              | (go_at_call 13; have pz := PH31; clear pz PH31; refine (P.and _ _ A C _ ?_ ?_ fA.out fC.out).mono ?_; exact V31.out; exact Q31.out; rintro r w32 ⟨⟨x, rfl, sx⟩, b'⟩; have b : Below w31.heap.size w31 w32 := ⟨b'.os, b'.tape, b'.output, b'.size, b'.block⟩; have Xd_32 := hide sx; have T32 := hide (T31.out.on b); have V32 := hide (V31.out.on b); have U32 := hide (U31.out.on b); have Q32 := hide (Q31.out.on b); have Xb_32 := hide (Xb_31.out.on b); have Xc_32 := hide (Xc_31.out.on b); obtain ⟨e0, e1, e2, e3⟩ := setCells T32.out.e1; obtain ⟨f0, f1, f2, f3⟩ := setCells T32.out.e2; obtain ⟨g0, g1, g2, g3⟩ := setCells T32.out.e3; have PH32 := True.intro; clear b b' T31 V31 U31 Q31 Xb_31 Xc_31 sx)
              | (go_at_call 12; have pz := PH32; clear pz PH32; refine (P.or _ _ (andV A B) (andV A C) _ ?_ ?_ fXab.out fXac.out).mono ?_; exact Xc_32.out; exact Xd_32.out; rintro r w33 ⟨⟨x, rfl, sx⟩, b'⟩; have b : Below w32.heap.size w32 w33 := ⟨b'.os, b'.tape, b'.output, b'.size, b'.block⟩; have Xe_33 := hide sx; have T33 := hide (T32.out.on b); have V33 := hide (V32.out.on b); have U33 := hide (U32.out.on b); have Q33 := hide (Q32.out.on b); have Xb_33 := hide (Xb_32.out.on b); obtain ⟨e0, e1, e2, e3⟩ := setCells T33.out.e1; obtain ⟨f0, f1, f2, f3⟩ := setCells T33.out.e2; obtain ⟨g0, g1, g2, g3⟩ := setCells T33.out.e3; have PH33 := True.intro; clear b b' T32 V32 U32 Q32 Xb_32 Xc_32 Xd_32 sx)
              | (go_at_call 14; have pz := PH33; clear pz PH33; refine (P.same _ _ (andV A (orV B C)) (orV (andV A B) (andV A C)) _ ?_ ?_ fX1.out fX2.out).mono ?_; exact Xb_33.out; exact Xe_33.out; rintro r w34 ⟨rfl, b'⟩; have b : Below w33.heap.size w33 w34 := ⟨b'.os, b'.tape, b'.output, b'.size, b'.block⟩; rw [E6.out]; have T34 := hide (T33.out.on b); have V34 := hide (V33.out.on b); have U34 := hide (U33.out.on b); have Q34 := hide (Q33.out.on b); obtain ⟨e0, e1, e2, e3⟩ := setCells T34.out.e1; obtain ⟨f0, f1, f2, f3⟩ := setCells T34.out.e2; obtain ⟨g0, g1, g2, g3⟩ := setCells T34.out.e3; have PH34 := True.intro; clear b b' T33 V33 U33 Q33 Xb_33 Xe_33 )))
          go_wp2
          go_ret
          exact ⟨rfl, T34.out.b⟩
end Go.Proofs.Ytdmjpdhjebmnfaa
