/-
  The walk of the law SetIn, out of the program's contracts.
-/
import Derived.Test.YtdmjpdhjebmnfaaSW
set_option linter.unusedSimpArgs false
set_option linter.unusedVariables false
namespace Go.Proofs.Ytdmjpdhjebmnfaa
open Go.RowKit

/-- The reference's In is the program's. -/
theorem refIn_eq {A B : SetV} (gA : Good A) (gB : Good B) (lA : A.strs.length ≤ 40) (lB : B.strs.length ≤ 40) (t : ByteArray) (ht : FreshOut [A, B] ⟨#[126]⟩ t) : inPts A B (ptsL [A, B] ++ [(2, 0, t)]) = inB A B :=
  bool_of_iff ((inPts_inSet A B t ht gA.r gB.r gA.i gB.i lA lB).trans (inB_iff gA gB (by omega)).symm)
theorem refIn_B {v u : Value} {A B : SetV} {w : World} (hv : SetAt w v A) (hu : SetAt w u B) (gA : Good A) (gB : Good B) (fA : A.ints.length ≤ 40 ∧ A.strs.length ≤ 40) (fB : B.ints.length ≤ 40 ∧ B.strs.length ≤ 40) :
    Calls Try.prog 18 #[v, u] w fun r w' => r = .returned (.bool (inB A B)) ∧ Below w.heap.size w w' := by
  refine (refIn_any v u A B w hv hu fA fB).mono ?_
  rintro r w' ⟨⟨t, ht, rfl⟩, b⟩
  exact ⟨ret_bool (refIn_eq gA gB fA.2 fB.2 t ht), b⟩
theorem below_as {a b c : World} (h : Below a.heap.size a c) (e1 : a.heap = b.heap) (e2 : a.os = b.os) (e3 : a.tape = b.tape) (e4 : a.output = b.output) : Below b.heap.size b c := by
  rw [← e1]
  exact ⟨h.os.trans e2, h.tape.trans e3, h.output.trans e4, e1 ▸ h.size, fun k hk => (h.block k hk).trans (by rw [e1])⟩

set_option maxHeartbeats 8000000 in
set_option maxRecDepth 100000 in
theorem setIn_walk (P : SetProg) (v u : Value) (A B : SetV) (w : World) (hv : SetAt w v A) (hu : SetAt w u B) :
    Calls Try.prog 4 #[v, u] w fun r w' => r = .returned (.bool true) ∧ Below w.heap.size w w' := by
  have HV := hide hv
  have HU := hide hu
  obtain ⟨vi, vs, rfl, hI, hS⟩ := hv
  obtain ⟨ui, us, rfl, hJ, hT⟩ := hu
  have HI := hide hI.1
  have HJ := hide hJ.1
  clear hI hS hJ hT
  have HAW := fun W => hide (awake3_any P W)
  have T0 := hide (Two.start w (.cells #[.bool A.absent, vi, .bool A.co, vs] 25) (.cells #[.bool B.absent, ui, .bool B.co, us] 25))
  go_enter Try.func4, Try.ntmps4
  go_wp2_with fail
  generalize (w.alloc (.cells #[.bool A.absent, vi, .bool A.co, vs] 25)).alloc (.cells #[.bool B.absent, ui, .bool B.co, us] 25) = w0 at *
  refine (unhide (HAW _)).mono ?_
  rintro r w1 ⟨rfl, b1⟩
  have T1 := hide (T0.out.on b1)
  clear b1 T0
  obtain ⟨c0, c1, c2, c3⟩ := setCells T1.out.e1
  obtain ⟨d0, d1, d2, d3⟩ := setCells T1.out.e2
  have V1 := hide (HV.out.on T1.out.b)
  have U1 := hide (HU.out.on T1.out.b)
  have F1 := hide (refFew_any _ [A, B] _ (SetAt.pair V1.out U1.out _ rfl vi vs ui us rfl rfl))
  rw [show ([A, B] : List SetV).all fewB = (fewB A && fewB B) by simp] at F1
  go_wp2_with fail
  refine (unhide F1).mono ?_
  rintro r w2 ⟨rfl, rfl⟩
  cases hF : (fewB A && fewB B)
  · have TX := hide (T1.out.al (.cells #[.bool A.absent, vi, .bool A.co, vs, .bool B.absent, ui, .bool B.co, us] 25))
    clear T1 F1 hF
    go_wp2_with fail
    refine (unhide (HAW _)).mono ?_
    rintro r w9 ⟨rfl, b9⟩
    have T9 := hide (TX.out.on b9)
    clear b9
    go_wp2
    go_ret
    exact ⟨rfl, T9.out.b⟩
  · rw [Bool.and_eq_true] at hF
    have T2 := hide (T1.out.al (.cells #[.bool A.absent, vi, .bool A.co, vs, .bool B.absent, ui, .bool B.co, us] 25))
    have V2 := hide (V1.out.al (.cells #[.bool A.absent, vi, .bool A.co, vs, .bool B.absent, ui, .bool B.co, us] 25))
    have U2 := hide (U1.out.al (.cells #[.bool A.absent, vi, .bool A.co, vs, .bool B.absent, ui, .bool B.co, us] 25))
    clear T1 V1 U1
    clear c0 c1 c2 c3 d0 d1 d2 d3
    generalize w1.alloc (.cells #[.bool A.absent, vi, .bool A.co, vs, .bool B.absent, ui, .bool B.co, us] 25) = w2 at *
    obtain ⟨c0, c1, c2, c3⟩ := setCells T2.out.e1
    obtain ⟨d0, d1, d2, d3⟩ := setCells T2.out.e2
    have R2 := hide (refRightSet_any _ A w2 V2.out)
    go_wp2_with fail
    refine (unhide R2).mono ?_
    rintro r w3 ⟨rfl, b⟩
    have T3 := hide (T2.out.on b)
    have V3 := hide (V2.out.on b)
    have U3 := hide (U2.out.on b)
    clear b T2 V2 U2 R2 c0 c1 c2 c3 d0 d1 d2 d3
    obtain ⟨c0, c1, c2, c3⟩ := setCells T3.out.e1
    obtain ⟨d0, d1, d2, d3⟩ := setCells T3.out.e2
    cases hR : rightSet A
    · have TX := T3
      clear T3 hR hF
      go_wp2_with fail
      refine (unhide (HAW _)).mono ?_
      rintro r w9 ⟨rfl, b9⟩
      have T9 := hide (TX.out.on b9)
      clear b9
      go_wp2
      go_ret
      exact ⟨rfl, T9.out.b⟩
    · have R3 := hide (refRightSet_any _ B w3 U3.out)
      go_wp2_with fail
      refine (unhide R3).mono ?_
      rintro r w4 ⟨rfl, b⟩
      have T4 := hide (T3.out.on b)
      have V4 := hide (V3.out.on b)
      have U4 := hide (U3.out.on b)
      clear b T3 V3 U3 R3 c0 c1 c2 c3 d0 d1 d2 d3
      obtain ⟨c0, c1, c2, c3⟩ := setCells T4.out.e1
      obtain ⟨d0, d1, d2, d3⟩ := setCells T4.out.e2
      cases hQ : rightSet B
      · have TX := T4
        clear T4 hR hQ hF
        go_wp2_with fail
        refine (unhide (HAW _)).mono ?_
        rintro r w9 ⟨rfl, b9⟩
        have T9 := hide (TX.out.on b9)
        clear b9
        go_wp2
        go_ret
        exact ⟨rfl, T9.out.b⟩
      · have gA : Good A := ⟨hR, HI.out⟩
        have gB : Good B := ⟨hQ, HJ.out⟩
        obtain ⟨lI, lS⟩ := few_len hF.1
        obtain ⟨mI, mS⟩ := few_len hF.2
        have fA : Fit A := ⟨gA, by omega, by omega⟩
        have fB : Fit B := ⟨gB, by omega, by omega⟩
        have nl := notV_len A gA
        have fN : Fit (notV A) := ⟨notV_good gA, by omega, by omega⟩
        have ol := orV_len gA gB
        have fO : Fit (orV A B) := ⟨orV_good gA gB, by omega, by omega⟩
        have al := andV_len gA gB
        have fX : Fit (andV A B) := ⟨andV_good gA gB, by omega, by omega⟩
        have al2 := andV_len gA (notV_good gA)
        have fY : Fit (andV A (notV A)) := ⟨andV_good gA (notV_good gA), by omega, by omega⟩
        have fL : Fit allV := ⟨allV_good, by simp [allV], by simp [allV]⟩
        have HfA := hide fA
        have HfB := hide fB
        have HfN := hide fN
        have HfO := hide fO
        have HfX := hide fX
        have HfY := hide fY
        have HfL := hide fL
        have HlA := hide (few_len hF.1)
        have HlB := hide (few_len hF.2)
        have E1 := in_both gA gB (by omega) (by omega)
        have E2 := hide (and_in gA gB (by omega) (by omega))
        have E3 := hide (in_or gA gB (by omega) (by omega))
        have E4 := hide (in_all gA (by omega))
        have E5 := hide (and_not gA (by omega))
        clear nl ol al al2 lI lS mI mS fA fB fN fO fX fY fL hR hQ hF gA gB
        have PH4 := True.intro
        go_wp2
        go_region_held3 (fun w' => ((w'.cell? ⟨w.heap.size, 0, none⟩ = some (.bool A.absent) ∧ w'.cell? ⟨w.heap.size, 1, none⟩ = some vi) ∧ w'.cell? ⟨w.heap.size, 2, none⟩ = some (.bool A.co) ∧ w'.cell? ⟨w.heap.size, 3, none⟩ = some vs) ∧ (w'.cell? ⟨w.heap.size + 1, 0, none⟩ = some (.bool B.absent) ∧ w'.cell? ⟨w.heap.size + 1, 1, none⟩ = some ui) ∧ w'.cell? ⟨w.heap.size + 1, 2, none⟩ = some (.bool B.co) ∧ w'.cell? ⟨w.heap.size + 1, 3, none⟩ = some us) (first | go_keep | (refine ⟨⟨⟨?_, ?_⟩, ?_, ?_⟩, ⟨?_, ?_⟩, ?_, ?_⟩ <;> assumption))
          ((first
            | (go_at_call 17; have pz := PH4; clear pz PH4; refine (P.in_ _ _ A B _ ?_ ?_ HfA.out HfB.out).mono ?_; exact V4.out; exact U4.out; rintro r w5 ⟨rfl, b'⟩; have b : Below w4.heap.size w4 w5 := ⟨b'.os, b'.tape, b'.output, b'.size, b'.block⟩; have T5 := hide (T4.out.on b); have V5 := hide (V4.out.on b); have U5 := hide (U4.out.on b); obtain ⟨e0, e1, e2, e3⟩ := setCells T5.out.e1; obtain ⟨f0, f1, f2, f3⟩ := setCells T5.out.e2; have PH5 := True.intro; clear b b' T4 V4 U4  )
            | (go_at_call 17; have pz := PH5; clear pz PH5; refine (P.in_ _ _ B A _ ?_ ?_ HfB.out HfA.out).mono ?_; exact U5.out; exact V5.out; rintro r w6 ⟨rfl, b'⟩; have b : Below w5.heap.size w5 w6 := ⟨b'.os, b'.tape, b'.output, b'.size, b'.block⟩; have T6 := hide (T5.out.on b); have V6 := hide (V5.out.on b); have U6 := hide (U5.out.on b); obtain ⟨e0, e1, e2, e3⟩ := setCells T6.out.e1; obtain ⟨f0, f1, f2, f3⟩ := setCells T6.out.e2; have PH6 := True.intro; clear b b' T5 V5 U5  )))
        clear c0 c1 c2 c3 d0 d1 d2 d3
        obtain ⟨c0, c1, c2, c3⟩ := setCells T6.out.e1
        obtain ⟨d0, d1, d2, d3⟩ := setCells T6.out.e2
        generalize hi : inB A B = bi at *
        generalize hk : inB B A = bk at *
        generalize hs : sameB A B = bs at *
        have Hi := hide hi
        have Hs := hide hs
        clear hi hk hs
        rcases (show (bi = true ∧ bk = true ∧ bs = true) ∨ (bi = true ∧ bk = false ∧ bs = false) ∨ (bi = false ∧ bs = false) by revert E1; cases bi <;> cases bk <;> cases bs <;> simp) with ⟨rfl, rfl, rfl⟩ | ⟨rfl, rfl, rfl⟩ | ⟨rfl, rfl⟩
        rotate_left 2
        · clear E1
          have PH6 := True.intro
          go_wp2
          first
            | (go_region_held (fun w' => ((w'.cell? ⟨w.heap.size, 0, none⟩ = some (.bool A.absent) ∧ w'.cell? ⟨w.heap.size, 1, none⟩ = some vi) ∧ w'.cell? ⟨w.heap.size, 2, none⟩ = some (.bool A.co) ∧ w'.cell? ⟨w.heap.size, 3, none⟩ = some vs) ∧ (w'.cell? ⟨w.heap.size + 1, 0, none⟩ = some (.bool B.absent) ∧ w'.cell? ⟨w.heap.size + 1, 1, none⟩ = some ui) ∧ w'.cell? ⟨w.heap.size + 1, 2, none⟩ = some (.bool B.co) ∧ w'.cell? ⟨w.heap.size + 1, 3, none⟩ = some us) (first | go_keep | (refine ⟨⟨⟨?_, ?_⟩, ?_, ?_⟩, ⟨?_, ?_⟩, ?_, ?_⟩ <;> assumption))
                ((first
                    | (go_at_call 18; have pz := PH6; clear pz PH6; refine (refIn_B ?_ ?_ HfA.out.good HfB.out.good HlA.out HlB.out).mono ?_; exact V6.out; exact U6.out; rintro r w7 ⟨rfl, b'⟩; have b : Below w6.heap.size w6 w7 := ⟨b'.os, b'.tape, b'.output, b'.size, b'.block⟩; rw [Hi.out]; have T7 := hide (T6.out.on b); have V7 := hide (V6.out.on b); have U7 := hide (U6.out.on b); obtain ⟨e0, e1, e2, e3⟩ := setCells T7.out.e1; obtain ⟨f0, f1, f2, f3⟩ := setCells T7.out.e2; have PH7 := True.intro; clear b b' T6 V6 U6  )
                    | (go_at_call 14; have pz := PH7; clear pz PH7; refine (P.same _ _ A B _ ?_ ?_ HfA.out HfB.out).mono ?_; exact V7.out; exact U7.out; rintro r w8 ⟨rfl, b'⟩; have b : Below w7.heap.size w7 w8 := ⟨b'.os, b'.tape, b'.output, b'.size, b'.block⟩; rw [Hs.out]; have T8 := hide (T7.out.on b); have V8 := hide (V7.out.on b); have U8 := hide (U7.out.on b); obtain ⟨e0, e1, e2, e3⟩ := setCells T8.out.e1; obtain ⟨f0, f1, f2, f3⟩ := setCells T8.out.e2; have PH8 := True.intro; clear b b' T7 V7 U7  )
                    | (go_at_call 13; have pz := PH8; clear pz PH8; refine (P.and _ _ A B _ ?_ ?_ HfA.out HfB.out).mono ?_; exact V8.out; exact U8.out; rintro r w9 ⟨⟨x, rfl, sx⟩, b'⟩; have b : Below w8.heap.size w8 w9 := ⟨b'.os, b'.tape, b'.output, b'.size, b'.block⟩; have X_9 := hide sx; have T9 := hide (T8.out.on b); have V9 := hide (V8.out.on b); have U9 := hide (U8.out.on b); obtain ⟨e0, e1, e2, e3⟩ := setCells T9.out.e1; obtain ⟨f0, f1, f2, f3⟩ := setCells T9.out.e2; have PH9 := True.intro; clear b b' T8 V8 U8  sx)
                    | (go_at_call 17; have pz := PH9; clear pz PH9; refine (P.in_ _ _ (andV A B) A _ ?_ ?_ HfX.out HfA.out).mono ?_; exact X_9.out; exact V9.out; rintro r w10 ⟨rfl, b'⟩; have b : Below w9.heap.size w9 w10 := ⟨b'.os, b'.tape, b'.output, b'.size, b'.block⟩; rw [E2.out]; have T10 := hide (T9.out.on b); have V10 := hide (V9.out.on b); have U10 := hide (U9.out.on b); have X_10 := hide (X_9.out.on b); obtain ⟨e0, e1, e2, e3⟩ := setCells T10.out.e1; obtain ⟨f0, f1, f2, f3⟩ := setCells T10.out.e2; have PH10 := True.intro; clear b b' T9 V9 U9 X_9 )
                    | (go_at_call 12; have pz := PH10; clear pz PH10; refine (P.or _ _ A B _ ?_ ?_ HfA.out HfB.out).mono ?_; exact V10.out; exact U10.out; rintro r w11 ⟨⟨x, rfl, sx⟩, b'⟩; have b : Below w10.heap.size w10 w11 := ⟨b'.os, b'.tape, b'.output, b'.size, b'.block⟩; have O_11 := hide sx; have T11 := hide (T10.out.on b); have V11 := hide (V10.out.on b); have U11 := hide (U10.out.on b); obtain ⟨e0, e1, e2, e3⟩ := setCells T11.out.e1; obtain ⟨f0, f1, f2, f3⟩ := setCells T11.out.e2; have PH11 := True.intro; clear b b' T10 V10 U10  sx)
                    | (go_at_call 17; have pz := PH11; clear pz PH11; refine (P.in_ _ _ A (orV A B) _ ?_ ?_ HfA.out HfO.out).mono ?_; exact V11.out; exact O_11.out; rintro r w12 ⟨rfl, b'⟩; have b : Below w11.heap.size w11 w12 := ⟨b'.os, b'.tape, b'.output, b'.size, b'.block⟩; rw [E3.out]; have T12 := hide (T11.out.on b); have V12 := hide (V11.out.on b); have U12 := hide (U11.out.on b); have O_12 := hide (O_11.out.on b); obtain ⟨e0, e1, e2, e3⟩ := setCells T12.out.e1; obtain ⟨f0, f1, f2, f3⟩ := setCells T12.out.e2; have PH12 := True.intro; clear b b' T11 V11 U11 O_11 )
                    | (go_at_call 19; have pz := PH12; clear pz PH12; refine (P.all _).mono ?_; rintro r w13 ⟨⟨x, rfl, sx⟩, b'⟩; have b : Below w12.heap.size w12 w13 := ⟨b'.os, b'.tape, b'.output, b'.size, b'.block⟩; have L_13 := hide sx; have T13 := hide (T12.out.on b); have V13 := hide (V12.out.on b); have U13 := hide (U12.out.on b); obtain ⟨e0, e1, e2, e3⟩ := setCells T13.out.e1; obtain ⟨f0, f1, f2, f3⟩ := setCells T13.out.e2; have PH13 := True.intro; clear b b' T12 V12 U12  sx)
                    | (go_at_call 17; have pz := PH13; clear pz PH13; refine (P.in_ _ _ A allV _ ?_ ?_ HfA.out HfL.out).mono ?_; exact V13.out; exact L_13.out; rintro r w14 ⟨rfl, b'⟩; have b : Below w13.heap.size w13 w14 := ⟨b'.os, b'.tape, b'.output, b'.size, b'.block⟩; rw [E4.out]; have T14 := hide (T13.out.on b); have V14 := hide (V13.out.on b); have U14 := hide (U13.out.on b); have L_14 := hide (L_13.out.on b); obtain ⟨e0, e1, e2, e3⟩ := setCells T14.out.e1; obtain ⟨f0, f1, f2, f3⟩ := setCells T14.out.e2; have PH14 := True.intro; clear b b' T13 V13 U13 L_13 )
                    | (go_at_call 11; have pz := PH14; clear pz PH14; refine (P.not _ A _ ?_ HfA.out).mono ?_; exact V14.out; rintro r w15 ⟨⟨x, rfl, sx⟩, b'⟩; have b : Below w14.heap.size w14 w15 := ⟨b'.os, b'.tape, b'.output, b'.size, b'.block⟩; have M_15 := hide sx; have T15 := hide (T14.out.on b); have V15 := hide (V14.out.on b); have U15 := hide (U14.out.on b); obtain ⟨e0, e1, e2, e3⟩ := setCells T15.out.e1; obtain ⟨f0, f1, f2, f3⟩ := setCells T15.out.e2; have PH15 := True.intro; clear b b' T14 V14 U14  sx)
                    | (go_at_call 13; have pz := PH15; clear pz PH15; refine (P.and _ _ A (notV A) _ ?_ ?_ HfA.out HfN.out).mono ?_; exact V15.out; exact M_15.out; rintro r w16 ⟨⟨x, rfl, sx⟩, b'⟩; have b : Below w15.heap.size w15 w16 := ⟨b'.os, b'.tape, b'.output, b'.size, b'.block⟩; have Y_16 := hide sx; have T16 := hide (T15.out.on b); have V16 := hide (V15.out.on b); have U16 := hide (U15.out.on b); have M_16 := hide (M_15.out.on b); obtain ⟨e0, e1, e2, e3⟩ := setCells T16.out.e1; obtain ⟨f0, f1, f2, f3⟩ := setCells T16.out.e2; have PH16 := True.intro; clear b b' T15 V15 U15 M_15 sx)
                    | (go_at_call 20; have pz := PH16; clear pz PH16; refine (P.empty _ _ _ ?_ HfY.out).mono ?_; exact Y_16.out; rintro r w17 ⟨rfl, b'⟩; have b : Below w16.heap.size w16 w17 := ⟨b'.os, b'.tape, b'.output, b'.size, b'.block⟩; rw [E5.out, show emptyB noSet = true from rfl]; have T17 := hide (T16.out.on b); have V17 := hide (V16.out.on b); have U17 := hide (U16.out.on b); have Y_17 := hide (Y_16.out.on b); obtain ⟨e0, e1, e2, e3⟩ := setCells T17.out.e1; obtain ⟨f0, f1, f2, f3⟩ := setCells T17.out.e2; have PH17 := True.intro; clear b b' T16 V16 U16 Y_16 ))))
            | fail
          all_goals
            go_wp2
            go_ret
            exact ⟨rfl, T17.out.b⟩
        all_goals
          clear E1
          have PH6 := True.intro
          go_wp2
          go_region_held3 (fun w' => ((w'.cell? ⟨w.heap.size, 0, none⟩ = some (.bool A.absent) ∧ w'.cell? ⟨w.heap.size, 1, none⟩ = some vi) ∧ w'.cell? ⟨w.heap.size, 2, none⟩ = some (.bool A.co) ∧ w'.cell? ⟨w.heap.size, 3, none⟩ = some vs) ∧ (w'.cell? ⟨w.heap.size + 1, 0, none⟩ = some (.bool B.absent) ∧ w'.cell? ⟨w.heap.size + 1, 1, none⟩ = some ui) ∧ w'.cell? ⟨w.heap.size + 1, 2, none⟩ = some (.bool B.co) ∧ w'.cell? ⟨w.heap.size + 1, 3, none⟩ = some us) (first | go_keep | (refine ⟨⟨⟨?_, ?_⟩, ?_, ?_⟩, ⟨?_, ?_⟩, ?_, ?_⟩ <;> assumption))
            ((first
              | (go_at_call 18; have pz := PH6; clear pz PH6; refine (refIn_B ?_ ?_ HfA.out.good HfB.out.good HlA.out HlB.out).mono ?_; exact V6.out; exact U6.out; rintro r w7 ⟨rfl, b'⟩; have b : Below w6.heap.size w6 w7 := ⟨b'.os, b'.tape, b'.output, b'.size, b'.block⟩; rw [Hi.out]; have T7 := hide (T6.out.on b); have V7 := hide (V6.out.on b); have U7 := hide (U6.out.on b); obtain ⟨e0, e1, e2, e3⟩ := setCells T7.out.e1; obtain ⟨f0, f1, f2, f3⟩ := setCells T7.out.e2; have PH7 := True.intro; clear b b' T6 V6 U6  )
              | (go_at_call 14; have pz := PH7; clear pz PH7; refine (P.same _ _ A B _ ?_ ?_ HfA.out HfB.out).mono ?_; exact V7.out; exact U7.out; rintro r w8 ⟨rfl, b'⟩; have b : Below w7.heap.size w7 w8 := ⟨b'.os, b'.tape, b'.output, b'.size, b'.block⟩; rw [Hs.out]; have T8 := hide (T7.out.on b); have V8 := hide (V7.out.on b); have U8 := hide (U7.out.on b); obtain ⟨e0, e1, e2, e3⟩ := setCells T8.out.e1; obtain ⟨f0, f1, f2, f3⟩ := setCells T8.out.e2; have PH8 := True.intro; clear b b' T7 V7 U7  )
              | (go_at_call 13; have pz := PH8; clear pz PH8; refine (P.and _ _ A B _ ?_ ?_ HfA.out HfB.out).mono ?_; exact V8.out; exact U8.out; rintro r w9 ⟨⟨x, rfl, sx⟩, b'⟩; have b : Below w8.heap.size w8 w9 := ⟨b'.os, b'.tape, b'.output, b'.size, b'.block⟩; have X_9 := hide sx; have T9 := hide (T8.out.on b); have V9 := hide (V8.out.on b); have U9 := hide (U8.out.on b); obtain ⟨e0, e1, e2, e3⟩ := setCells T9.out.e1; obtain ⟨f0, f1, f2, f3⟩ := setCells T9.out.e2; have PH9 := True.intro; clear b b' T8 V8 U8  sx)
              | (go_at_call 17; have pz := PH9; clear pz PH9; refine (P.in_ _ _ (andV A B) A _ ?_ ?_ HfX.out HfA.out).mono ?_; exact X_9.out; exact V9.out; rintro r w10 ⟨rfl, b'⟩; have b : Below w9.heap.size w9 w10 := ⟨b'.os, b'.tape, b'.output, b'.size, b'.block⟩; rw [E2.out]; have T10 := hide (T9.out.on b); have V10 := hide (V9.out.on b); have U10 := hide (U9.out.on b); have X_10 := hide (X_9.out.on b); obtain ⟨e0, e1, e2, e3⟩ := setCells T10.out.e1; obtain ⟨f0, f1, f2, f3⟩ := setCells T10.out.e2; have PH10 := True.intro; clear b b' T9 V9 U9 X_9 )
              | (go_at_call 12; have pz := PH10; clear pz PH10; refine (P.or _ _ A B _ ?_ ?_ HfA.out HfB.out).mono ?_; exact V10.out; exact U10.out; rintro r w11 ⟨⟨x, rfl, sx⟩, b'⟩; have b : Below w10.heap.size w10 w11 := ⟨b'.os, b'.tape, b'.output, b'.size, b'.block⟩; have O_11 := hide sx; have T11 := hide (T10.out.on b); have V11 := hide (V10.out.on b); have U11 := hide (U10.out.on b); obtain ⟨e0, e1, e2, e3⟩ := setCells T11.out.e1; obtain ⟨f0, f1, f2, f3⟩ := setCells T11.out.e2; have PH11 := True.intro; clear b b' T10 V10 U10  sx)
              | (go_at_call 17; have pz := PH11; clear pz PH11; refine (P.in_ _ _ A (orV A B) _ ?_ ?_ HfA.out HfO.out).mono ?_; exact V11.out; exact O_11.out; rintro r w12 ⟨rfl, b'⟩; have b : Below w11.heap.size w11 w12 := ⟨b'.os, b'.tape, b'.output, b'.size, b'.block⟩; rw [E3.out]; have T12 := hide (T11.out.on b); have V12 := hide (V11.out.on b); have U12 := hide (U11.out.on b); have O_12 := hide (O_11.out.on b); obtain ⟨e0, e1, e2, e3⟩ := setCells T12.out.e1; obtain ⟨f0, f1, f2, f3⟩ := setCells T12.out.e2; have PH12 := True.intro; clear b b' T11 V11 U11 O_11 )
              | (go_at_call 19; have pz := PH12; clear pz PH12; refine (P.all _).mono ?_; rintro r w13 ⟨⟨x, rfl, sx⟩, b'⟩; have b : Below w12.heap.size w12 w13 := ⟨b'.os, b'.tape, b'.output, b'.size, b'.block⟩; have L_13 := hide sx; have T13 := hide (T12.out.on b); have V13 := hide (V12.out.on b); have U13 := hide (U12.out.on b); obtain ⟨e0, e1, e2, e3⟩ := setCells T13.out.e1; obtain ⟨f0, f1, f2, f3⟩ := setCells T13.out.e2; have PH13 := True.intro; clear b b' T12 V12 U12  sx)
              | (go_at_call 17; have pz := PH13; clear pz PH13; refine (P.in_ _ _ A allV _ ?_ ?_ HfA.out HfL.out).mono ?_; exact V13.out; exact L_13.out; rintro r w14 ⟨rfl, b'⟩; have b : Below w13.heap.size w13 w14 := ⟨b'.os, b'.tape, b'.output, b'.size, b'.block⟩; rw [E4.out]; have T14 := hide (T13.out.on b); have V14 := hide (V13.out.on b); have U14 := hide (U13.out.on b); have L_14 := hide (L_13.out.on b); obtain ⟨e0, e1, e2, e3⟩ := setCells T14.out.e1; obtain ⟨f0, f1, f2, f3⟩ := setCells T14.out.e2; have PH14 := True.intro; clear b b' T13 V13 U13 L_13 )
              | (go_at_call 11; have pz := PH14; clear pz PH14; refine (P.not _ A _ ?_ HfA.out).mono ?_; exact V14.out; rintro r w15 ⟨⟨x, rfl, sx⟩, b'⟩; have b : Below w14.heap.size w14 w15 := ⟨b'.os, b'.tape, b'.output, b'.size, b'.block⟩; have M_15 := hide sx; have T15 := hide (T14.out.on b); have V15 := hide (V14.out.on b); have U15 := hide (U14.out.on b); obtain ⟨e0, e1, e2, e3⟩ := setCells T15.out.e1; obtain ⟨f0, f1, f2, f3⟩ := setCells T15.out.e2; have PH15 := True.intro; clear b b' T14 V14 U14  sx)
              | (go_at_call 13; have pz := PH15; clear pz PH15; refine (P.and _ _ A (notV A) _ ?_ ?_ HfA.out HfN.out).mono ?_; exact V15.out; exact M_15.out; rintro r w16 ⟨⟨x, rfl, sx⟩, b'⟩; have b : Below w15.heap.size w15 w16 := ⟨b'.os, b'.tape, b'.output, b'.size, b'.block⟩; have Y_16 := hide sx; have T16 := hide (T15.out.on b); have V16 := hide (V15.out.on b); have U16 := hide (U15.out.on b); have M_16 := hide (M_15.out.on b); obtain ⟨e0, e1, e2, e3⟩ := setCells T16.out.e1; obtain ⟨f0, f1, f2, f3⟩ := setCells T16.out.e2; have PH16 := True.intro; clear b b' T15 V15 U15 M_15 sx)
              | (go_at_call 20; have pz := PH16; clear pz PH16; refine (P.empty _ _ _ ?_ HfY.out).mono ?_; exact Y_16.out; rintro r w17 ⟨rfl, b'⟩; have b : Below w16.heap.size w16 w17 := ⟨b'.os, b'.tape, b'.output, b'.size, b'.block⟩; rw [E5.out, show emptyB noSet = true from rfl]; have T17 := hide (T16.out.on b); have V17 := hide (V16.out.on b); have U17 := hide (U16.out.on b); have Y_17 := hide (Y_16.out.on b); obtain ⟨e0, e1, e2, e3⟩ := setCells T17.out.e1; obtain ⟨f0, f1, f2, f3⟩ := setCells T17.out.e2; have PH17 := True.intro; clear b b' T16 V16 U16 Y_16 )))
          go_wp2
          go_ret
          exact ⟨rfl, T17.out.b⟩
end Go.Proofs.Ytdmjpdhjebmnfaa
