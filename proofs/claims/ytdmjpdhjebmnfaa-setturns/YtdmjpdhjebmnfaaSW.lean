/-
  The walk of the law SetEnds, out of the program's contracts.
-/
import Derived.Test.YtdmjpdhjebmnfaaSU
import Derived.Deep.RegionHeld3
set_option linter.unusedSimpArgs false
set_option linter.unusedVariables false
namespace Go.Proofs.Ytdmjpdhjebmnfaa
open Go.RowKit

/-- Two new blocks of a call's, in a later world. -/
structure Two (w0 w : World) (o1 o2 : Obj) : Prop where
  e1 : w.heap[w0.heap.size]? = some o1
  e2 : w.heap[w0.heap.size + 1]? = some o2
  b : Below w0.heap.size w0 w
theorem Two.on {w0 w w' : World} {o1 o2 : Obj} (h : Two w0 w o1 o2) (hb : Below w.heap.size w w') : Two w0 w' o1 o2 :=
  ⟨(hb.block _ (lt_heap h.e1)).trans h.e1, (hb.block _ (lt_heap h.e2)).trans h.e2, h.b.trans (hb.mono h.b.size)⟩
theorem Two.start (w : World) (o1 o2 : Obj) : Two w ((w.alloc o1).alloc o2) o1 o2 := ⟨(two_bx w o1 o2).1, (two_bx w o1 o2).2.1, (two_bx w o1 o2).2.2⟩
theorem Two.al {w0 w : World} {o1 o2 : Obj} (h : Two w0 w o1 o2) (x : Obj) : Two w0 (w.alloc x) o1 o2 := h.on ((Below.refl _ w).alloc (Nat.le_refl _) x)
theorem SetAt.al {w : World} {v : Value} {S : SetV} (h : SetAt w v S) (x : Obj) : SetAt (w.alloc x) v S := h.on ((Below.refl _ w).alloc (Nat.le_refl _) x)
theorem sets_one {w : World} {A : SetV} {vi vs : Value} (hv : SetAt w (.agg #[.bool A.absent, vi, .bool A.co, vs]) A) (n : Nat) (hn : n = w.heap.size) :
    SetsAt (w.alloc (.cells #[.bool A.absent, vi, .bool A.co, vs] 25)) (.slice (some ⟨n, 0, none⟩) 1 1) [A] := by
  subst hn
  obtain ⟨vi', vs', ev', hI, hS⟩ := hv
  simp at ev'
  obtain ⟨rfl, rfl⟩ := ev'
  have hb := (Below.refl _ w).alloc (Nat.le_refl _) (.cells #[.bool A.absent, vi, .bool A.co, vs] 25)
  have hs : w.heap.size < (w.alloc (.cells #[.bool A.absent, vi, .bool A.co, vs] 25)).heap.size := by show _ < (w.heap.push _).size; simp
  refine ⟨by simp, _, 1, rfl, fun i hi => ?_⟩
  have hc := fun j => cell_heap (heap_new w (.cells #[.bool A.absent, vi, .bool A.co, vs] 25)) j
  match i, hi with
  | 0, _ => exact ⟨_, 0, vi, vs, rfl, hs, hc 0, hc 1, hc 2, hc 3, hI.on hb, hS.on hb⟩
theorem few_len {A : SetV} (h : fewB A = true) : A.ints.length ≤ 40 ∧ A.strs.length ≤ 40 := by
  unfold fewB at h
  rw [Bool.and_eq_true, Bool.and_eq_true, decide_eq_true_eq, decide_eq_true_eq] at h
  exact h.1
theorem setCells {w : World} {b : Nat} {x0 x1 x2 x3 : Value} {t : TypeId} (h : w.heap[b]? = some (.cells #[x0, x1, x2, x3] t (0, 0))) : w.cell? ⟨b, 0, none⟩ = some x0 ∧ w.cell? ⟨b, 1, none⟩ = some x1 ∧ w.cell? ⟨b, 2, none⟩ = some x2 ∧ w.cell? ⟨b, 3, none⟩ = some x3 :=
  ⟨cell_heap h 0, cell_heap h 1, cell_heap h 2, cell_heap h 3⟩
theorem valCells {w : World} {b : Nat} {x0 x1 x2 : Value} {t : TypeId} (h : w.heap[b]? = some (.cells #[x0, x1, x2] t (0, 0))) : w.cell? ⟨b, 0, none⟩ = some x0 ∧ w.cell? ⟨b, 1, none⟩ = some x1 ∧ w.cell? ⟨b, 2, none⟩ = some x2 :=
  ⟨cell_heap h 0, cell_heap h 1, cell_heap h 2⟩
theorem ends_cases {A : SetV} (hA : Good A) (k n : Int) (s : ByteArray) (n0 : -9223372036854775808 ≤ n) (n1 : n ≤ 9223372036854775807) :
    (hasB A k n s = true ∧ hasB (notV A) k n s = false ∧ hasB allV k n s = true) ∨ (hasB A k n s = false ∧ hasB (notV A) k n s = true ∧ hasB allV k n s = true) ∨ (hasB A k n s = false ∧ hasB (notV A) k n s = false ∧ hasB allV k n s = false) := by
  have h1 := notV_has hA (k, n, s) n0 n1
  have h2 := allV_has (k, n, s) n0 n1
  have h3 : hasP A (k, n, s) = true → rightB k n s = true := fun h => has_right h
  unfold hasP at h1 h2 h3
  dsimp only at h1 h2 h3
  rw [h1, h2]
  cases hx : hasB A k n s
  · cases rightB k n s <;> simp
  · rw [h3 hx]; simp

set_option maxHeartbeats 8000000 in
set_option maxRecDepth 100000 in
theorem setEnds_walk (P : SetProg) (v : Value) (A : SetV) (k n : Int) (s : ByteArray) (w : World) (hv : SetAt w v A) (n0 : -9223372036854775808 ≤ n) (n1 : n ≤ 9223372036854775807) (hs : s.size ≤ maxLen) :
    Calls Try.prog 7 #[v, .agg #[.int .i64 k, .int .i64 n, .string s]] w fun r w' => r = .returned (.bool true) ∧ Below w.heap.size w w' := by
  have HV := hide hv
  obtain ⟨vi, vs, rfl, hI, hS⟩ := hv
  have HI := hide hI.1
  clear hI hS
  have HAW := fun W => hide (awake3_any P W)
  have hs' : s.size ≤ 9223372036854775807 := by unfold maxLen at hs; omega
  have HS := hide hs
  clear hs
  have T0 := hide (Two.start w (.cells #[.bool A.absent, vi, .bool A.co, vs] 25) (.cells #[.int .i64 k, .int .i64 n, .string s] 27))
  go_enter Try.func7, Try.ntmps7
  go_wp2_with fail
  generalize (w.alloc (.cells #[.bool A.absent, vi, .bool A.co, vs] 25)).alloc (.cells #[.int .i64 k, .int .i64 n, .string s] 27) = w0 at *
  refine (unhide (HAW _)).mono ?_
  rintro r w1 ⟨rfl, b1⟩
  have T1 := hide (T0.out.on b1)
  clear b1 T0
  obtain ⟨c0, c1, c2, c3⟩ := setCells T1.out.e1
  obtain ⟨d0, d1, d2⟩ := valCells T1.out.e2
  have V1 := hide (HV.out.on T1.out.b)
  have F1 := hide (refFew_any _ [A] _ (sets_one V1.out _ rfl))
  rw [show ([A] : List SetV).all fewB = fewB A by simp] at F1
  go_wp2_with fail
  refine (unhide F1).mono ?_
  rintro r w2 ⟨rfl, rfl⟩
  cases hF : fewB A
  · have TX := hide (T1.out.al (.cells #[.bool A.absent, vi, .bool A.co, vs] 25))
    clear T1 F1 hF
    go_wp2_with fail
    refine (unhide (HAW _)).mono ?_
    rintro r w9 ⟨rfl, b9⟩
    have T9 := hide (TX.out.on b9)
    clear b9
    go_wp2
    go_ret
    exact ⟨rfl, T9.out.b⟩
  · have T2 := hide (T1.out.al (.cells #[.bool A.absent, vi, .bool A.co, vs] 25))
    have V2 := hide (V1.out.al (.cells #[.bool A.absent, vi, .bool A.co, vs] 25))
    clear T1 V1 c0 c1 c2 c3 d0 d1 d2
    generalize w1.alloc (.cells #[.bool A.absent, vi, .bool A.co, vs] 25) = w2 at *
    obtain ⟨c0, c1, c2, c3⟩ := setCells T2.out.e1
    obtain ⟨d0, d1, d2⟩ := valCells T2.out.e2
    have R2 := hide (refRightSet_any _ A w2 V2.out)
    go_wp2_with fail
    refine (unhide R2).mono ?_
    rintro r w3 ⟨rfl, b3⟩
    have T3 := hide (T2.out.on b3)
    have V3 := hide (V2.out.on b3)
    clear b3 T2 V2 c0 c1 c2 c3 d0 d1 d2 R2
    obtain ⟨c0, c1, c2, c3⟩ := setCells T3.out.e1
    obtain ⟨d0, d1, d2⟩ := valCells T3.out.e2
    cases hR : rightSet A
    · have TX := T3
      clear T3 hR hF
      go_wp2_with fail
      refine (unhide (HAW _)).mono ?_
      rintro r w9 ⟨rfl, b9⟩
      have T9 := hide (TX.out.on b9)
      clear b9
      go_wp2
      go_ret
      exact ⟨rfl, T9.out.b⟩
    · by_cases hz : s.size ≤ 100
      · have gA : Good A := ⟨hR, HI.out⟩
        obtain ⟨lI, lS⟩ := few_len hF
        have fA : Fit A := ⟨gA, by omega, by omega⟩
        have nl := notV_len A gA
        have fN : Fit (notV A) := ⟨notV_good gA, by omega, by omega⟩
        have ol := orV_len gA (notV_good gA)
        have fO : Fit (orV A (notV A)) := ⟨orV_good gA (notV_good gA), by omega, by omega⟩
        have al := andV_len gA (notV_good gA)
        have fX : Fit (andV A (notV A)) := ⟨andV_good gA (notV_good gA), by omega, by omega⟩
        have fL : Fit allV := ⟨allV_good, by simp [allV], by simp [allV]⟩
        have fNL : Fit (notV allV) := ⟨notV_good allV_good, by rw [not_all]; simp [noSet], by rw [not_all]; simp [noSet]⟩
        have HG := hide (And.intro gA (And.intro fA (And.intro fN (And.intro fO (And.intro fX (And.intro fL fNL))))))
        have E1 := hide (or_not gA (by omega))
        have E2 := hide (and_not gA (by omega))
        have CS := ends_cases gA k n s n0 n1
        have hz' : ¬ (100 : Int) < (s.size : Int) := by omega
        clear gA lI lS fA nl fN ol fO al fX fL fNL hR hF
        have X1 := hide (P.not _ A w3 V3.out HG.out.2.1)
        go_wp2_with fail
        refine (unhide X1).mono ?_
        rintro r w4 ⟨⟨u4, rfl, s4⟩, b4⟩
        have T4 := hide (T3.out.on b4)
        have V4 := hide (V3.out.on b4)
        obtain ⟨ni, ns, rfl, hni, hns⟩ := s4.form
        obtain ⟨ai, ci, rfl⟩ := hni.form
        obtain ⟨aq, cq, rfl⟩ := hns.form
        have S4 := hide s4
        clear b4 s4 T3 V3 X1 c0 c1 c2 c3 d0 d1 d2 hni hns
        generalize hNA : notV A = NA at *
        have T5 := hide (T4.out.al (.cells #[.bool NA.absent, .slice ai NA.ints.length ci, .bool NA.co, .slice aq NA.strs.length cq] 25))
        have V5 := hide (V4.out.al (.cells #[.bool NA.absent, .slice ai NA.ints.length ci, .bool NA.co, .slice aq NA.strs.length cq] 25))
        have S5 := hide (S4.out.al (.cells #[.bool NA.absent, .slice ai NA.ints.length ci, .bool NA.co, .slice aq NA.strs.length cq] 25))
        have N5 := hide (heap_new w4 (.cells #[.bool NA.absent, .slice ai NA.ints.length ci, .bool NA.co, .slice aq NA.strs.length cq] 25))
        clear T4 V4 S4
        go_wp2
        generalize w4.alloc (.cells #[.bool NA.absent, .slice ai NA.ints.length ci, .bool NA.co, .slice aq NA.strs.length cq] 25) = w5 at *
        obtain ⟨d0, d1, d2⟩ := valCells T5.out.e2
        go_region_held3 (fun w' => (w'.cell? ⟨w.heap.size + 1, 0, none⟩ = some (.int .i64 k) ∧ w'.cell? ⟨w.heap.size + 1, 1, none⟩ = some (.int .i64 n)) ∧ w'.cell? ⟨w.heap.size + 1, 2, none⟩ = some (.string s)) (first | go_keep | (refine ⟨⟨?_, ?_⟩, ?_⟩ <;> assumption))
          ((first
            | (go_at_call 19; refine (P.all _).mono ?_; rintro r w6 ⟨⟨u6, rfl, s6⟩, b6'⟩; have b6 : Below w5.heap.size w5 w6 := ⟨b6'.os, b6'.tape, b6'.output, b6'.size, b6'.block⟩; have T6 := hide (T5.out.on b6); have V6 := hide (V5.out.on b6); have S6 := hide (S5.out.on b6); have N6 := hide ((b6.block _ (lt_heap N5.out)).trans N5.out); have L6 := hide s6; have k0 := (valCells T6.out.e2).1; have k1 := (valCells T6.out.e2).2.1; have k2 := (valCells T6.out.e2).2.2; clear s6 b6 b6')
            | (go_at_call 24; refine (P.has _ allV k n s _ ?_ HG.out.2.2.2.2.2.1 n0 n1 HS.out).mono ?_; exact L6.out; rintro r w7 ⟨rfl, b7'⟩; have b7 : Below w6.heap.size w6 w7 := ⟨b7'.os, b7'.tape, b7'.output, b7'.size, b7'.block⟩; have T7 := hide (T6.out.on b7); have V7 := hide (V6.out.on b7); have S7 := hide (S6.out.on b7); have N7 := hide ((b7.block _ (lt_heap N6.out)).trans N6.out); have k0 := (valCells T7.out.e2).1; have k1 := (valCells T7.out.e2).2.1; have k2 := (valCells T7.out.e2).2.2; clear b7 b7')))
        clear k0 k1 k2 d0 d1 d2 L6 T6 V6 S6 N6 T5 V5 S5 N5
        obtain ⟨c0, c1, c2, c3⟩ := setCells T7.out.e1
        obtain ⟨d0, d1, d2⟩ := valCells T7.out.e2
        obtain ⟨g0, g1, g2, g3⟩ := setCells N7.out
        rcases CS with ⟨hx, hy, hz3⟩ | ⟨hx, hy, hz3⟩ | ⟨hx, hy, hz3⟩
        · rw [hz3]
          go_wp2_with fail
          refine (P.has _ A k n s _ V7.out HG.out.2.1 n0 n1 HS.out).mono ?_
          rintro r w8 ⟨rfl, b⟩
          rw [hx]
          clear c0 c1 c2 c3 d0 d1 d2 g0 g1 g2 g3
          have T8 := hide (T7.out.on b)
          have V8 := hide (V7.out.on b)
          have S8 := hide (S7.out.on b)
          have N8 := hide ((b.block _ (lt_heap N7.out)).trans N7.out)
          clear T7 V7 S7 N7 b 
          obtain ⟨c0, c1, c2, c3⟩ := setCells T8.out.e1
          obtain ⟨d0, d1, d2⟩ := valCells T8.out.e2
          obtain ⟨g0, g1, g2, g3⟩ := setCells N8.out
          go_wp2_with fail
          refine (P.has _ A k n s _ V8.out HG.out.2.1 n0 n1 HS.out).mono ?_
          rintro r w9 ⟨rfl, b⟩
          rw [hx]
          clear c0 c1 c2 c3 d0 d1 d2 g0 g1 g2 g3
          have T9 := hide (T8.out.on b)
          have V9 := hide (V8.out.on b)
          have S9 := hide (S8.out.on b)
          have N9 := hide ((b.block _ (lt_heap N8.out)).trans N8.out)
          clear T8 V8 S8 N8 b 
          obtain ⟨c0, c1, c2, c3⟩ := setCells T9.out.e1
          obtain ⟨d0, d1, d2⟩ := valCells T9.out.e2
          obtain ⟨g0, g1, g2, g3⟩ := setCells N9.out
          go_wp2_with fail
          refine (P.has _ NA k n s _ S9.out HG.out.2.2.1 n0 n1 HS.out).mono ?_
          rintro r w10 ⟨rfl, b⟩
          rw [hy]
          clear c0 c1 c2 c3 d0 d1 d2 g0 g1 g2 g3
          have T10 := hide (T9.out.on b)
          have V10 := hide (V9.out.on b)
          have S10 := hide (S9.out.on b)
          have N10 := hide ((b.block _ (lt_heap N9.out)).trans N9.out)
          clear T9 V9 S9 N9 b 
          obtain ⟨c0, c1, c2, c3⟩ := setCells T10.out.e1
          obtain ⟨d0, d1, d2⟩ := valCells T10.out.e2
          obtain ⟨g0, g1, g2, g3⟩ := setCells N10.out
          go_wp2_with fail
          refine (P.or _ _ A NA _ V10.out S10.out HG.out.2.1 HG.out.2.2.1).mono ?_
          rintro r w11 ⟨⟨u, rfl, su⟩, b⟩
          clear c0 c1 c2 c3 d0 d1 d2 g0 g1 g2 g3
          have O_11 := hide su
          clear su
          have T11 := hide (T10.out.on b)
          have V11 := hide (V10.out.on b)
          have S11 := hide (S10.out.on b)
          have N11 := hide ((b.block _ (lt_heap N10.out)).trans N10.out)
          clear T10 V10 S10 N10 b 
          obtain ⟨c0, c1, c2, c3⟩ := setCells T11.out.e1
          obtain ⟨d0, d1, d2⟩ := valCells T11.out.e2
          obtain ⟨g0, g1, g2, g3⟩ := setCells N11.out
          go_wp2_with fail
          refine (P.all _).mono ?_
          rintro r w12 ⟨⟨u', rfl, su⟩, b⟩
          clear c0 c1 c2 c3 d0 d1 d2 g0 g1 g2 g3
          have L_12 := hide su
          clear su
          have T12 := hide (T11.out.on b)
          have V12 := hide (V11.out.on b)
          have S12 := hide (S11.out.on b)
          have N12 := hide ((b.block _ (lt_heap N11.out)).trans N11.out)
          have O_12 := hide (O_11.out.on b)
          clear T11 V11 S11 N11 b O_11
          obtain ⟨c0, c1, c2, c3⟩ := setCells T12.out.e1
          obtain ⟨d0, d1, d2⟩ := valCells T12.out.e2
          obtain ⟨g0, g1, g2, g3⟩ := setCells N12.out
          go_wp2_with fail
          refine (P.same _ _ _ _ _ O_12.out L_12.out HG.out.2.2.2.1 HG.out.2.2.2.2.2.1).mono ?_
          rintro r w13 ⟨rfl, b⟩
          rw [(sameB_iff _ _).2 E1.out]
          clear c0 c1 c2 c3 d0 d1 d2 g0 g1 g2 g3
          have T13 := hide (T12.out.on b)
          have V13 := hide (V12.out.on b)
          have S13 := hide (S12.out.on b)
          have N13 := hide ((b.block _ (lt_heap N12.out)).trans N12.out)
          have O_13 := hide (O_12.out.on b)
          have L_13 := hide (L_12.out.on b)
          clear T12 V12 S12 N12 b O_12 L_12
          obtain ⟨c0, c1, c2, c3⟩ := setCells T13.out.e1
          obtain ⟨d0, d1, d2⟩ := valCells T13.out.e2
          obtain ⟨g0, g1, g2, g3⟩ := setCells N13.out
          clear O_13
          clear L_13
          go_wp2_with fail
          refine (P.and _ _ A NA _ V13.out S13.out HG.out.2.1 HG.out.2.2.1).mono ?_
          rintro r w14 ⟨⟨u'', rfl, su⟩, b⟩
          clear c0 c1 c2 c3 d0 d1 d2 g0 g1 g2 g3
          have X_14 := hide su
          clear su
          have T14 := hide (T13.out.on b)
          have V14 := hide (V13.out.on b)
          have S14 := hide (S13.out.on b)
          have N14 := hide ((b.block _ (lt_heap N13.out)).trans N13.out)
          clear T13 V13 S13 N13 b 
          obtain ⟨c0, c1, c2, c3⟩ := setCells T14.out.e1
          obtain ⟨d0, d1, d2⟩ := valCells T14.out.e2
          obtain ⟨g0, g1, g2, g3⟩ := setCells N14.out
          go_wp2_with fail
          refine (P.empty _ _ _ X_14.out HG.out.2.2.2.2.1).mono ?_
          rintro r w15 ⟨rfl, b⟩
          rw [E2.out, show emptyB noSet = true from rfl]
          clear c0 c1 c2 c3 d0 d1 d2 g0 g1 g2 g3
          have T15 := hide (T14.out.on b)
          have V15 := hide (V14.out.on b)
          have S15 := hide (S14.out.on b)
          have N15 := hide ((b.block _ (lt_heap N14.out)).trans N14.out)
          have X_15 := hide (X_14.out.on b)
          clear T14 V14 S14 N14 b X_14
          obtain ⟨c0, c1, c2, c3⟩ := setCells T15.out.e1
          obtain ⟨d0, d1, d2⟩ := valCells T15.out.e2
          obtain ⟨g0, g1, g2, g3⟩ := setCells N15.out
          clear X_15
          go_wp2_with fail
          refine (P.all _).mono ?_
          rintro r w16 ⟨⟨u3, rfl, su⟩, b⟩
          clear c0 c1 c2 c3 d0 d1 d2 g0 g1 g2 g3
          have L_16 := hide su
          clear su
          have T16 := hide (T15.out.on b)
          have V16 := hide (V15.out.on b)
          have S16 := hide (S15.out.on b)
          have N16 := hide ((b.block _ (lt_heap N15.out)).trans N15.out)
          clear T15 V15 S15 N15 b 
          obtain ⟨c0, c1, c2, c3⟩ := setCells T16.out.e1
          obtain ⟨d0, d1, d2⟩ := valCells T16.out.e2
          obtain ⟨g0, g1, g2, g3⟩ := setCells N16.out
          go_wp2_with fail
          refine (P.not _ _ _ L_16.out HG.out.2.2.2.2.2.1).mono ?_
          rintro r w17 ⟨⟨u4, rfl, su⟩, b⟩
          clear c0 c1 c2 c3 d0 d1 d2 g0 g1 g2 g3
          have M_17 := hide su
          clear su
          have T17 := hide (T16.out.on b)
          have V17 := hide (V16.out.on b)
          have S17 := hide (S16.out.on b)
          have N17 := hide ((b.block _ (lt_heap N16.out)).trans N16.out)
          have L_17 := hide (L_16.out.on b)
          clear T16 V16 S16 N16 b L_16
          obtain ⟨c0, c1, c2, c3⟩ := setCells T17.out.e1
          obtain ⟨d0, d1, d2⟩ := valCells T17.out.e2
          obtain ⟨g0, g1, g2, g3⟩ := setCells N17.out
          clear L_17
          go_wp2_with fail
          refine (P.empty _ _ _ M_17.out HG.out.2.2.2.2.2.2).mono ?_
          rintro r w18 ⟨rfl, b⟩
          rw [not_all, show emptyB noSet = true from rfl]
          clear c0 c1 c2 c3 d0 d1 d2 g0 g1 g2 g3
          have T18 := hide (T17.out.on b)
          have V18 := hide (V17.out.on b)
          have S18 := hide (S17.out.on b)
          have N18 := hide ((b.block _ (lt_heap N17.out)).trans N17.out)
          have M_18 := hide (M_17.out.on b)
          clear T17 V17 S17 N17 b M_17
          obtain ⟨c0, c1, c2, c3⟩ := setCells T18.out.e1
          obtain ⟨d0, d1, d2⟩ := valCells T18.out.e2
          obtain ⟨g0, g1, g2, g3⟩ := setCells N18.out
          clear M_18
          go_wp2
          go_ret
          exact ⟨rfl, T18.out.b⟩
        · rw [hz3]
          go_wp2_with fail
          refine (P.has _ A k n s _ V7.out HG.out.2.1 n0 n1 HS.out).mono ?_
          rintro r w8 ⟨rfl, b⟩
          rw [hx]
          clear c0 c1 c2 c3 d0 d1 d2 g0 g1 g2 g3
          have T8 := hide (T7.out.on b)
          have V8 := hide (V7.out.on b)
          have S8 := hide (S7.out.on b)
          have N8 := hide ((b.block _ (lt_heap N7.out)).trans N7.out)
          clear T7 V7 S7 N7 b 
          obtain ⟨c0, c1, c2, c3⟩ := setCells T8.out.e1
          obtain ⟨d0, d1, d2⟩ := valCells T8.out.e2
          obtain ⟨g0, g1, g2, g3⟩ := setCells N8.out
          go_wp2_with fail
          refine (P.has _ NA k n s _ S8.out HG.out.2.2.1 n0 n1 HS.out).mono ?_
          rintro r w9 ⟨rfl, b⟩
          rw [hy]
          clear c0 c1 c2 c3 d0 d1 d2 g0 g1 g2 g3
          have T9 := hide (T8.out.on b)
          have V9 := hide (V8.out.on b)
          have S9 := hide (S8.out.on b)
          have N9 := hide ((b.block _ (lt_heap N8.out)).trans N8.out)
          clear T8 V8 S8 N8 b 
          obtain ⟨c0, c1, c2, c3⟩ := setCells T9.out.e1
          obtain ⟨d0, d1, d2⟩ := valCells T9.out.e2
          obtain ⟨g0, g1, g2, g3⟩ := setCells N9.out
          go_wp2_with fail
          refine (P.has _ A k n s _ V9.out HG.out.2.1 n0 n1 HS.out).mono ?_
          rintro r w10 ⟨rfl, b⟩
          rw [hx]
          clear c0 c1 c2 c3 d0 d1 d2 g0 g1 g2 g3
          have T10 := hide (T9.out.on b)
          have V10 := hide (V9.out.on b)
          have S10 := hide (S9.out.on b)
          have N10 := hide ((b.block _ (lt_heap N9.out)).trans N9.out)
          clear T9 V9 S9 N9 b 
          obtain ⟨c0, c1, c2, c3⟩ := setCells T10.out.e1
          obtain ⟨d0, d1, d2⟩ := valCells T10.out.e2
          obtain ⟨g0, g1, g2, g3⟩ := setCells N10.out
          go_wp2_with fail
          refine (P.or _ _ A NA _ V10.out S10.out HG.out.2.1 HG.out.2.2.1).mono ?_
          rintro r w11 ⟨⟨u, rfl, su⟩, b⟩
          clear c0 c1 c2 c3 d0 d1 d2 g0 g1 g2 g3
          have O_11 := hide su
          clear su
          have T11 := hide (T10.out.on b)
          have V11 := hide (V10.out.on b)
          have S11 := hide (S10.out.on b)
          have N11 := hide ((b.block _ (lt_heap N10.out)).trans N10.out)
          clear T10 V10 S10 N10 b 
          obtain ⟨c0, c1, c2, c3⟩ := setCells T11.out.e1
          obtain ⟨d0, d1, d2⟩ := valCells T11.out.e2
          obtain ⟨g0, g1, g2, g3⟩ := setCells N11.out
          go_wp2_with fail
          refine (P.all _).mono ?_
          rintro r w12 ⟨⟨u', rfl, su⟩, b⟩
          clear c0 c1 c2 c3 d0 d1 d2 g0 g1 g2 g3
          have L_12 := hide su
          clear su
          have T12 := hide (T11.out.on b)
          have V12 := hide (V11.out.on b)
          have S12 := hide (S11.out.on b)
          have N12 := hide ((b.block _ (lt_heap N11.out)).trans N11.out)
          have O_12 := hide (O_11.out.on b)
          clear T11 V11 S11 N11 b O_11
          obtain ⟨c0, c1, c2, c3⟩ := setCells T12.out.e1
          obtain ⟨d0, d1, d2⟩ := valCells T12.out.e2
          obtain ⟨g0, g1, g2, g3⟩ := setCells N12.out
          go_wp2_with fail
          refine (P.same _ _ _ _ _ O_12.out L_12.out HG.out.2.2.2.1 HG.out.2.2.2.2.2.1).mono ?_
          rintro r w13 ⟨rfl, b⟩
          rw [(sameB_iff _ _).2 E1.out]
          clear c0 c1 c2 c3 d0 d1 d2 g0 g1 g2 g3
          have T13 := hide (T12.out.on b)
          have V13 := hide (V12.out.on b)
          have S13 := hide (S12.out.on b)
          have N13 := hide ((b.block _ (lt_heap N12.out)).trans N12.out)
          have O_13 := hide (O_12.out.on b)
          have L_13 := hide (L_12.out.on b)
          clear T12 V12 S12 N12 b O_12 L_12
          obtain ⟨c0, c1, c2, c3⟩ := setCells T13.out.e1
          obtain ⟨d0, d1, d2⟩ := valCells T13.out.e2
          obtain ⟨g0, g1, g2, g3⟩ := setCells N13.out
          clear O_13
          clear L_13
          go_wp2_with fail
          refine (P.and _ _ A NA _ V13.out S13.out HG.out.2.1 HG.out.2.2.1).mono ?_
          rintro r w14 ⟨⟨u'', rfl, su⟩, b⟩
          clear c0 c1 c2 c3 d0 d1 d2 g0 g1 g2 g3
          have X_14 := hide su
          clear su
          have T14 := hide (T13.out.on b)
          have V14 := hide (V13.out.on b)
          have S14 := hide (S13.out.on b)
          have N14 := hide ((b.block _ (lt_heap N13.out)).trans N13.out)
          clear T13 V13 S13 N13 b 
          obtain ⟨c0, c1, c2, c3⟩ := setCells T14.out.e1
          obtain ⟨d0, d1, d2⟩ := valCells T14.out.e2
          obtain ⟨g0, g1, g2, g3⟩ := setCells N14.out
          go_wp2_with fail
          refine (P.empty _ _ _ X_14.out HG.out.2.2.2.2.1).mono ?_
          rintro r w15 ⟨rfl, b⟩
          rw [E2.out, show emptyB noSet = true from rfl]
          clear c0 c1 c2 c3 d0 d1 d2 g0 g1 g2 g3
          have T15 := hide (T14.out.on b)
          have V15 := hide (V14.out.on b)
          have S15 := hide (S14.out.on b)
          have N15 := hide ((b.block _ (lt_heap N14.out)).trans N14.out)
          have X_15 := hide (X_14.out.on b)
          clear T14 V14 S14 N14 b X_14
          obtain ⟨c0, c1, c2, c3⟩ := setCells T15.out.e1
          obtain ⟨d0, d1, d2⟩ := valCells T15.out.e2
          obtain ⟨g0, g1, g2, g3⟩ := setCells N15.out
          clear X_15
          go_wp2_with fail
          refine (P.all _).mono ?_
          rintro r w16 ⟨⟨u3, rfl, su⟩, b⟩
          clear c0 c1 c2 c3 d0 d1 d2 g0 g1 g2 g3
          have L_16 := hide su
          clear su
          have T16 := hide (T15.out.on b)
          have V16 := hide (V15.out.on b)
          have S16 := hide (S15.out.on b)
          have N16 := hide ((b.block _ (lt_heap N15.out)).trans N15.out)
          clear T15 V15 S15 N15 b 
          obtain ⟨c0, c1, c2, c3⟩ := setCells T16.out.e1
          obtain ⟨d0, d1, d2⟩ := valCells T16.out.e2
          obtain ⟨g0, g1, g2, g3⟩ := setCells N16.out
          go_wp2_with fail
          refine (P.not _ _ _ L_16.out HG.out.2.2.2.2.2.1).mono ?_
          rintro r w17 ⟨⟨u4, rfl, su⟩, b⟩
          clear c0 c1 c2 c3 d0 d1 d2 g0 g1 g2 g3
          have M_17 := hide su
          clear su
          have T17 := hide (T16.out.on b)
          have V17 := hide (V16.out.on b)
          have S17 := hide (S16.out.on b)
          have N17 := hide ((b.block _ (lt_heap N16.out)).trans N16.out)
          have L_17 := hide (L_16.out.on b)
          clear T16 V16 S16 N16 b L_16
          obtain ⟨c0, c1, c2, c3⟩ := setCells T17.out.e1
          obtain ⟨d0, d1, d2⟩ := valCells T17.out.e2
          obtain ⟨g0, g1, g2, g3⟩ := setCells N17.out
          clear L_17
          go_wp2_with fail
          refine (P.empty _ _ _ M_17.out HG.out.2.2.2.2.2.2).mono ?_
          rintro r w18 ⟨rfl, b⟩
          rw [not_all, show emptyB noSet = true from rfl]
          clear c0 c1 c2 c3 d0 d1 d2 g0 g1 g2 g3
          have T18 := hide (T17.out.on b)
          have V18 := hide (V17.out.on b)
          have S18 := hide (S17.out.on b)
          have N18 := hide ((b.block _ (lt_heap N17.out)).trans N17.out)
          have M_18 := hide (M_17.out.on b)
          clear T17 V17 S17 N17 b M_17
          obtain ⟨c0, c1, c2, c3⟩ := setCells T18.out.e1
          obtain ⟨d0, d1, d2⟩ := valCells T18.out.e2
          obtain ⟨g0, g1, g2, g3⟩ := setCells N18.out
          clear M_18
          go_wp2
          go_ret
          exact ⟨rfl, T18.out.b⟩
        · rw [hz3]
          go_wp2_with fail
          refine (P.has _ A k n s _ V7.out HG.out.2.1 n0 n1 HS.out).mono ?_
          rintro r w8 ⟨rfl, b⟩
          rw [hx]
          clear c0 c1 c2 c3 d0 d1 d2 g0 g1 g2 g3
          have T8 := hide (T7.out.on b)
          have V8 := hide (V7.out.on b)
          have S8 := hide (S7.out.on b)
          have N8 := hide ((b.block _ (lt_heap N7.out)).trans N7.out)
          clear T7 V7 S7 N7 b 
          obtain ⟨c0, c1, c2, c3⟩ := setCells T8.out.e1
          obtain ⟨d0, d1, d2⟩ := valCells T8.out.e2
          obtain ⟨g0, g1, g2, g3⟩ := setCells N8.out
          go_wp2_with fail
          refine (P.has _ NA k n s _ S8.out HG.out.2.2.1 n0 n1 HS.out).mono ?_
          rintro r w9 ⟨rfl, b⟩
          rw [hy]
          clear c0 c1 c2 c3 d0 d1 d2 g0 g1 g2 g3
          have T9 := hide (T8.out.on b)
          have V9 := hide (V8.out.on b)
          have S9 := hide (S8.out.on b)
          have N9 := hide ((b.block _ (lt_heap N8.out)).trans N8.out)
          clear T8 V8 S8 N8 b 
          obtain ⟨c0, c1, c2, c3⟩ := setCells T9.out.e1
          obtain ⟨d0, d1, d2⟩ := valCells T9.out.e2
          obtain ⟨g0, g1, g2, g3⟩ := setCells N9.out
          go_wp2_with fail
          refine (P.has _ A k n s _ V9.out HG.out.2.1 n0 n1 HS.out).mono ?_
          rintro r w10 ⟨rfl, b⟩
          rw [hx]
          clear c0 c1 c2 c3 d0 d1 d2 g0 g1 g2 g3
          have T10 := hide (T9.out.on b)
          have V10 := hide (V9.out.on b)
          have S10 := hide (S9.out.on b)
          have N10 := hide ((b.block _ (lt_heap N9.out)).trans N9.out)
          clear T9 V9 S9 N9 b 
          obtain ⟨c0, c1, c2, c3⟩ := setCells T10.out.e1
          obtain ⟨d0, d1, d2⟩ := valCells T10.out.e2
          obtain ⟨g0, g1, g2, g3⟩ := setCells N10.out
          go_wp2_with fail
          refine (P.or _ _ A NA _ V10.out S10.out HG.out.2.1 HG.out.2.2.1).mono ?_
          rintro r w11 ⟨⟨u, rfl, su⟩, b⟩
          clear c0 c1 c2 c3 d0 d1 d2 g0 g1 g2 g3
          have O_11 := hide su
          clear su
          have T11 := hide (T10.out.on b)
          have V11 := hide (V10.out.on b)
          have S11 := hide (S10.out.on b)
          have N11 := hide ((b.block _ (lt_heap N10.out)).trans N10.out)
          clear T10 V10 S10 N10 b 
          obtain ⟨c0, c1, c2, c3⟩ := setCells T11.out.e1
          obtain ⟨d0, d1, d2⟩ := valCells T11.out.e2
          obtain ⟨g0, g1, g2, g3⟩ := setCells N11.out
          go_wp2_with fail
          refine (P.all _).mono ?_
          rintro r w12 ⟨⟨u', rfl, su⟩, b⟩
          clear c0 c1 c2 c3 d0 d1 d2 g0 g1 g2 g3
          have L_12 := hide su
          clear su
          have T12 := hide (T11.out.on b)
          have V12 := hide (V11.out.on b)
          have S12 := hide (S11.out.on b)
          have N12 := hide ((b.block _ (lt_heap N11.out)).trans N11.out)
          have O_12 := hide (O_11.out.on b)
          clear T11 V11 S11 N11 b O_11
          obtain ⟨c0, c1, c2, c3⟩ := setCells T12.out.e1
          obtain ⟨d0, d1, d2⟩ := valCells T12.out.e2
          obtain ⟨g0, g1, g2, g3⟩ := setCells N12.out
          go_wp2_with fail
          refine (P.same _ _ _ _ _ O_12.out L_12.out HG.out.2.2.2.1 HG.out.2.2.2.2.2.1).mono ?_
          rintro r w13 ⟨rfl, b⟩
          rw [(sameB_iff _ _).2 E1.out]
          clear c0 c1 c2 c3 d0 d1 d2 g0 g1 g2 g3
          have T13 := hide (T12.out.on b)
          have V13 := hide (V12.out.on b)
          have S13 := hide (S12.out.on b)
          have N13 := hide ((b.block _ (lt_heap N12.out)).trans N12.out)
          have O_13 := hide (O_12.out.on b)
          have L_13 := hide (L_12.out.on b)
          clear T12 V12 S12 N12 b O_12 L_12
          obtain ⟨c0, c1, c2, c3⟩ := setCells T13.out.e1
          obtain ⟨d0, d1, d2⟩ := valCells T13.out.e2
          obtain ⟨g0, g1, g2, g3⟩ := setCells N13.out
          clear O_13
          clear L_13
          go_wp2_with fail
          refine (P.and _ _ A NA _ V13.out S13.out HG.out.2.1 HG.out.2.2.1).mono ?_
          rintro r w14 ⟨⟨u'', rfl, su⟩, b⟩
          clear c0 c1 c2 c3 d0 d1 d2 g0 g1 g2 g3
          have X_14 := hide su
          clear su
          have T14 := hide (T13.out.on b)
          have V14 := hide (V13.out.on b)
          have S14 := hide (S13.out.on b)
          have N14 := hide ((b.block _ (lt_heap N13.out)).trans N13.out)
          clear T13 V13 S13 N13 b 
          obtain ⟨c0, c1, c2, c3⟩ := setCells T14.out.e1
          obtain ⟨d0, d1, d2⟩ := valCells T14.out.e2
          obtain ⟨g0, g1, g2, g3⟩ := setCells N14.out
          go_wp2_with fail
          refine (P.empty _ _ _ X_14.out HG.out.2.2.2.2.1).mono ?_
          rintro r w15 ⟨rfl, b⟩
          rw [E2.out, show emptyB noSet = true from rfl]
          clear c0 c1 c2 c3 d0 d1 d2 g0 g1 g2 g3
          have T15 := hide (T14.out.on b)
          have V15 := hide (V14.out.on b)
          have S15 := hide (S14.out.on b)
          have N15 := hide ((b.block _ (lt_heap N14.out)).trans N14.out)
          have X_15 := hide (X_14.out.on b)
          clear T14 V14 S14 N14 b X_14
          obtain ⟨c0, c1, c2, c3⟩ := setCells T15.out.e1
          obtain ⟨d0, d1, d2⟩ := valCells T15.out.e2
          obtain ⟨g0, g1, g2, g3⟩ := setCells N15.out
          clear X_15
          go_wp2_with fail
          refine (P.all _).mono ?_
          rintro r w16 ⟨⟨u3, rfl, su⟩, b⟩
          clear c0 c1 c2 c3 d0 d1 d2 g0 g1 g2 g3
          have L_16 := hide su
          clear su
          have T16 := hide (T15.out.on b)
          have V16 := hide (V15.out.on b)
          have S16 := hide (S15.out.on b)
          have N16 := hide ((b.block _ (lt_heap N15.out)).trans N15.out)
          clear T15 V15 S15 N15 b 
          obtain ⟨c0, c1, c2, c3⟩ := setCells T16.out.e1
          obtain ⟨d0, d1, d2⟩ := valCells T16.out.e2
          obtain ⟨g0, g1, g2, g3⟩ := setCells N16.out
          go_wp2_with fail
          refine (P.not _ _ _ L_16.out HG.out.2.2.2.2.2.1).mono ?_
          rintro r w17 ⟨⟨u4, rfl, su⟩, b⟩
          clear c0 c1 c2 c3 d0 d1 d2 g0 g1 g2 g3
          have M_17 := hide su
          clear su
          have T17 := hide (T16.out.on b)
          have V17 := hide (V16.out.on b)
          have S17 := hide (S16.out.on b)
          have N17 := hide ((b.block _ (lt_heap N16.out)).trans N16.out)
          have L_17 := hide (L_16.out.on b)
          clear T16 V16 S16 N16 b L_16
          obtain ⟨c0, c1, c2, c3⟩ := setCells T17.out.e1
          obtain ⟨d0, d1, d2⟩ := valCells T17.out.e2
          obtain ⟨g0, g1, g2, g3⟩ := setCells N17.out
          clear L_17
          go_wp2_with fail
          refine (P.empty _ _ _ M_17.out HG.out.2.2.2.2.2.2).mono ?_
          rintro r w18 ⟨rfl, b⟩
          rw [not_all, show emptyB noSet = true from rfl]
          clear c0 c1 c2 c3 d0 d1 d2 g0 g1 g2 g3
          have T18 := hide (T17.out.on b)
          have V18 := hide (V17.out.on b)
          have S18 := hide (S17.out.on b)
          have N18 := hide ((b.block _ (lt_heap N17.out)).trans N17.out)
          have M_18 := hide (M_17.out.on b)
          clear T17 V17 S17 N17 b M_17
          obtain ⟨c0, c1, c2, c3⟩ := setCells T18.out.e1
          obtain ⟨d0, d1, d2⟩ := valCells T18.out.e2
          obtain ⟨g0, g1, g2, g3⟩ := setCells N18.out
          clear M_18
          go_wp2
          go_ret
          exact ⟨rfl, T18.out.b⟩
      · have hz' : (100 : Int) < (s.size : Int) := by omega
        have TX := T3
        clear T3 hR hF
        go_wp2_with fail
        refine (unhide (HAW _)).mono ?_
        rintro r w9 ⟨rfl, b9⟩
        have T9 := hide (TX.out.on b9)
        clear b9
        go_wp2
        go_ret
        exact ⟨rfl, T9.out.b⟩
end Go.Proofs.Ytdmjpdhjebmnfaa
