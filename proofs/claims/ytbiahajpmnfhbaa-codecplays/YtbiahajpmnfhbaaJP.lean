/-
  The walk of the law CodecPlays.
-/
import Derived.Test.YtbiahajpmnfhbaaKQ
import Derived.Test.YtbiahajpmnfhbaaJS
set_option linter.unusedSimpArgs false
set_option linter.unusedVariables false
namespace Go.Proofs.Ytbiahajpmnfhbaa
open Go.RowKit

theorem mk_list' (s : ByteArray) : s = ⟨s.data.toList.toArray⟩ := by cases s; simp
theorem leftP (b : Nat) (l : List UInt8) (e : Int) (w : World) (h : PS w b l e) (hz : l.length ≤ 1048576) :
    Calls Try.prog 28 #[.pointer (some ⟨b, 0, none⟩)] w fun r w' => r = .returned (.int .i64 (l.length : Int)) ∧ Below w.heap.size w w' := by
  have h1 := left_any b _ e w h.1 (by rw [mk_size]; exact hz)
  rw [mk_size] at h1
  refine h1.mono ?_
  rintro r w' ⟨rfl, rfl⟩
  exact ⟨rfl, below_refl _⟩
theorem errP (b : Nat) (l : List UInt8) (e : Int) (w : World) (h : PS w b l e) :
    Calls Try.prog 30 #[.pointer (some ⟨b, 0, none⟩)] w fun r w' => r = .returned (.int .i64 e) ∧ Below w.heap.size w w' := by
  refine (err_any b _ e w h.1).mono ?_
  rintro r w' ⟨rfl, rfl⟩
  exact ⟨rfl, below_refl _⟩

set_option maxHeartbeats 8000000 in
set_option maxRecDepth 100000 in
theorem plays_walk (s : ByteArray) (v : Value) (n : Nat) (w : World) (hs : s.size ≤ maxLen) (hv : OpsIn w v n) :
    Calls Try.prog 4 #[.string s, v] w fun r w' => r = .returned (.bool true) ∧ Below w.heap.size w w' := by
  have hs' : s.size ≤ 9223372036854775807 := by unfold maxLen at hs; omega
  clear hs
  have HV := hide hv
  obtain ⟨hn, a, cap, rfl, hel⟩ := hv
  clear hel
  by_cases big : s.size ≤ 2000 ∧ n ≤ 200
  · have HL := fun W => hide (long_no s a n cap W big.1 big.2)
    have hz : s.size ≤ 1048576 := by omega
    have hn2 : n ≤ 200 := big.2
    clear big
    go_enter Try.func4, Try.ntmps4
    go_wp2_with fail
    refine (awake_any _).mono ?_
    rintro r w1 ⟨rfl, b1⟩
    go_wp2_with fail
    refine (unhide (HL _)).mono ?_
    rintro r w2 ⟨rfl, rfl⟩
    have s1 := b1.size
    have B1 := hide b1
    clear b1 HL
    go_wp2_with fail
    refine (read_any _ _).mono ?_
    rintro r w3 ⟨rfl, p3, b3⟩
    have lt3 := lt_heap p3
    have B3 := hide (B1.out.trans (b3.mono s1))
    have P3 := hide p3
    clear b3 B1 p3
    go_wp2
    go_loopw [25] (fun i wr => ∃ (k : Nat) (l : List UInt8) (e : Int), i = .int .i64 k ∧ k ≤ n ∧ Hid (PS wr w2.heap.size l e) ∧ Hid (RS wr w3.heap.size s l e) ∧ Hid (Below w.heap.size w wr)) (fun i _ => n - (intOf i).toNat)
    case atStart =>
      have ba := (Below.refl _ w3).alloc (Nat.le_refl _) (.cells #[.string s, .int .i64 0, .int .i64 0] 34)
      refine ⟨0, s.data.toList, 0, rfl, by omega, hide ⟨?_, fun h => absurd rfl h⟩, hide ⟨0, by omega, heap_new _ _, fun _ => rfl, fun h => absurd rfl h⟩, hide (B3.out.trans (ba.mono B3.out.size))⟩
      rw [← mk_list' s]
      exact P3.out.on ba
    case round =>
      obtain ⟨k, l, e, rfl, hk, HP, HR, HB⟩ := hrel
      clear P3 B3
      by_cases hlt : k < n
      · obtain ⟨_, a', cap', hva, hel⟩ := HV.out.on HB.out
        obtain ⟨rfl, _, rfl⟩ : a = a' ∧ n = n ∧ cap = cap' := by injection hva with h1 h2 h3; exact ⟨h1, rfl, h3⟩
        obtain ⟨b, off, kd, m, rfl, hblt, c0, c1, k0, k1, m0, m1⟩ := hel k hlt
        clear hva hel
        have hl := Nat.le_trans HR.out.len hz
        have ba := fun (o : Obj) => (Below.refl _ wr).alloc (Nat.le_refl _) o
        have HP5 := fun (o : Obj) => hide (HP.out.on (ba o))
        have HR5 := fun (o : Obj) => hide (HR.out.on (ba o))
        have HB5 := fun (o : Obj) => hide (HB.out.alloc HB.out.size o)
        clear ba
        have six : kd = 1 ∨ kd = 2 ∨ kd = 3 ∨ kd = 4 ∨ kd = 5 ∨ ((kd == 1) = false ∧ (kd == 2) = false ∧ (kd == 3) = false ∧ (kd == 4) = false ∧ (kd == 5) = false) := by
          simp only [beq_eq_false_iff_ne, ne_eq]; omega
        rcases six with rfl | rfl | rfl | rfl | rfl | ⟨d1, d2, d3, d4, d5⟩
        · have t1 := fun (o : Obj) => hide (byteP _ l e _ (HP5 o).out hl)
          have t2 := fun (W : World) (h : RS W w3.heap.size s l e) => hide (byteR _ s l e W h hz)
          generalize byteO l e = T at *
          obtain ⟨V, l', e'⟩ := T
          dsimp only at t1 t2
          go_wp2_with fail
          refine (unhide (t1 _)).mono ?_
          rintro r w6 ⟨rfl, p6, g6⟩
          have P6 := hide p6
          have R6 := hide ((HR5 _).out.keep g6 (by omega))
          have B6 := hide (below_row (HB5 _).out g6 s1)
          clear p6 g6 t1
          go_wp2_with fail
          refine (unhide (t2 _ R6.out)).mono ?_
          rintro r w7 ⟨rfl, r7, g7⟩
          have PF := hide (P6.out.keep g7 (by omega))
          have RF := hide r7
          have BF := hide (below_row B6.out g7 (by omega))
          clear r7 g7 t2 P6 R6 B6
          go_wp2
          have hl' := Nat.le_trans RF.out.len hz
          have X1 := fun (d : Nat) (os : Array Obj) => hide (Calls.regrown_of (leftP _ _ _ (Sort.grow (redrawn w7 d) os) (PF.out.on (below_regrown w7 d os)) hl'))
          have X2 := fun (d : Nat) (os : Array Obj) => hide (Calls.regrown_of (leftR _ _ _ _ (Sort.grow (redrawn w7 d) os) (RF.out.on (below_regrown w7 d os)) hz))
          have X3 := fun (d : Nat) (os : Array Obj) => hide (Calls.regrown_of (errP _ _ _ (Sort.grow (redrawn w7 d) os) (PF.out.on (below_regrown w7 d os))))
          have q2 := cell_regrown RF.out.err
          have PG := fun (d : Nat) (os : Array Obj) => hide (PF.out.on (below_regrown w7 d os))
          have RG := fun (d : Nat) (os : Array Obj) => hide (RF.out.on (below_regrown w7 d os))
          have BG := fun (d : Nat) (os : Array Obj) => hide (BF.out.trans ((below_regrown w7 d os).mono BF.out.size))
          clear PF RF BF HP HR HB HV HP5 HR5 HB5 c0 c1
          refine wp_region_quiet_below mixed (by kernel_rfl) ?_
          repeat (first | go_big_quiet_step ((first | exact unhide (X1 _ _) | exact unhide (X2 _ _) | exact unhide (X3 _ _))) | quiet_step ((first | exact unhide (X1 _ _) | exact unhide (X2 _ _) | exact unhide (X3 _ _))))
          refine wpQuiet_nil ?_
          intro _ hw'
          obtain ⟨⟨dq, osq⟩, hw''⟩ := hw'
          subst hw''
          go_wp2
          exact ⟨⟨k + 1, _, _, by go_num, by omega, PG _ _, RG _ _, BG _ _⟩, by simp [intOf]; omega⟩
        · have t1 := fun (o : Obj) => hide (uintP _ l e _ (HP5 o).out hl)
          have t2 := fun (W : World) (h : RS W w3.heap.size s l e) => hide (uintR _ s l e W h hz)
          generalize uintO l e = T at *
          obtain ⟨V, l', e'⟩ := T
          dsimp only at t1 t2
          go_wp2_with fail
          refine (unhide (t1 _)).mono ?_
          rintro r w6 ⟨rfl, p6, g6⟩
          have P6 := hide p6
          have R6 := hide ((HR5 _).out.keep g6 (by omega))
          have B6 := hide (below_row (HB5 _).out g6 s1)
          clear p6 g6 t1
          go_wp2_with fail
          refine (unhide (t2 _ R6.out)).mono ?_
          rintro r w7 ⟨rfl, r7, g7⟩
          have PF := hide (P6.out.keep g7 (by omega))
          have RF := hide r7
          have BF := hide (below_row B6.out g7 (by omega))
          clear r7 g7 t2 P6 R6 B6
          go_wp2
          have hl' := Nat.le_trans RF.out.len hz
          have X1 := fun (d : Nat) (os : Array Obj) => hide (Calls.regrown_of (leftP _ _ _ (Sort.grow (redrawn w7 d) os) (PF.out.on (below_regrown w7 d os)) hl'))
          have X2 := fun (d : Nat) (os : Array Obj) => hide (Calls.regrown_of (leftR _ _ _ _ (Sort.grow (redrawn w7 d) os) (RF.out.on (below_regrown w7 d os)) hz))
          have X3 := fun (d : Nat) (os : Array Obj) => hide (Calls.regrown_of (errP _ _ _ (Sort.grow (redrawn w7 d) os) (PF.out.on (below_regrown w7 d os))))
          have q2 := cell_regrown RF.out.err
          have PG := fun (d : Nat) (os : Array Obj) => hide (PF.out.on (below_regrown w7 d os))
          have RG := fun (d : Nat) (os : Array Obj) => hide (RF.out.on (below_regrown w7 d os))
          have BG := fun (d : Nat) (os : Array Obj) => hide (BF.out.trans ((below_regrown w7 d os).mono BF.out.size))
          clear PF RF BF HP HR HB HV HP5 HR5 HB5 c0 c1
          refine wp_region_quiet_below mixed (by kernel_rfl) ?_
          repeat (first | go_big_quiet_step ((first | exact unhide (X1 _ _) | exact unhide (X2 _ _) | exact unhide (X3 _ _))) | quiet_step ((first | exact unhide (X1 _ _) | exact unhide (X2 _ _) | exact unhide (X3 _ _))))
          refine wpQuiet_nil ?_
          intro _ hw'
          obtain ⟨⟨dq, osq⟩, hw''⟩ := hw'
          subst hw''
          go_wp2
          exact ⟨⟨k + 1, _, _, by go_num, by omega, PG _ _, RG _ _, BG _ _⟩, by simp [intOf]; omega⟩
        · have t1 := fun (o : Obj) => hide (intP _ l e _ (HP5 o).out hl)
          have t2 := fun (W : World) (h : RS W w3.heap.size s l e) => hide (intR _ s l e W h hz)
          generalize intO l e = T at *
          obtain ⟨V, l', e'⟩ := T
          dsimp only at t1 t2
          go_wp2_with fail
          refine (unhide (t1 _)).mono ?_
          rintro r w6 ⟨rfl, p6, g6⟩
          have P6 := hide p6
          have R6 := hide ((HR5 _).out.keep g6 (by omega))
          have B6 := hide (below_row (HB5 _).out g6 s1)
          clear p6 g6 t1
          go_wp2_with fail
          refine (unhide (t2 _ R6.out)).mono ?_
          rintro r w7 ⟨rfl, r7, g7⟩
          have PF := hide (P6.out.keep g7 (by omega))
          have RF := hide r7
          have BF := hide (below_row B6.out g7 (by omega))
          clear r7 g7 t2 P6 R6 B6
          go_wp2
          have hl' := Nat.le_trans RF.out.len hz
          have X1 := fun (d : Nat) (os : Array Obj) => hide (Calls.regrown_of (leftP _ _ _ (Sort.grow (redrawn w7 d) os) (PF.out.on (below_regrown w7 d os)) hl'))
          have X2 := fun (d : Nat) (os : Array Obj) => hide (Calls.regrown_of (leftR _ _ _ _ (Sort.grow (redrawn w7 d) os) (RF.out.on (below_regrown w7 d os)) hz))
          have X3 := fun (d : Nat) (os : Array Obj) => hide (Calls.regrown_of (errP _ _ _ (Sort.grow (redrawn w7 d) os) (PF.out.on (below_regrown w7 d os))))
          have q2 := cell_regrown RF.out.err
          have PG := fun (d : Nat) (os : Array Obj) => hide (PF.out.on (below_regrown w7 d os))
          have RG := fun (d : Nat) (os : Array Obj) => hide (RF.out.on (below_regrown w7 d os))
          have BG := fun (d : Nat) (os : Array Obj) => hide (BF.out.trans ((below_regrown w7 d os).mono BF.out.size))
          clear PF RF BF HP HR HB HV HP5 HR5 HB5 c0 c1
          refine wp_region_quiet_below mixed (by kernel_rfl) ?_
          repeat (first | go_big_quiet_step ((first | exact unhide (X1 _ _) | exact unhide (X2 _ _) | exact unhide (X3 _ _))) | quiet_step ((first | exact unhide (X1 _ _) | exact unhide (X2 _ _) | exact unhide (X3 _ _))))
          refine wpQuiet_nil ?_
          intro _ hw'
          obtain ⟨⟨dq, osq⟩, hw''⟩ := hw'
          subst hw''
          go_wp2
          exact ⟨⟨k + 1, _, _, by go_num, by omega, PG _ _, RG _ _, BG _ _⟩, by simp [intOf]; omega⟩
        · have nb1 : w2.heap.size < wr.heap.size := lt_heap HP.out.1
          have nb2 : w3.heap.size < wr.heap.size := by
            obtain ⟨_, _, hrd, _⟩ := HR.out
            exact lt_heap hrd
          have oc5 : (wr.alloc (Obj.cells #[Value.int IntKind.i64 4, Value.int IntKind.i64 m] 36)).cell? ⟨wr.heap.size, 1, none⟩ = some (.int .i64 m) := by rw [cell_heap (heap_new wr _)]; rfl
          have sz5 : (wr.alloc (Obj.cells #[Value.int IntKind.i64 4, Value.int IntKind.i64 m] 36)).heap.size = wr.heap.size + 1 := by show (wr.heap.push _).size = _; simp
          have P5 := HP5 (Obj.cells #[Value.int IntKind.i64 4, Value.int IntKind.i64 m] 36)
          have R5 := HR5 (Obj.cells #[Value.int IntKind.i64 4, Value.int IntKind.i64 m] 36)
          have B5 := HB5 (Obj.cells #[Value.int IntKind.i64 4, Value.int IntKind.i64 m] 36)
          have t1 := fun (W : World) (h : PS W w2.heap.size l e) => (strP _ m l e W h hl m0 m1)
          have t2 := fun (W : World) (h : RS W w3.heap.size s l e) => (strR _ m s l e W h hz m0 m1)
          generalize strO m l e = T at *
          obtain ⟨V, l', e'⟩ := T
          dsimp only at t1 t2
          have T1 := fun (W : World) (h : PS W w2.heap.size l e) => hide (t1 W h)
          have T2 := fun (W : World) (h : RS W w3.heap.size s l e) => hide (t2 W h)
          clear t1 t2
          go_wp2
          generalize wr.alloc (Obj.cells #[Value.int IntKind.i64 4, Value.int IntKind.i64 m] 36) = w5 at *
          clear HP5 HR5 HB5
          go_region_held3 (fun w' => w'.cell? ⟨wr.heap.size, 1, none⟩ = some (.int .i64 m)) (first | go_keep | assumption)
            ((first
              | (go_at_call 24; refine (unhide (T1 _ ?_)).mono ?_; exact P5.out; rintro r w6 ⟨rfl, p6, g6'⟩; have g6 : w5.grownBy w6 (some w2.heap.size) := ⟨g6'.os, g6'.tape, g6'.output, g6'.size, g6'.block⟩; have z6 := g6.size; have o6 := (grown_cell g6 (c := wr.heap.size) (by omega) (by omega) 1).trans oc5; have P6 := hide p6; have R6 := hide (R5.out.keep g6 (by omega)); have B6 := hide (below_row B5.out g6 s1); clear p6 g6 g6')
              | (go_at_call 25; refine (unhide (T2 _ ?_)).mono ?_; exact R6.out; rintro r w7 ⟨rfl, p7, g7'⟩; have g7 : w6.grownBy w7 (some w3.heap.size) := ⟨g7'.os, g7'.tape, g7'.output, g7'.size, g7'.block⟩; have o7 := (grown_cell g7 (c := wr.heap.size) (by omega) (by omega) 1).trans o6; have PF := hide (P6.out.keep g7 (by omega)); have RF := hide p7; have BF := hide (below_row B6.out g7 (by omega)); clear p7 g7 g7')))
          clear o7 o6 P6 R6 B6 P5 R5 B5 oc5 sz5 T1 T2
          go_wp2
          have hl' := Nat.le_trans RF.out.len hz
          have X1 := fun (d : Nat) (os : Array Obj) => hide (Calls.regrown_of (leftP _ _ _ (Sort.grow (redrawn w7 d) os) (PF.out.on (below_regrown w7 d os)) hl'))
          have X2 := fun (d : Nat) (os : Array Obj) => hide (Calls.regrown_of (leftR _ _ _ _ (Sort.grow (redrawn w7 d) os) (RF.out.on (below_regrown w7 d os)) hz))
          have X3 := fun (d : Nat) (os : Array Obj) => hide (Calls.regrown_of (errP _ _ _ (Sort.grow (redrawn w7 d) os) (PF.out.on (below_regrown w7 d os))))
          have q2 := cell_regrown RF.out.err
          have PG := fun (d : Nat) (os : Array Obj) => hide (PF.out.on (below_regrown w7 d os))
          have RG := fun (d : Nat) (os : Array Obj) => hide (RF.out.on (below_regrown w7 d os))
          have BG := fun (d : Nat) (os : Array Obj) => hide (BF.out.trans ((below_regrown w7 d os).mono BF.out.size))
          clear PF RF BF HP HR HB HV c0 c1
          refine wp_region_quiet_below mixed (by kernel_rfl) ?_
          repeat (first | go_big_quiet_step ((first | exact unhide (X1 _ _) | exact unhide (X2 _ _) | exact unhide (X3 _ _))) | quiet_step ((first | exact unhide (X1 _ _) | exact unhide (X2 _ _) | exact unhide (X3 _ _))))
          refine wpQuiet_nil ?_
          intro _ hw'
          obtain ⟨⟨dq, osq⟩, hw''⟩ := hw'
          subst hw''
          go_wp2
          exact ⟨⟨k + 1, _, _, by go_num, by omega, PG _ _, RG _ _, BG _ _⟩, by simp [intOf]; omega⟩
        · have nb1 : w2.heap.size < wr.heap.size := lt_heap HP.out.1
          have t1 := fun (o : Obj) => hide (failP _ m l e _ (HP5 o).out)
          have oc5 : ∀ cs t, cs[1]? = some (.int .i64 m) → (wr.alloc (Obj.cells cs t)).cell? ⟨wr.heap.size, 1, none⟩ = some (.int .i64 m) := fun cs t h => by rw [cell_heap (heap_new wr _)]; exact h
          have OC5 := hide oc5
          clear oc5
          by_cases mz : m = 0
          · have t3 : failO m l e = (l, e) := by
              unfold failO
              by_cases he : e = 0
              · rw [if_pos he, if_pos mz, he]
              · rw [if_neg he, HP.out.2 he]
            rw [t3] at t1
            have mb : (m != 0) = false := by rw [mz]; rfl
            have mb2 : (m == 0) = true := by rw [mz]; rfl
            clear mz t3
            go_wp2_with fail
            refine (unhide (t1 _)).mono ?_
            rintro r w6 ⟨⟨v6, rfl⟩, p6, g6⟩
            have PF := hide p6
            have RF := hide ((HR5 _).out.keep g6 (by omega))
            have BF := hide (below_row (HB5 _).out g6 s1)
            have oc : w6.cell? ⟨wr.heap.size, 1, none⟩ = some (.int .i64 m) := (grown_cell g6 (c := wr.heap.size) (by simp) (by omega) 1).trans (OC5.out _ _ rfl)
            clear p6 g6 t1
            go_wp2
            have hl' := Nat.le_trans RF.out.len hz
            have X1 := fun (d : Nat) (os : Array Obj) => hide (Calls.regrown_of (leftP _ _ _ (Sort.grow (redrawn w6 d) os) (PF.out.on (below_regrown w6 d os)) hl'))
            have X2 := fun (d : Nat) (os : Array Obj) => hide (Calls.regrown_of (leftR _ _ _ _ (Sort.grow (redrawn w6 d) os) (RF.out.on (below_regrown w6 d os)) hz))
            have X3 := fun (d : Nat) (os : Array Obj) => hide (Calls.regrown_of (errP _ _ _ (Sort.grow (redrawn w6 d) os) (PF.out.on (below_regrown w6 d os))))
            have q2 := cell_regrown RF.out.err
            have PG := fun (d : Nat) (os : Array Obj) => hide (PF.out.on (below_regrown w6 d os))
            have RG := fun (d : Nat) (os : Array Obj) => hide (RF.out.on (below_regrown w6 d os))
            have BG := fun (d : Nat) (os : Array Obj) => hide (BF.out.trans ((below_regrown w6 d os).mono BF.out.size))
            clear PF RF BF HP HR HB HV HP5 HR5 HB5 c0 c1
            refine wp_region_quiet_below mixed (by kernel_rfl) ?_
            repeat (first | go_big_quiet_step ((first | exact unhide (X1 _ _) | exact unhide (X2 _ _) | exact unhide (X3 _ _))) | quiet_step ((first | exact unhide (X1 _ _) | exact unhide (X2 _ _) | exact unhide (X3 _ _))))
            refine wpQuiet_nil ?_
            intro _ hw'
            obtain ⟨⟨dq, osq⟩, hw''⟩ := hw'
            subst hw''
            go_wp2
            exact ⟨⟨k + 1, _, _, by go_num, by omega, PG _ _, RG _ _, BG _ _⟩, by simp [intOf]; omega⟩
          · have mb : (m != 0) = true := by rw [bne_iff_ne]; exact mz
            have mb2 : (m == 0) = false := beq_eq_false_iff_ne.2 mz
            have t2 := fun (W : World) (h : RS W w3.heap.size s l e) => hide (stopR _ m s l e W h mz)
            clear mz
            generalize failO m l e = T at *
            obtain ⟨l', e'⟩ := T
            dsimp only at t1 t2
            go_wp2_with fail
            refine (unhide (t1 _)).mono ?_
            rintro r w6 ⟨⟨v6, rfl⟩, p6, g6⟩
            have P6 := hide p6
            have R6 := hide ((HR5 _).out.keep g6 (by omega))
            have B6 := hide (below_row (HB5 _).out g6 s1)
            have oc : w6.cell? ⟨wr.heap.size, 1, none⟩ = some (.int .i64 m) := (grown_cell g6 (c := wr.heap.size) (by simp) (by omega) 1).trans (OC5.out _ _ rfl)
            clear p6 g6 t1
            go_wp2_with fail
            refine (unhide (t2 _ R6.out)).mono ?_
            rintro r w7 ⟨rfl, r7, g7⟩
            have PF := hide (P6.out.keep g7 (by omega))
            have RF := hide r7
            have BF := hide (below_row B6.out g7 (by omega))
            clear r7 g7 t2 P6 R6 B6 oc
            go_wp2
            have hl' := Nat.le_trans RF.out.len hz
            have X1 := fun (d : Nat) (os : Array Obj) => hide (Calls.regrown_of (leftP _ _ _ (Sort.grow (redrawn w7 d) os) (PF.out.on (below_regrown w7 d os)) hl'))
            have X2 := fun (d : Nat) (os : Array Obj) => hide (Calls.regrown_of (leftR _ _ _ _ (Sort.grow (redrawn w7 d) os) (RF.out.on (below_regrown w7 d os)) hz))
            have X3 := fun (d : Nat) (os : Array Obj) => hide (Calls.regrown_of (errP _ _ _ (Sort.grow (redrawn w7 d) os) (PF.out.on (below_regrown w7 d os))))
            have q2 := cell_regrown RF.out.err
            have PG := fun (d : Nat) (os : Array Obj) => hide (PF.out.on (below_regrown w7 d os))
            have RG := fun (d : Nat) (os : Array Obj) => hide (RF.out.on (below_regrown w7 d os))
            have BG := fun (d : Nat) (os : Array Obj) => hide (BF.out.trans ((below_regrown w7 d os).mono BF.out.size))
            clear PF RF BF HP HR HB HV HP5 HR5 HB5 c0 c1
            refine wp_region_quiet_below mixed (by kernel_rfl) ?_
            repeat (first | go_big_quiet_step ((first | exact unhide (X1 _ _) | exact unhide (X2 _ _) | exact unhide (X3 _ _))) | quiet_step ((first | exact unhide (X1 _ _) | exact unhide (X2 _ _) | exact unhide (X3 _ _))))
            refine wpQuiet_nil ?_
            intro _ hw'
            obtain ⟨⟨dq, osq⟩, hw''⟩ := hw'
            subst hw''
            go_wp2
            exact ⟨⟨k + 1, _, _, by go_num, by omega, PG _ _, RG _ _, BG _ _⟩, by simp [intOf]; omega⟩
        · have PF := HP5 (Obj.cells #[Value.int IntKind.i64 kd, Value.int IntKind.i64 m] 36)
          have RF := HR5 (Obj.cells #[Value.int IntKind.i64 kd, Value.int IntKind.i64 m] 36)
          have BF := HB5 (Obj.cells #[Value.int IntKind.i64 kd, Value.int IntKind.i64 m] 36)
          go_wp2
          clear HP5 HR5 HB5
          generalize wr.alloc (Obj.cells #[Value.int IntKind.i64 kd, Value.int IntKind.i64 m] 36) = w7 at *
          have hl' := Nat.le_trans RF.out.len hz
          have X1 := fun (d : Nat) (os : Array Obj) => hide (Calls.regrown_of (leftP _ _ _ (Sort.grow (redrawn w7 d) os) (PF.out.on (below_regrown w7 d os)) hl'))
          have X2 := fun (d : Nat) (os : Array Obj) => hide (Calls.regrown_of (leftR _ _ _ _ (Sort.grow (redrawn w7 d) os) (RF.out.on (below_regrown w7 d os)) hz))
          have X3 := fun (d : Nat) (os : Array Obj) => hide (Calls.regrown_of (errP _ _ _ (Sort.grow (redrawn w7 d) os) (PF.out.on (below_regrown w7 d os))))
          have q2 := cell_regrown RF.out.err
          have PG := fun (d : Nat) (os : Array Obj) => hide (PF.out.on (below_regrown w7 d os))
          have RG := fun (d : Nat) (os : Array Obj) => hide (RF.out.on (below_regrown w7 d os))
          have BG := fun (d : Nat) (os : Array Obj) => hide (BF.out.trans ((below_regrown w7 d os).mono BF.out.size))
          clear PF RF BF HP HR HB HV c0 c1
          refine wp_region_quiet_below mixed (by kernel_rfl) ?_
          repeat (first | go_big_quiet_step ((first | exact unhide (X1 _ _) | exact unhide (X2 _ _) | exact unhide (X3 _ _))) | quiet_step ((first | exact unhide (X1 _ _) | exact unhide (X2 _ _) | exact unhide (X3 _ _))))
          refine wpQuiet_nil ?_
          intro _ hw'
          obtain ⟨⟨dq, osq⟩, hw''⟩ := hw'
          subst hw''
          go_wp2
          exact ⟨⟨k + 1, _, _, by go_num, by omega, PG _ _, RG _ _, BG _ _⟩, by simp [intOf]; omega⟩
      · have hge : (n : Int) ≤ (k : Int) := by omega
        go_wp2
        go_ret
        exact ⟨rfl, HB.out⟩
  · have HL := fun W => hide (long_yes s a n cap W hs' hn big)
    clear big
    go_enter Try.func4, Try.ntmps4
    go_wp2_with fail
    refine (awake_any _).mono ?_
    rintro r w1 ⟨rfl, b1⟩
    go_wp2_with fail
    refine (unhide (HL _)).mono ?_
    rintro r w2 ⟨rfl, rfl⟩
    go_wp2_with fail
    refine (awake_any _).mono ?_
    rintro r w2 ⟨rfl, b2⟩
    have c2 := hide (b1.trans (b2.mono b1.size))
    clear b1 b2
    go_wp2
    go_ret
    exact ⟨rfl, c2.out⟩
end Go.Proofs.Ytbiahajpmnfhbaa
