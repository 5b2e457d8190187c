/-
  The program's set: slices.BinarySearch of strings; hasString.
-/
import Derived.Test.YtoplmioejebnnaaTA1
set_option linter.unusedSimpArgs false
set_option linter.unusedVariables false
namespace Go.Proofs.Ytoplmioejebnnaa
open Go.RowKit

set_option maxHeartbeats 400000 in
theorem nanC_any (s : ByteArray) (w : World) : Calls Try.prog 76 #[.string s] w fun e w' => e = .returned (.bool false) ∧ w' = w := by
  have h : (s.toList != s.toList) = false := by simp
  go_enter Try.func76, Try.ntmps76
  go_wp2
  go_ret
  exact ⟨ret_bool (by simp), rfl⟩
set_option maxHeartbeats 400000 in
theorem nanS_any (s : ByteArray) (w : World) : Calls Try.prog 75 #[.string s] w fun e w' => e = .returned (.bool false) ∧ w' = w := by
  have h : (s.toList != s.toList) = false := by simp
  go_enter Try.func75, Try.ntmps75
  go_wp2
  go_ret
  exact ⟨ret_bool (by simp), rfl⟩
set_option maxHeartbeats 400000 in
theorem lessC_any (a b : ByteArray) (w : World) : Calls Try.prog 74 #[.string a, .string b] w fun e w' => e = .returned (.bool (Op.bytesLess a.toList b.toList)) ∧ w' = w := by
  have X := hide (nanC_any a w)
  go_enter Try.func74, Try.ntmps74
  go_wp2_with fail
  refine (unhide X).mono ?_
  rintro r w1 ⟨rfl, rfl⟩
  go_wp2
  go_ret
  exact ⟨rfl, rfl⟩
theorem risesS_at : ∀ (l : List St) (i j : Nat), risesS l → i < j → j < l.length → Op.bytesLess (l.getD i []) (l.getD j []) = true
  | [], i, j, _, _, h => by simp at h
  | a :: l, 0, 0, _, h, _ => by omega
  | a :: l, 0, j + 1, h, _, hj => by
    have hj' : j < l.length := by simpa using hj
    simp only [List.getD_cons_zero, List.getD_cons_succ]
    refine h.1 _ ?_
    rw [List.getD_eq_getElem?_getD, List.getElem?_eq_getElem hj']
    exact List.getElem_mem _
  | a :: l, i + 1, 0, _, h, _ => by omega
  | a :: l, i + 1, j + 1, h, hij, hj => by
    simp only [List.getD_cons_succ]
    exact risesS_at l i j h.2 (by omega) (by simpa using hj)
theorem getD_map_toList (l : List ByteArray) (i : Nat) (hi : i < l.length) : (l.map fun b => b.toList).getD i [] = (l.getD i ⟨#[]⟩).toList := by
  simp [List.getD_eq_getElem?_getD, hi]
/-- Where the search has come to. -/
structure Sought (l : List ByteArray) (s : ByteArray) (i j : Nat) : Prop where
  le : i ≤ j
  top : j ≤ l.length
  low : ∀ k, k < i → Op.bytesLess (l.getD k ⟨#[]⟩).toList s.toList = true
  high : ∀ k, j ≤ k → k < l.length → Op.bytesLess (l.getD k ⟨#[]⟩).toList s.toList = false
theorem sought_start (l : List ByteArray) (s : ByteArray) : Sought l s 0 l.length := ⟨Nat.zero_le _, Nat.le_refl _, fun k h => by omega, fun k h1 h2 => by omega⟩
theorem rises_lt {l : List ByteArray} (h : risesS (l.map fun b => b.toList)) {i j : Nat} (hij : i < j) (hj : j < l.length) : Op.bytesLess (l.getD i ⟨#[]⟩).toList (l.getD j ⟨#[]⟩).toList = true := by
  have := risesS_at _ i j h hij (by simpa using hj)
  rwa [getD_map_toList l i (by omega), getD_map_toList l j hj] at this
theorem sought_low {l : List ByteArray} {s : ByteArray} {i j h : Nat} (hr : risesS (l.map fun b => b.toList)) (hS : Sought l s i j) (h1 : i ≤ h) (h2 : h < j) (hl : Op.bytesLess (l.getD h ⟨#[]⟩).toList s.toList = true) : Sought l s (h + 1) j := by
  refine ⟨by omega, hS.top, fun k hk => ?_, hS.high⟩
  by_cases e : k = h
  · rw [e]; exact hl
  · exact lessB_trans _ _ _ (rises_lt hr (show k < h by omega) (by have := hS.top; omega)) hl
theorem sought_high {l : List ByteArray} {s : ByteArray} {i j h : Nat} (hr : risesS (l.map fun b => b.toList)) (hS : Sought l s i j) (h1 : i ≤ h) (h2 : h < j) (hl : Op.bytesLess (l.getD h ⟨#[]⟩).toList s.toList = false) : Sought l s i h := by
  refine ⟨h1, by have := hS.top; omega, hS.low, fun k hk1 hk2 => ?_⟩
  by_cases e : k = h
  · rw [e]; exact hl
  · cases hx : Op.bytesLess (l.getD k ⟨#[]⟩).toList s.toList
    · rfl
    · have := lessB_trans _ _ _ (rises_lt hr (show h < k by omega) hk2) hx
      rw [hl] at this
      cases this
theorem sought_end {l : List ByteArray} {s : ByteArray} {i : Nat} (hr : risesS (l.map fun b => b.toList)) (hS : Sought l s i i) : inStrsB l s = (decide (i < l.length) && ((l.getD i ⟨#[]⟩).toList == s.toList)) := by
  apply bool_of_iff
  rw [inStrs_iff, Bool.and_eq_true, decide_eq_true_iff, bytes_eq]
  constructor
  · intro hm
    obtain ⟨k, hk, e⟩ := List.getElem_of_mem hm
    have e' : l.getD k ⟨#[]⟩ = s := by rw [List.getD_eq_getElem?_getD, List.getElem?_eq_getElem hk]; exact e
    have h1 : i ≤ k := Classical.byContradiction fun hn => by
      have := hS.low k (by omega)
      rw [e', lessB_irrefl] at this
      cases this
    have h2 : ¬ i < k := fun hn => by
      have h3 := rises_lt hr hn hk
      rw [e', hS.high i (Nat.le_refl _) (by omega)] at h3
      cases h3
    have : i = k := by omega
    subst this
    exact ⟨hk, e'⟩
  · rintro ⟨h1, h2⟩
    rw [← h2, List.getD_eq_getElem?_getD, List.getElem?_eq_getElem h1]
    exact List.getElem_mem _

set_option maxHeartbeats 2000000 in
set_option maxRecDepth 100000 in
theorem search_any (v : Value) (l : List ByteArray) (s : ByteArray) (w : World) (hv : StrsAt w v l) (hr : risesS (l.map fun b => b.toList)) (hn : l.length ≤ 100000) :
    Calls Try.prog 73 #[v, .string s] w fun r w' => (∃ i, r = .returned (.tuple #[.int .i64 i, .bool (inStrsB l s)])) ∧ w' = w := by
  have HV := hide hv
  have HR := hide hr
  have hlen := hv.2.1
  obtain ⟨a, cap, rfl⟩ := hv.form
  clear hv hr
  have HS0 := hide (sought_start l s)
  obtain ⟨N, hN⟩ : ∃ N : Nat, N = l.length := ⟨_, rfl⟩
  rw [← hN] at hlen hn HV HS0 ⊢
  have HN := hide hN
  clear hN
  have LS := fun (a : ByteArray) => hide (lessC_any a s w)
  have NS := fun (a : ByteArray) => hide (nanS_any a w)
  go_enter Try.func73, Try.ntmps73
  go_wp2
  go_loopw [7, 8] (fun iv jv wr => ∃ (i j : Nat), iv = .int .i64 i ∧ jv = .int .i64 j ∧ i ≤ j ∧ j ≤ N ∧ wr = w ∧ Hid (Sought l s i j)) (fun iv jv _ => (intOf jv).toNat - (intOf iv).toNat)
  case atStart => exact ⟨0, N, rfl, rfl, by omega, by omega, rfl, HS0⟩
  case round =>
    obtain ⟨i, j, rfl, rfl, hij, hj, rfl, HS⟩ := hrel
    by_cases hlt : i < j
    · have hw1 : IntKind.i64.wrap ((i : Int) + (j : Int)) = (i : Int) + (j : Int) := by rw [IntKind.wrap_i64]; omega
      obtain ⟨b, off, ha, hb, c0⟩ := HV.out.at.2 ((i + j) / 2) (by rw [← HN.out]; omega)
      subst ha
      have SL := hide (fun h => sought_low HR.out HS.out (h := (i + j) / 2) (by omega) (by omega) h)
      have SH := hide (fun h => sought_high HR.out HS.out (h := (i + j) / 2) (by omega) (by omega) h)
      generalize l.getD ((i + j) / 2) ⟨#[]⟩ = q at c0 SL SH
      have X := LS q
      clear LS NS HS0 HS
      cases hq : Op.bytesLess q.toList s.toList
      · rw [hq] at X
        go_wp2_with fail
        refine (unhide X).mono ?_
        rintro r w2 ⟨rfl, rfl⟩
        go_wp2
        exact ⟨⟨i, (i + j) / 2, rfl, by simp, by omega, by omega, trivial, hide (SH.out hq)⟩, by simp [intOf]; omega⟩
      · rw [hq] at X
        go_wp2_with fail
        refine (unhide X).mono ?_
        rintro r w2 ⟨rfl, rfl⟩
        go_wp2
        exact ⟨⟨(i + j) / 2 + 1, j, by simp, rfl, by omega, by omega, trivial, hide (SL.out hq)⟩, by simp [intOf]; omega⟩
    · have hij' : i = j := by omega
      subst hij'
      have E := hide (sought_end HR.out HS.out)
      rw [← HN.out] at E
      clear LS HS0 HS hlt hij
      by_cases hiN : i < N
      · obtain ⟨b, off, ha, hb, c0⟩ := HV.out.at.2 i (by rw [← HN.out]; omega)
        subst ha
        generalize l.getD i ⟨#[]⟩ = q at c0 E
        have X := NS q
        cases hq : (q.toList == s.toList)
        · have E1 : Hid (inStrsB l s = false) := hide (by rw [E.out, hq]; simp)
          go_wp2_with fail
          refine (unhide X).mono ?_
          rintro r w2 ⟨rfl, rfl⟩
          go_wp2
          go_ret2
          exact ⟨⟨i, by rw [E1.out]; rfl⟩, rfl⟩
        · have E1 : Hid (inStrsB l s = true) := hide (by rw [E.out, hq, decide_eq_true hiN]; rfl)
          go_wp2
          go_ret2
          exact ⟨⟨i, by rw [E1.out]; rfl⟩, rfl⟩
      · have E1 : Hid (inStrsB l s = false) := hide (by rw [E.out, decide_eq_false hiN]; rfl)
        have hge : (N : Int) ≤ (i : Int) := by omega
        go_wp2
        go_ret2
        exact ⟨⟨i, by rw [E1.out]; rfl⟩, rfl⟩

set_option maxHeartbeats 400000 in
theorem hasString_any (v : Value) (l : List ByteArray) (s : ByteArray) (w : World) (hv : StrsAt w v l) (hr : risesS (l.map fun b => b.toList)) (hn : l.length ≤ 100000) :
    Calls Try.prog 68 #[v, .string s] w fun r w' => r = .returned (.bool (inStrsB l s)) ∧ w' = w := by
  have X := hide (search_any v l s w hv hr hn)
  obtain ⟨a, cap, rfl⟩ := hv.form
  clear hv hr hn
  generalize inStrsB l s = IB at *
  generalize l.length = N at *
  go_enter Try.func68, Try.ntmps68
  go_wp2_with fail
  refine (unhide X).mono ?_
  rintro r w1 ⟨⟨i, rfl⟩, rfl⟩
  go_wp2
  go_ret
  exact ⟨rfl, rfl⟩
end Go.Proofs.Ytoplmioejebnnaa
