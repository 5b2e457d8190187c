/-
  Both readers, the program's and the second reference's, by one and the same function of what is left and of the error.
-/
import Derived.Test.YtbiahajpmnfhbaaKO
import Derived.Test.YtbiahajpmnfhbaaKS
set_option linter.unusedSimpArgs false
set_option linter.unusedVariables false
namespace Go.Proofs.Ytbiahajpmnfhbaa
open Go.RowKit

/-- The program's reader: what is left, and the error. -/
def PS (w : World) (b : Nat) (l : List UInt8) (e : Int) : Prop := Pd w b ⟨l.toArray⟩ e ∧ (e ≠ 0 → l = [])
/-- The reference's. -/
def RS (w : World) (b : Nat) (s : ByteArray) (l : List UInt8) (e : Int) : Prop := ∃ k : Nat, k ≤ s.size ∧ Rd w b s k e ∧ (e = 0 → l = s.data.toList.drop k) ∧ (e ≠ 0 → l = [])
theorem PS.on {w w' : World} {b : Nat} {l : List UInt8} {e : Int} (h : PS w b l e) (hb : Below w.heap.size w w') : PS w' b l e := ⟨h.1.on hb, h.2⟩
theorem PS.keep {w w' : World} {b c : Nat} {l : List UInt8} {e : Int} (h : PS w b l e) (hg : w.grownBy w' (some c)) (hne : b ≠ c) : PS w' b l e := ⟨h.1.keep hg hne, h.2⟩
theorem RS.on {w w' : World} {b : Nat} {s : ByteArray} {l : List UInt8} {e : Int} (h : RS w b s l e) (hb : Below w.heap.size w w') : RS w' b s l e := by
  obtain ⟨k, h1, h2, h3⟩ := h
  exact ⟨k, h1, h2.on hb, h3⟩
theorem RS.keep {w w' : World} {b c : Nat} {s : ByteArray} {l : List UInt8} {e : Int} (h : RS w b s l e) (hg : w.grownBy w' (some c)) (hne : b ≠ c) : RS w' b s l e := by
  obtain ⟨k, h1, h2, h3⟩ := h
  exact ⟨k, h1, (hg.block b (lt_heap h2) (by simp [hne])).trans h2, h3⟩
theorem RS.len {w : World} {b : Nat} {s : ByteArray} {l : List UInt8} {e : Int} (h : RS w b s l e) : l.length ≤ s.size := by
  obtain ⟨k, h1, h2, h3, h4⟩ := h
  by_cases he : e = 0
  · rw [h3 he, List.length_drop, ← Lib.size_eq]; omega
  · rw [h4 he]; simp

/-- What each call answers, what is left behind it, and the error. -/
def byteO (l : List UInt8) (e : Int) : Int × List UInt8 × Int := if e = 0 then (match l with | [] => (0, [], 3) | c :: t => ((c.toNat : Int), t, 0)) else (0, [], e)
def uintO (l : List UInt8) (e : Int) : Int × List UInt8 × Int := if e = 0 then (((decL true 0 l).n : Int), (decL true 0 l).rest, ((decL true 0 l).err : Int)) else (0, [], e)
def intO (l : List UInt8) (e : Int) : Int × List UInt8 × Int := if e = 0 then (unzz (decL true 0 l).n, (decL true 0 l).rest, ((decL true 0 l).err : Int)) else (0, [], e)
def strO (most : Int) (l : List UInt8) (e : Int) : List UInt8 × List UInt8 × Int := if e = 0 then ((strL most l).out, (strL most l).rest, ((strL most l).err : Int)) else ([], [], e)
def failO (c : Int) (l : List UInt8) (e : Int) : List UInt8 × Int := if e = 0 then (if c = 0 then (l, 0) else ([], c)) else ([], e)

theorem grown_below0 {w w' : World} {b : Nat} (h : Below w.heap.size w w') : w.grownBy w' (some b) := grown_below (grown_refl _ _) h
theorem below_refl (w : World) : Below w.heap.size w w := Below.refl _ _
theorem dec_err (l : List UInt8) : ((decL true 0 l).err : Int) ≠ 0 → (decL true 0 l).rest = [] := fun h => (dec_err_rest l true 0 (by omega)).2
theorem str_err (most : Int) (l : List UInt8) : ((strL most l).err : Int) ≠ 0 → (strL most l).rest = [] := by
  unfold strL
  split
  · intro _; rfl
  · split
    · intro _; rfl
    · split
      · intro _; rfl
      · intro h; exact absurd rfl h

/-! ### The program's -/
theorem byteP (b : Nat) (l : List UInt8) (e : Int) (w : World) (h : PS w b l e) (hz : l.length ≤ 1048576) :
    Calls Try.prog 18 #[.pointer (some ⟨b, 0, none⟩)] w fun r w' => r = .returned (.int .u8 (byteO l e).1) ∧ PS w' b (byteO l e).2.1 (byteO l e).2.2 ∧ w.grownBy w' (some b) := by
  obtain ⟨h, hi⟩ := h
  unfold byteO
  by_cases he : e = 0
  · subst he
    cases l with
    | nil =>
      refine (byte_end b w h).mono ?_
      rintro r w' ⟨rfl, hp, hg⟩
      exact ⟨rfl, ⟨hp, fun _ => rfl⟩, hg⟩
    | cons c t =>
      refine (byte_cons b c t 0 w h hz).mono ?_
      rintro r w' ⟨rfl, hp, hg⟩
      exact ⟨rfl, ⟨hp, fun h => absurd rfl h⟩, hg⟩
  · obtain rfl := hi he
    rw [if_neg he]
    refine (byte_off b e w h he).mono ?_
    rintro r w' ⟨rfl, rfl⟩
    exact ⟨rfl, ⟨h, fun _ => rfl⟩, grown_refl _ _⟩
theorem uintP (b : Nat) (l : List UInt8) (e : Int) (w : World) (h : PS w b l e) (hz : l.length ≤ 1048576) :
    Calls Try.prog 20 #[.pointer (some ⟨b, 0, none⟩)] w fun r w' => r = .returned (.int .u64 (uintO l e).1) ∧ PS w' b (uintO l e).2.1 (uintO l e).2.2 ∧ w.grownBy w' (some b) := by
  obtain ⟨h, hi⟩ := h
  unfold uintO
  by_cases he : e = 0
  · subst he
    rw [if_pos rfl]
    refine (uintR_ok b l w h hz).mono ?_
    rintro r w' ⟨rfl, _, hp, hg⟩
    exact ⟨rfl, ⟨hp, dec_err l⟩, hg⟩
  · obtain rfl := hi he
    rw [if_neg he]
    refine (uintR_off b e w h he).mono ?_
    rintro r w' ⟨rfl, rfl⟩
    exact ⟨rfl, ⟨h, fun _ => rfl⟩, grown_refl _ _⟩
theorem intP (b : Nat) (l : List UInt8) (e : Int) (w : World) (h : PS w b l e) (hz : l.length ≤ 1048576) :
    Calls Try.prog 22 #[.pointer (some ⟨b, 0, none⟩)] w fun r w' => r = .returned (.int .i64 (intO l e).1) ∧ PS w' b (intO l e).2.1 (intO l e).2.2 ∧ w.grownBy w' (some b) := by
  obtain ⟨h, hi⟩ := h
  unfold intO
  by_cases he : e = 0
  · subst he
    rw [if_pos rfl]
    refine (intR_ok b l w h hz).mono ?_
    rintro r w' ⟨rfl, hp, hg⟩
    exact ⟨rfl, ⟨hp, dec_err l⟩, hg⟩
  · obtain rfl := hi he
    rw [if_neg he]
    refine (intR_off b e w h he).mono ?_
    rintro r w' ⟨rfl, rfl⟩
    exact ⟨rfl, ⟨h, fun _ => rfl⟩, grown_refl _ _⟩
theorem strP (b : Nat) (most : Int) (l : List UInt8) (e : Int) (w : World) (h : PS w b l e) (hz : l.length ≤ 1048576) (m0 : -9223372036854775808 ≤ most) (m1 : most ≤ 9223372036854775807) :
    Calls Try.prog 24 #[.pointer (some ⟨b, 0, none⟩), .int .i64 most] w fun r w' => r = .returned (.string ⟨(strO most l e).1.toArray⟩) ∧ PS w' b (strO most l e).2.1 (strO most l e).2.2 ∧ w.grownBy w' (some b) := by
  obtain ⟨h, hi⟩ := h
  unfold strO
  by_cases he : e = 0
  · subst he
    rw [if_pos rfl]
    refine (strR_ok b l most w h hz m0 m1).mono ?_
    rintro r w' ⟨rfl, hp, hg⟩
    exact ⟨rfl, ⟨hp, str_err most l⟩, hg⟩
  · obtain rfl := hi he
    rw [if_neg he]
    refine (strR_off b e most w h he m0 m1).mono ?_
    rintro r w' ⟨rfl, rfl⟩
    exact ⟨rfl, ⟨h, fun _ => rfl⟩, grown_refl _ _⟩
theorem failP (b : Nat) (c : Int) (l : List UInt8) (e : Int) (w : World) (h : PS w b l e) :
    Calls Try.prog 26 #[.pointer (some ⟨b, 0, none⟩), .int .i64 c] w fun r w' => (∃ v, r = .returned v) ∧ PS w' b (failO c l e).1 (failO c l e).2 ∧ w.grownBy w' (some b) := by
  obtain ⟨h, hi⟩ := h
  unfold failO
  by_cases he : e = 0
  · subst he
    rw [if_pos rfl]
    by_cases hc : c = 0
    · subst hc
      rw [if_pos rfl]
      refine (fail_zero b _ w h).mono ?_
      rintro r w' ⟨hv, rfl⟩
      exact ⟨hv, ⟨h, fun h => absurd rfl h⟩, grown_refl _ _⟩
    · rw [if_neg hc]
      refine (fail_ok b _ c w h hc).mono ?_
      rintro r w' ⟨hv, hp, hg⟩
      exact ⟨hv, ⟨hp, fun _ => rfl⟩, hg⟩
  · obtain rfl := hi he
    rw [if_neg he]
    refine (fail_off b _ e c w h he).mono ?_
    rintro r w' ⟨hv, rfl⟩
    exact ⟨hv, ⟨h, fun _ => rfl⟩, grown_refl _ _⟩

/-! ### The reference's -/
theorem byteR (b : Nat) (s : ByteArray) (l : List UInt8) (e : Int) (w : World) (h : RS w b s l e) (hz : s.size ≤ 1048576) :
    Calls Try.prog 19 #[.pointer (some ⟨b, 0, none⟩)] w fun r w' => r = .returned (.int .u8 (byteO l e).1) ∧ RS w' b s (byteO l e).2.1 (byteO l e).2.2 ∧ w.grownBy w' (some b) := by
  obtain ⟨k, hk, h, hl, hi⟩ := h
  unfold byteO
  by_cases he : e = 0
  · subst he
    obtain rfl := hl rfl
    rw [if_pos rfl]
    by_cases hlt : k < s.size
    · rw [drop_at s k hlt]
      refine (refByte_next b s k w h hlt hz).mono ?_
      rintro r w' ⟨rfl, hp, hg⟩
      exact ⟨rfl, ⟨k + 1, by omega, hp, fun _ => rfl, fun h => absurd rfl h⟩, hg⟩
    · have e1 : k = s.size := by omega
      subst e1
      rw [drop_end s s.size rfl]
      refine (refByte_end b s w h hz).mono ?_
      rintro r w' ⟨rfl, hp, hg⟩
      exact ⟨rfl, ⟨s.size, by omega, hp, fun h => absurd h (by decide), fun _ => rfl⟩, hg⟩
  · obtain rfl := hi he
    rw [if_neg he]
    refine (refByte_off b s k e w h he).mono ?_
    rintro r w' ⟨rfl, hb⟩
    exact ⟨rfl, ⟨k, hk, h.on hb, fun h => absurd h he, fun _ => rfl⟩, grown_below0 hb⟩
/-- Where the reading of a number left the reference. -/
theorem got_rest (s : ByteArray) (k : Nat) (hk : k ≤ s.size) (h : (decL true 0 (s.data.toList.drop k)).err = 0) :
    (decL true 0 (s.data.toList.drop k)).rest = s.data.toList.drop (s.size - (decL true 0 (s.data.toList.drop k)).rest.length) := by
  generalize hG : decL true 0 (s.data.toList.drop k) = G at *
  obtain ⟨ge, gn, gr⟩ := G
  dsimp only at h ⊢
  subst h
  obtain ⟨h1, _⟩ := dec_inv _ _ _ hG
  have h2 : s.data.toList = (s.data.toList.take k ++ enc gn) ++ gr := by
    rw [List.append_assoc, ← h1, List.take_append_drop]
  have h3 : (s.data.toList.take k ++ enc gn).length + gr.length = s.size := by
    rw [← List.length_append, ← h2, ← Lib.size_eq]
  conv => rhs; rw [h2]
  rw [List.drop_append_of_le_length (by omega), List.drop_eq_nil_of_le (by omega)]
  rfl
theorem uintR (b : Nat) (s : ByteArray) (l : List UInt8) (e : Int) (w : World) (h : RS w b s l e) (hz : s.size ≤ 1048576) :
    Calls Try.prog 21 #[.pointer (some ⟨b, 0, none⟩)] w fun r w' => r = .returned (.int .u64 (uintO l e).1) ∧ RS w' b s (uintO l e).2.1 (uintO l e).2.2 ∧ w.grownBy w' (some b) := by
  obtain ⟨k, hk, h, hl, hi⟩ := h
  unfold uintO
  by_cases he : e = 0
  · subst he
    obtain rfl := hl rfl
    rw [if_pos rfl]
    refine (refRUint_ok b s k w h hk hz).mono ?_
    rintro r w' ⟨⟨g0, rfl, _, hp⟩ | ⟨g0, rfl, k', hk', hp⟩, hg⟩
    · refine ⟨rfl, ⟨_, by omega, ?_, fun _ => got_rest s k hk g0, dec_err _⟩, hg⟩
      rw [g0]; exact hp
    · refine ⟨?_, ⟨k', hk', hp, fun h => absurd h (by show ¬ ((decL true 0 (s.data.toList.drop k)).err : Int) = 0; omega), dec_err _⟩, hg⟩
      rw [(dec_err_rest _ true 0 g0).1]; rfl
  · obtain rfl := hi he
    rw [if_neg he]
    refine (refRUint_off b s k e w h he).mono ?_
    rintro r w' ⟨rfl, hb⟩
    exact ⟨rfl, ⟨k, hk, h.on hb, fun h => absurd h he, fun _ => rfl⟩, grown_below0 hb⟩
theorem intR (b : Nat) (s : ByteArray) (l : List UInt8) (e : Int) (w : World) (h : RS w b s l e) (hz : s.size ≤ 1048576) :
    Calls Try.prog 23 #[.pointer (some ⟨b, 0, none⟩)] w fun r w' => r = .returned (.int .i64 (intO l e).1) ∧ RS w' b s (intO l e).2.1 (intO l e).2.2 ∧ w.grownBy w' (some b) := by
  obtain ⟨k, hk, h, hl, hi⟩ := h
  unfold intO
  by_cases he : e = 0
  · subst he
    obtain rfl := hl rfl
    rw [if_pos rfl]
    refine (refRInt_ok b s k w h hk hz).mono ?_
    rintro r w' ⟨⟨g0, rfl, _, hp⟩ | ⟨g0, rfl, k', hk', hp⟩, hg⟩
    · refine ⟨rfl, ⟨_, by omega, ?_, fun _ => got_rest s k hk g0, dec_err _⟩, hg⟩
      rw [g0]; exact hp
    · refine ⟨?_, ⟨k', hk', hp, fun h => absurd h (by show ¬ ((decL true 0 (s.data.toList.drop k)).err : Int) = 0; omega), dec_err _⟩, hg⟩
      rw [(dec_err_rest _ true 0 g0).1]; rfl
  · obtain rfl := hi he
    rw [if_neg he]
    refine (refRInt_off b s k e w h he).mono ?_
    rintro r w' ⟨rfl, hb⟩
    exact ⟨rfl, ⟨k, hk, h.on hb, fun h => absurd h he, fun _ => rfl⟩, grown_below0 hb⟩
theorem strR (b : Nat) (most : Int) (s : ByteArray) (l : List UInt8) (e : Int) (w : World) (h : RS w b s l e) (hz : s.size ≤ 1048576) (m0 : -9223372036854775808 ≤ most) (m1 : most ≤ 9223372036854775807) :
    Calls Try.prog 25 #[.pointer (some ⟨b, 0, none⟩), .int .i64 most] w fun r w' => r = .returned (.string ⟨(strO most l e).1.toArray⟩) ∧ RS w' b s (strO most l e).2.1 (strO most l e).2.2 ∧ w.grownBy w' (some b) := by
  obtain ⟨k, hk, h, hl, hi⟩ := h
  unfold strO
  by_cases he : e = 0
  · subst he
    obtain rfl := hl rfl
    rw [if_pos rfl]
    have hse := str_err most (s.data.toList.drop k)
    by_cases g0 : (decL true 0 (s.data.toList.drop k)).err = 0
    · by_cases hlong : max most 0 < ((decL true 0 (s.data.toList.drop k)).n : Int)
      · have e1 : strL most (s.data.toList.drop k) = ⟨9, [], []⟩ := by unfold strL; rw [if_neg (by omega), if_pos hlong]
        rw [e1]
        refine (refRStr_long b s k most w h hk hz m0 m1 _ rfl g0 hlong).mono ?_
        rintro r w' ⟨⟨rfl, hp⟩, hg⟩
        exact ⟨rfl, ⟨_, by omega, hp, fun h => absurd h (by decide), fun _ => rfl⟩, hg⟩
      · by_cases htorn : (decL true 0 (s.data.toList.drop k)).rest.length < (decL true 0 (s.data.toList.drop k)).n
        · have e1 : strL most (s.data.toList.drop k) = ⟨3, [], []⟩ := by unfold strL; rw [if_neg (by omega), if_neg hlong, if_pos htorn]
          rw [e1]
          refine (refRStr_torn b s k most w h hk hz m0 m1 _ rfl g0 hlong htorn).mono ?_
          rintro r w' ⟨⟨rfl, hp⟩, hg⟩
          exact ⟨rfl, ⟨_, by omega, hp, fun h => absurd h (by decide), fun _ => rfl⟩, hg⟩
        · have e1 : strL most (s.data.toList.drop k) = ⟨0, (decL true 0 (s.data.toList.drop k)).rest.take (decL true 0 (s.data.toList.drop k)).n, (decL true 0 (s.data.toList.drop k)).rest.drop (decL true 0 (s.data.toList.drop k)).n⟩ := by unfold strL; rw [if_neg (by omega), if_neg hlong, if_neg htorn]
          rw [e1]
          have hr := got_rest s k hk g0
          refine (refRStr_ok b s k most w h hk hz m0 m1 _ rfl g0 hlong (by omega)).mono ?_
          rintro r w' ⟨⟨rfl, hp⟩, hg⟩
          generalize decL true 0 (s.data.toList.drop k) = G at *
          have hle : G.rest.length ≤ s.size := by
            have := congrArg List.length hr
            rw [List.length_drop, ← Lib.size_eq] at this
            omega
          refine ⟨ret_str ?_, ⟨_, by omega, hp, fun _ => ?_, fun h => absurd rfl h⟩, hg⟩
          · apply ByteArray.ext
            rw [ByteArray.data_extract]
            apply Array.toList_inj.1
            conv => rhs; rw [hr]
            simp
          · show G.rest.drop G.n = _
            conv => lhs; rw [hr]
            rw [List.drop_drop]
    · have e1 : strL most (s.data.toList.drop k) = ⟨(decL true 0 (s.data.toList.drop k)).err, [], []⟩ := by unfold strL; rw [if_pos g0]
      rw [e1]
      refine (refRStr_bad b s k most w h hk hz g0).mono ?_
      rintro r w' ⟨rfl, ⟨k', hk', hp⟩, hg⟩
      exact ⟨rfl, ⟨k', hk', hp, fun h => absurd h (by show ¬ ((decL true 0 (s.data.toList.drop k)).err : Int) = 0; omega), fun _ => rfl⟩, hg⟩
  · obtain rfl := hi he
    rw [if_neg he]
    refine (refRStr_off b s k e most w h he).mono ?_
    rintro r w' ⟨rfl, hb⟩
    exact ⟨rfl, ⟨k, hk, h.on hb, fun h => absurd h he, fun _ => rfl⟩, grown_below0 hb⟩
theorem stopR (b : Nat) (c : Int) (s : ByteArray) (l : List UInt8) (e : Int) (w : World) (h : RS w b s l e) (hc : ¬ c = 0) :
    Calls Try.prog 27 #[.pointer (some ⟨b, 0, none⟩), .int .i64 c] w fun r w' => r = .returned (.int .u64 0) ∧ RS w' b s (failO c l e).1 (failO c l e).2 ∧ w.grownBy w' (some b) := by
  obtain ⟨k, hk, h, hl, hi⟩ := h
  unfold failO
  by_cases he : e = 0
  · subst he
    rw [if_pos rfl, if_neg hc]
    refine (refStop_ok b s k c w h).mono ?_
    rintro r w' ⟨rfl, hp, hg⟩
    exact ⟨rfl, ⟨k, hk, hp, fun h => absurd h hc, fun _ => rfl⟩, hg⟩
  · obtain rfl := hi he
    rw [if_neg he]
    refine (refStop_off b s k e c w h he).mono ?_
    rintro r w' ⟨rfl, rfl⟩
    exact ⟨rfl, ⟨k, hk, h, fun h => absurd h he, fun _ => rfl⟩, grown_refl _ _⟩
theorem leftR (b : Nat) (s : ByteArray) (l : List UInt8) (e : Int) (w : World) (h : RS w b s l e) (hz : s.size ≤ 1048576) :
    Calls Try.prog 29 #[.pointer (some ⟨b, 0, none⟩)] w fun r w' => r = .returned (.int .i64 (l.length : Int)) ∧ Below w.heap.size w w' := by
  obtain ⟨k, hk, h, hl, hi⟩ := h
  by_cases he : e = 0
  · subst he
    obtain rfl := hl rfl
    refine (refLeft_ok b s k w h (by omega) (by omega) hz).mono ?_
    rintro r w' ⟨rfl, hb⟩
    exact ⟨ret_int (by rw [List.length_drop, ← Lib.size_eq]; omega), hb⟩
  · obtain rfl := hi he
    refine (refLeft_off b s k e w h he).mono ?_
    rintro r w' ⟨rfl, rfl⟩
    exact ⟨rfl, below_refl _⟩
theorem RS.err {w : World} {b : Nat} {s : ByteArray} {l : List UInt8} {e : Int} (h : RS w b s l e) : w.cell? ⟨b, 2, none⟩ = some (.int .i64 e) := by
  obtain ⟨k, hk, h, _⟩ := h
  exact h.cells.2.2.1
end Go.Proofs.Ytbiahajpmnfhbaa
