/-
  Plain mathematics of quoting: no program in sight.
-/
import Derived.Lib.UnsafeStr
set_option linter.unusedSimpArgs false
set_option linter.unusedVariables false
namespace Go.Proofs.YthiffpdioclnlaaDoor

/-- A byte that does not stand for itself. -/
def escB (c : Int) : Bool := decide (c < 32) || decide (126 < c) || c == 39 || c == 92

def hexA : List UInt8 := [48, 49, 50, 51, 52, 53, 54, 55, 56, 57, 97, 98, 99, 100, 101, 102]
def hexD (n : Nat) : UInt8 := hexA.getD n 0
def qByte (c : UInt8) : List UInt8 := if escB c.toNat then [92, hexD (c.toNat / 16), hexD (c.toNat % 16)] else [c]
def qBytes (l : List UInt8) : List UInt8 := l.flatMap qByte
def quoteL (l : List UInt8) : List UInt8 := 39 :: (qBytes l ++ [39])

theorem qByte_len (c : UInt8) : 1 ≤ (qByte c).length ∧ (qByte c).length ≤ 3 := by
  unfold qByte; split <;> simp
theorem qBytes_cons (c : UInt8) (l : List UInt8) : qBytes (c :: l) = qByte c ++ qBytes l := by simp [qBytes]
theorem qBytes_append (a b : List UInt8) : qBytes (a ++ b) = qBytes a ++ qBytes b := by simp [qBytes]
theorem qBytes_len (l : List UInt8) : l.length ≤ (qBytes l).length ∧ (qBytes l).length ≤ 3 * l.length := by
  induction l with
  | nil => simp [qBytes]
  | cons c l ih =>
    have := qByte_len c
    rw [qBytes_cons, List.length_append, List.length_cons]
    omega
theorem qBytes_snoc (l : List UInt8) (c : UInt8) : qBytes (l ++ [c]) = qBytes l ++ qByte c := by
  rw [qBytes_append]; simp [qBytes]
theorem take_snoc (s : ByteArray) (k : Nat) (h : k < s.size) : s.data.toList.take (k + 1) = s.data.toList.take k ++ [s[k]] := by
  rw [List.take_succ_eq_append_getElem (by simpa using h)]; rfl
theorem quote_step (s : ByteArray) (k : Nat) (h : k < s.size) : 39 :: qBytes (s.data.toList.take (k + 1)) = (39 :: qBytes (s.data.toList.take k)) ++ qByte s[k] := by
  rw [take_snoc s k h, qBytes_snoc]; rfl
end Go.Proofs.YthiffpdioclnlaaDoor
