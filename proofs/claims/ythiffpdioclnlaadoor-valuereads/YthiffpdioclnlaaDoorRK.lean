/-
  One step of a region that draws its order: a call of the reference's hex; its loop's relation.
-/
import Derived.Test.YthiffpdioclnlaaDoorRH
set_option linter.unusedSimpArgs false
set_option linter.unusedVariables false
namespace Go.Proofs.YthiffpdioclnlaaDoor
open Go.RowKit

theorem step_hex {ops : Array Oper} {o : Oper} {a : Act} {K : Act → World → Prop} {Q : Exit → Act → World → Prop} {E : Prop} (w : World) (hgd : o.guard = none) (x : Operand)
    (ho : o.op = .call { callee := .value (.func 41), args := #[x], argTypes := #[5] }) (c : UInt8) (hx : a.eval x = .int .u8 (c.toNat : Int)) (h : K (a.put o.dst (.int .i64 (hexI c))) w) :
    if Region.wanted o (yielded ops a.tmps) = true then Oper.wp Tryd.prog o a w K Q else E := by
  rw [if_pos (by simp [Region.wanted, hgd])]
  have hrun : (execOp a.eval o).run Tryd.prog w = .ok (.enter 41 #[.int .u8 (c.toNat : Int)]) w := by
    have he : a.eval (.func 41) = .func (.func 41) #[] #[] := rfl
    simp [execOp, ho, resolve, invoke, hx, he, Tryd.func41]
    simp [go_sem, Tryd.func41]
  unfold Oper.wp
  rw [hrun, Oper.upon_enter]
  refine (refHex_any c w).mono ?_
  rintro e w' ⟨rfl, rfl⟩
  exact h

def Rq (s : ByteArray) (acc : List UInt8) (k : Nat) : Prop := ∃ f, s.size - k ≤ f ∧ rqL f (s.data.toList.drop k) acc k = rqL s.size (s.data.toList.drop 1) [] 1
theorem rq_start (s : ByteArray) : Rq s [] 1 := ⟨s.size, by omega, rfl⟩
theorem rq_end (s : ByteArray) (acc : List UInt8) (k : Nat) (h : Rq s acc k) (hk : k = s.size) : rqL s.size (s.data.toList.drop 1) [] 1 = none := by
  obtain ⟨f, _, e⟩ := h
  rw [← e, drop_end s k hk]
  cases f <;> rfl
theorem rq_quote (s : ByteArray) (acc : List UInt8) (k : Nat) (h : Rq s acc k) (hk : k < s.size) (hq : s[k].toNat = 39) : rqL s.size (s.data.toList.drop 1) [] 1 = some (acc, k + 1) := by
  obtain ⟨f, hf, e⟩ := h
  rw [← e, drop_at s k hk]
  cases f with
  | zero => omega
  | succ f => simp [rqL, hq]
theorem rq_plain (s : ByteArray) (acc : List UInt8) (k : Nat) (h : Rq s acc k) (hk : k < s.size) (hq : ¬ s[k].toNat = 39) (h9 : ¬ s[k].toNat = 92) : Rq s (acc ++ [s[k]]) (k + 1) := by
  obtain ⟨f, hf, e⟩ := h
  rw [drop_at s k hk] at e
  cases f with
  | zero => omega
  | succ f =>
    refine ⟨f, by omega, ?_⟩
    rw [← e, rqL, if_neg hq, if_neg h9]
theorem rq_short (s : ByteArray) (acc : List UInt8) (k : Nat) (h : Rq s acc k) (hk : k < s.size) (h9 : s[k].toNat = 92) (h2 : s.size ≤ k + 2) : rqL s.size (s.data.toList.drop 1) [] 1 = none := by
  obtain ⟨f, hf, e⟩ := h
  rw [drop_at s k hk] at e
  rw [← e]
  cases f with
  | zero => omega
  | succ f =>
    rw [rqL, if_neg (by omega), if_pos h9, if_pos]
    rw [List.length_drop, ← Lib.size_eq]; omega
theorem two_at (s : ByteArray) (k : Nat) (h2 : k + 2 < s.size) : (s.data.toList.drop (k + 1)).getD 0 0 = s[k + 1] ∧ (s.data.toList.drop (k + 1)).getD 1 0 = s[k + 2] ∧ ¬ (s.data.toList.drop (k + 1)).length < 2 := by
  rw [drop_at s (k + 1) (by omega), drop_at s (k + 1 + 1) (by omega)]
  exact ⟨rfl, rfl, by simp⟩
theorem rq_hex1 (s : ByteArray) (acc : List UInt8) (k : Nat) (h : Rq s acc k) (h2 : k + 2 < s.size) (h9 : s[k].toNat = 92) (hh : hexI s[k + 1] < 0) : rqL s.size (s.data.toList.drop 1) [] 1 = none := by
  obtain ⟨f, hf, e⟩ := h
  rw [drop_at s k (by omega)] at e
  rw [← e]
  obtain ⟨t1, t2, t3⟩ := two_at s k h2
  cases f with
  | zero => omega
  | succ f => rw [rqL, if_neg (by omega), if_pos h9, if_neg t3, t1, if_pos hh]
theorem rq_hex2 (s : ByteArray) (acc : List UInt8) (k : Nat) (h : Rq s acc k) (h2 : k + 2 < s.size) (h9 : s[k].toNat = 92) (hh : ¬ hexI s[k + 1] < 0) (hh2 : hexI s[k + 2] < 0) : rqL s.size (s.data.toList.drop 1) [] 1 = none := by
  obtain ⟨f, hf, e⟩ := h
  rw [drop_at s k (by omega)] at e
  rw [← e]
  obtain ⟨t1, t2, t3⟩ := two_at s k h2
  cases f with
  | zero => omega
  | succ f => rw [rqL, if_neg (by omega), if_pos h9, if_neg t3, t1, t2, if_neg hh, if_pos hh2]
theorem rq_esc (s : ByteArray) (acc : List UInt8) (k : Nat) (h : Rq s acc k) (h2 : k + 2 < s.size) (h9 : s[k].toNat = 92) (hh : ¬ hexI s[k + 1] < 0) (hh2 : ¬ hexI s[k + 2] < 0) : Rq s (acc ++ [hx s[k + 1] s[k + 2]]) (k + 3) := by
  obtain ⟨f, hf, e⟩ := h
  rw [drop_at s k (by omega)] at e
  obtain ⟨t1, t2, t3⟩ := two_at s k h2
  cases f with
  | zero => omega
  | succ f =>
    refine ⟨f, by omega, ?_⟩
    rw [← e, rqL, if_neg (by omega), if_pos h9, if_neg t3, t1, t2, if_neg hh, if_neg hh2, List.drop_drop]

def retQ : Option (List UInt8 × Nat) → Value
  | none => .tuple #[.string ⟨#[]⟩, .int .i64 0, .bool false]
  | some (t, n) => .tuple #[.string ⟨t.toArray⟩, .int .i64 (n : Nat), .bool true]

theorem qd_none (s : ByteArray) (h : rqL s.size (s.data.toList.drop 1) [] 1 = none) : qdL s.data.toList = none := by
  unfold qdL; rw [← Lib.size_eq, h]
theorem qd_some (s : ByteArray) (t : List UInt8) (k : Nat) (h : rqL s.size (s.data.toList.drop 1) [] 1 = some (t, k + 1)) (hk : k < s.size) : qdL s.data.toList = if t.length ≤ 8 ∧ quoteL t = s.data.toList.take (k + 1) then some (t, k + 1) else none := by
  unfold qdL
  rw [← Lib.size_eq, h]
  simp only
  by_cases hc : t.length ≤ 8 ∧ quoteL t = s.data.toList.take (k + 1)
  · rw [if_pos hc, if_pos ⟨hc.1, hc.2, by omega⟩]
  · rw [if_neg hc, if_neg (fun h => hc ⟨h.1, h.2.1⟩)]

theorem refQuote_acc (acc : List UInt8) (w : World) (hs : acc.length ≤ 1048576) :
    Calls Tryd.prog 19 #[.string ⟨acc.toArray⟩] w fun e w' => e = .returned (.string ⟨(quoteL acc).toArray⟩) ∧ Below w.heap.size w w' := by
  have := refQuote_any ⟨acc.toArray⟩ w (by rw [Lib.size_eq]; simpa using hs)
  simpa using this
end Go.Proofs.YthiffpdioclnlaaDoor
