/-
  The set layer in plain words: hidden facts, worlds that only grow, ranges and strings, sets in memory, what each call of the program's set is to answer.
-/
import Derived.Test.YtoplmioejebnnaaRows
import Derived.WalkKit
import Derived.WalkSpells
import Derived.WalkLawsBesides
import Derived.WalkSmall
import Derived.Lib.SmallJoins
import Derived.Lib.Bytealg
import Derived.Lib.UnsafeStr
import Derived.Lib.ItoaLen
import Derived.Lib.Slices
import Derived.Laws.IdiomStrings
import Derived.Laws.OwnMore
import Derived.OwnWalk
import Derived.BigCall
import Derived.Deep.RegionHeld3
import Derived.Deep.AppendLies
import Derived.Deep.DrawnRows
import Derived.Lib.AppendIntMem
import Derived.Deep.QuietTactic
import Derived.BigQuiet
import Derived.Lib.QuietBelow
import Derived.ProofKit
import Derived.OpenShut
import Derived.Carry
import Derived.Deep.Slices
import Derived.Laws.AppendOwnNone
set_option linter.unusedSimpArgs false
set_option linter.unusedVariables false
namespace Go.Proofs.Ytoplmioejebnnaa
open Go.RowKit

theorem hide {p : Prop} (h : p) : Hid p := h
theorem unhide {p : Prop} (h : Hid p) : p := h
theorem ret_int {k : IntKind} {a b : Int} (h : a = b) : Ending.returned (.int k a) = .returned (.int k b) := by rw [h]
theorem ret_bool {a b : Bool} (h : a = b) : Ending.returned (.bool a) = .returned (.bool b) := by rw [h]
theorem ret_str {a b : ByteArray} (h : a = b) : Ending.returned (.string a) = .returned (.string b) := by rw [h]

/-- Old cells and old marks read as before behind a call that only makes memory. -/
theorem bcell {W w1 : World} (hb : Below W.heap.size W w1) : (∀ b o, b < W.heap.size → w1.cell? ⟨b, o, none⟩ = W.cell? ⟨b, o, none⟩) ∧ (∀ b o, b < W.heap.size → w1.frozen? ⟨b, o, none⟩ = W.frozen? ⟨b, o, none⟩) :=
  ⟨fun b o h => hb.cell (p := ⟨b, o, none⟩) h, fun b o h => hb.frozen (p := ⟨b, o, none⟩) h⟩

theorem heap_top (w : World) (o : Obj) : (w.alloc o).heap[w.heap.size]? = some o := by
  show (w.heap.push o)[w.heap.size]? = some o
  simp

theorem cells_one (l : List UInt8) : ∀ u ∈ Lib.byteCells l, u.oneCell' = true := by
  intro u hu
  simp [Lib.byteCells] at hu
  obtain ⟨b, _, rfl⟩ := hu
  rfl

theorem heap_setCell {w : World} {b i : Nat} {cs : Array Value} {t : TypeId} {fz : Nat × Nat} (v : Value) (h : w.heap[b]? = some (.cells cs t fz)) : (w.setCell ⟨b, i, none⟩ v).heap[b]? = some (.cells (cs.setIfInBounds i v) t fz) := by
  simp [World.setCell, Array.getElem?_modify, h]
theorem cell_heap {w : World} {b : Nat} {cs : Array Value} {t : TypeId} {fz : Nat × Nat} (h : w.heap[b]? = some (.cells cs t fz)) (i : Nat) : w.cell? ⟨b, i, none⟩ = cs[i]? := by simp [World.cell?, h]
theorem frozen_heap {w : World} {b : Nat} {cs : Array Value} {t : TypeId} (h : w.heap[b]? = some (.cells cs t (0, 0))) (i : Nat) : w.frozen? ⟨b, i, none⟩ = false := by simp [World.frozen?, h]
theorem lt_heap {w : World} {b : Nat} {o : Obj} (h : w.heap[b]? = some o) : b < w.heap.size := by
  rcases Nat.lt_or_ge b w.heap.size with h' | h'
  · exact h'
  · rw [Array.getElem?_eq_none h'] at h
    cases h
theorem heap_new (w : World) (o : Obj) : (w.alloc o).heap[w.heap.size]? = some o := by
  show (w.heap.push o)[w.heap.size]? = some o
  simp
theorem heap_at {w : World} {o : Obj} {k : Nat} (h : k = w.heap.size) : (w.alloc o).heap[k]? = some o := by
  rw [h]; exact heap_new w o
theorem below_alloc {w w1 : World} {o : Obj} (hb : Below (w.alloc o).heap.size (w.alloc o) w1) : Below w.heap.size w w1 :=
  ((Below.refl _ _).alloc (Nat.le_refl _) o).trans (hb.mono (by simp))
theorem below_one {w w1 : World} {o : Obj} (hb : Below (w.heap.size + 1) (w.alloc o) w1) : Below w.heap.size w w1 :=
  ((Below.refl _ _).alloc (Nat.le_refl _) o).trans (hb.mono (by omega))
theorem below_undrew {w w1 : World} (h : Below w.drew.heap.size w.drew w1) : Below w.heap.size w w1 := ⟨h.os, h.tape, h.output, h.size, h.block⟩
theorem mk_append (a b : List UInt8) : (⟨a.toArray⟩ : ByteArray) ++ (⟨b.toArray⟩ : ByteArray) = ⟨(a ++ b).toArray⟩ := by
  have h : ((⟨a.toArray⟩ : ByteArray) ++ (⟨b.toArray⟩ : ByteArray)).data = (a ++ b).toArray := by
    rw [ByteArray.data_append]; simp
  cases e : (⟨a.toArray⟩ : ByteArray) ++ (⟨b.toArray⟩ : ByteArray) with
  | mk d => rw [e] at h; rw [← h]

theorem mixed : Try.prog.follows .mixedOrders = true := by kernel_rfl
end Go.Proofs.Ytoplmioejebnnaa
namespace Go.Proofs.Ytoplmioejebnnaa

/-! ### Ranges -/
abbrev Rg := Int × Int
/-- A number is in one of the ranges. -/
def memR (l : List Rg) (n : Int) : Prop := ∃ r ∈ l, r.1 ≤ n ∧ n ≤ r.2
theorem memR_nil (n : Int) : ¬ memR [] n := fun ⟨_, h, _⟩ => by simp at h
theorem memR_cons (r : Rg) (l : List Rg) (n : Int) : memR (r :: l) n ↔ (r.1 ≤ n ∧ n ≤ r.2) ∨ memR l n := by
  constructor
  · rintro ⟨x, hx, h⟩
    rcases List.mem_cons.1 hx with rfl | hx
    · exact Or.inl h
    · exact Or.inr ⟨x, hx, h⟩
  · rintro (h | ⟨x, hx, h⟩)
    · exact ⟨r, by simp, h⟩
    · exact ⟨x, by simp [hx], h⟩
theorem memR_append (a b : List Rg) (n : Int) : memR (a ++ b) n ↔ memR a n ∨ memR b n := by
  induction a with
  | nil => simp [memR_nil]
  | cons r l ih => rw [List.cons_append, memR_cons, memR_cons, ih, or_assoc]
/-- Rising, each from Lo to Hi, with a number between, and all above b. -/
def rightFrom (b : Int) : List Rg → Prop
  | [] => True
  | r :: l => b < r.1 ∧ r.1 ≤ r.2 ∧ rightFrom (r.2 + 1) l
/-- As it should be. -/
def rightR : List Rg → Prop
  | [] => True
  | r :: l => r.1 ≤ r.2 ∧ rightFrom (r.2 + 1) l
theorem rightFrom_right {b : Int} {l : List Rg} (h : rightFrom b l) : rightR l := by
  cases l with
  | nil => trivial
  | cons r l => exact ⟨h.2.1, h.2.2⟩
theorem rightFrom_mono {b c : Int} {l : List Rg} (h : rightFrom b l) (hc : c ≤ b) : rightFrom c l := by
  cases l with
  | nil => trivial
  | cons r l => exact ⟨by have := h.1; omega, h.2.1, h.2.2⟩
theorem rightFrom_lt {b : Int} : ∀ {l : List Rg}, rightFrom b l → ∀ n, memR l n → b < n
  | [], _, n, h => absurd h (memR_nil n)
  | r :: l, ⟨h1, h2, h3⟩, n, h => by
    rcases (memR_cons r l n).1 h with h | h
    · omega
    · have := rightFrom_lt h3 n h; omega
theorem rightR_from {r : Rg} {l : List Rg} (h : rightR (r :: l)) : rightFrom (r.1 - 1) (r :: l) := ⟨by omega, h.1, h.2⟩
/-- Right ranges with the same numbers are the same. -/
theorem rightFrom_ext : ∀ (a b : List Rg) (c : Int), rightFrom c a → rightFrom c b → (∀ n, memR a n ↔ memR b n) → a = b
  | [], [], _, _, _, _ => rfl
  | [], s :: m, _, _, hb, h => absurd ((h s.1).2 ⟨s, by simp, Int.le_refl _, hb.2.1⟩) (memR_nil _)
  | r :: l, [], _, ha, _, h => absurd ((h r.1).1 ⟨r, by simp, Int.le_refl _, ha.2.1⟩) (memR_nil _)
  | r :: l, s :: m, c, ⟨a1, a2, a3⟩, ⟨b1, b2, b3⟩, h => by
    have hA := fun n => rightFrom_lt a3 n
    have hB := fun n => rightFrom_lt b3 n
    have e1 : r.1 = s.1 := by
      have x := (h r.1).1 ⟨r, by simp, Int.le_refl _, a2⟩
      have y := (h s.1).2 ⟨s, by simp, Int.le_refl _, b2⟩
      rcases (memR_cons s m _).1 x with x | x <;> rcases (memR_cons r l _).1 y with y | y
      · omega
      · have := hA _ y; omega
      · have := hB _ x; omega
      · have := hA _ y; have := hB _ x; omega
    have e2 : r.2 = s.2 := by
      rcases Int.lt_trichotomy r.2 s.2 with hlt | hlt | hlt
      · have y := (h (r.2 + 1)).2 ⟨s, by simp, by omega, by omega⟩
        rcases (memR_cons r l _).1 y with y | y
        · omega
        · have := hA _ y; omega
      · exact hlt
      · have x := (h (s.2 + 1)).1 ⟨r, by simp, by omega, by omega⟩
        rcases (memR_cons s m _).1 x with x | x
        · omega
        · have := hB _ x; omega
    have e : r = s := Prod.ext e1 e2
    subst e
    have := rightFrom_ext l m (r.2 + 1) a3 b3 (fun n => by
      constructor
      · intro hn
        have hx := hA n hn
        rcases (memR_cons r m n).1 ((h n).1 ((memR_cons r l n).2 (Or.inr hn))) with x | x
        · omega
        · exact x
      · intro hn
        have hx := hB n hn
        rcases (memR_cons r l n).1 ((h n).2 ((memR_cons r m n).2 (Or.inr hn))) with x | x
        · omega
        · exact x)
    rw [this]
theorem rightR_ext (a b : List Rg) (ha : rightR a) (hb : rightR b) (h : ∀ n, memR a n ↔ memR b n) : a = b := by
  cases a with
  | nil =>
    cases b with
    | nil => rfl
    | cons s m => exact absurd ((h s.1).2 ⟨s, by simp, Int.le_refl _, hb.1⟩) (memR_nil _)
  | cons r l =>
    cases b with
    | nil => exact absurd ((h r.1).1 ⟨r, by simp, Int.le_refl _, ha.1⟩) (memR_nil _)
    | cons s m =>
      refine rightFrom_ext _ _ (min (r.1 - 1) (s.1 - 1)) (rightFrom_mono (rightR_from ha) (by omega)) (rightFrom_mono (rightR_from hb) (by omega)) h
/-- All ends are numbers of the machine. -/
def inI64 (l : List Rg) : Prop := ∀ r ∈ l, -9223372036854775808 ≤ r.1 ∧ r.1 ≤ 9223372036854775807 ∧ -9223372036854775808 ≤ r.2 ∧ r.2 ≤ 9223372036854775807
theorem memR_in {l : List Rg} (h : inI64 l) {n : Int} (hn : memR l n) : -9223372036854775808 ≤ n ∧ n ≤ 9223372036854775807 := by
  obtain ⟨r, hr, h1, h2⟩ := hn
  have := h r hr
  omega
theorem rightR_ext64 (a b : List Rg) (ha : rightR a) (hb : rightR b) (ia : inI64 a) (ib : inI64 b) (h : ∀ n, -9223372036854775808 ≤ n → n ≤ 9223372036854775807 → (memR a n ↔ memR b n)) : a = b :=
  rightR_ext a b ha hb fun n => ⟨fun hn => (h n (memR_in ia hn).1 (memR_in ia hn).2).1 hn, fun hn => (h n (memR_in ib hn).1 (memR_in ib hn).2).2 hn⟩
/-- Down from a number that is in none of the ranges to where that begins. -/
theorem down_to (b : List Rg) (n lo : Int) (hn : ¬ memR b n) (hlo : lo ≤ n) : ∃ p, lo ≤ p ∧ p ≤ n ∧ (p = lo ∨ ∃ r ∈ b, p = r.2 + 1 ∧ r.2 < n) ∧ ∀ x, p ≤ x → x ≤ n → ¬ memR b x := by
  induction b with
  | nil => exact ⟨lo, by omega, hlo, Or.inl rfl, fun x _ _ => memR_nil x⟩
  | cons r l ih =>
    have h1 : ¬ (r.1 ≤ n ∧ n ≤ r.2) := fun h => hn ((memR_cons r l n).2 (Or.inl h))
    obtain ⟨p, p1, p2, p3, p4⟩ := ih (fun h => hn ((memR_cons r l n).2 (Or.inr h)))
    by_cases hr : p ≤ r.2 ∧ r.2 < n
    · refine ⟨r.2 + 1, by omega, by omega, Or.inr ⟨r, by simp, rfl, hr.2⟩, fun x h2 h3 => ?_⟩
      rw [memR_cons]
      rintro (h | h)
      · omega
      · exact p4 x (by omega) h3 h
    · refine ⟨p, p1, p2, ?_, fun x h2 h3 => ?_⟩
      · rcases p3 with p3 | ⟨s, hs, p3⟩
        · exact Or.inl p3
        · exact Or.inr ⟨s, by simp [hs], p3⟩
      · rw [memR_cons]
        rintro (h | h)
        · omega
        · exact p4 x h2 h3 h
/-- Ranges lie in ranges, if the first ones' ends and what stands behind the second ones' ends do. -/
theorem sub_points (a b : List Rg) (h1 : ∀ r ∈ a, r.1 ≤ r.2 → memR b r.1) (h2 : ∀ r ∈ b, ∀ s ∈ a, r.2 < s.2 → memR a (r.2 + 1) → memR b (r.2 + 1)) (n : Int) (hn : memR a n) : memR b n := by
  refine Classical.byContradiction fun hb => ?_
  obtain ⟨r, hr, l1, l2⟩ := hn
  obtain ⟨p, p1, p2, p3, p4⟩ := down_to b n r.1 hb l1
  rcases p3 with rfl | ⟨s, hs, p3, p5⟩
  · exact p4 r.1 (by omega) l1 (h1 r hr (by omega))
  · exact p4 p (by omega) p2 (p3 ▸ h2 s hs r hr (by omega) ⟨r, hr, by omega, by omega⟩)

/-! ### Strings -/
abbrev St := List UInt8
theorem lessB_irrefl : ∀ a : St, Op.bytesLess a a = false
  | [] => by simp [Op.bytesLess]
  | x :: a => by simp [Op.bytesLess]; exact lessB_irrefl a
theorem lessB_trans : ∀ a b c : St, Op.bytesLess a b = true → Op.bytesLess b c = true → Op.bytesLess a c = true
  | _, _, [], _, h => by cases ‹St› <;> simp [Op.bytesLess] at h
  | [], _, _ :: _, _, _ => by simp [Op.bytesLess]
  | _ :: _, [], _ :: _, h, _ => by simp [Op.bytesLess] at h
  | x :: a, y :: b, z :: c, h, k => by
    simp [Op.bytesLess] at h k ⊢
    rcases h with h | ⟨rfl, h⟩ <;> rcases k with k | ⟨rfl, k⟩
    · left; rw [UInt8.lt_iff_toNat_lt] at *; omega
    · exact Or.inl h
    · exact Or.inl k
    · exact Or.inr ⟨rfl, lessB_trans a b c h k⟩
theorem lessB_tri : ∀ a b : St, Op.bytesLess a b = true ∨ a = b ∨ Op.bytesLess b a = true
  | [], [] => Or.inr (Or.inl rfl)
  | [], _ :: _ => Or.inl (by simp [Op.bytesLess])
  | _ :: _, [] => Or.inr (Or.inr (by simp [Op.bytesLess]))
  | x :: a, y :: b => by
    simp [Op.bytesLess]
    rcases Nat.lt_trichotomy x.toNat y.toNat with h | h | h
    · exact Or.inl (Or.inl (UInt8.lt_iff_toNat_lt.2 h))
    · have e : x = y := UInt8.toNat_inj.1 h
      subst e
      rcases lessB_tri a b with h | h | h
      · exact Or.inl (Or.inr ⟨rfl, h⟩)
      · exact Or.inr (Or.inl ⟨rfl, h⟩)
      · exact Or.inr (Or.inr (Or.inr ⟨rfl, h⟩))
    · exact Or.inr (Or.inr (Or.inl (UInt8.lt_iff_toNat_lt.2 h)))
/-- Rising. -/
def risesS : List St → Prop
  | [] => True
  | a :: l => (∀ b ∈ l, Op.bytesLess a b = true) ∧ risesS l
theorem risesS_ext : ∀ a b : List St, risesS a → risesS b → (∀ s, s ∈ a ↔ s ∈ b) → a = b
  | [], [], _, _, _ => rfl
  | [], y :: m, _, _, h => by have := (h y).2 (by simp); simp at this
  | x :: l, [], _, _, h => by have := (h x).1 (by simp); simp at this
  | x :: l, y :: m, ⟨a1, a2⟩, ⟨b1, b2⟩, h => by
    have e : x = y := by
      rcases List.mem_cons.1 ((h x).1 (by simp)) with e | hx
      · exact e
      rcases List.mem_cons.1 ((h y).2 (by simp)) with e | hy
      · exact e.symm
      have h1 := b1 x hx
      have h2 := a1 y hy
      have := lessB_trans _ _ _ h1 h2
      rw [lessB_irrefl] at this
      exact absurd this (by simp)
    subst e
    have : l = m := risesS_ext l m a2 b2 (fun s => by
      constructor
      · intro hs
        rcases List.mem_cons.1 ((h s).1 (by simp [hs])) with e | hm
        · subst e
          have := a1 _ hs
          rw [lessB_irrefl] at this
          exact absurd this (by simp)
        · exact hm
      · intro hs
        rcases List.mem_cons.1 ((h s).2 (by simp [hs])) with e | hm
        · subst e
          have := b1 _ hs
          rw [lessB_irrefl] at this
          exact absurd this (by simp)
        · exact hm)
    rw [this]
/-- A row without its first place of a string. -/
def dropS (s : St) : List St → List St
  | [] => []
  | t :: l => if t = s then l else t :: dropS s l
theorem dropS_len (s : St) : ∀ l : List St, s ∈ l → (dropS s l).length + 1 = l.length
  | [], h => by simp at h
  | t :: l, h => by
    unfold dropS
    by_cases e : t = s
    · rw [if_pos e]; simp
    · rw [if_neg e]
      rcases List.mem_cons.1 h with h | h
      · exact absurd h.symm e
      · have := dropS_len s l h
        simp; omega
theorem dropS_mem (s x : St) (hne : x ≠ s) : ∀ l : List St, x ∈ l → x ∈ dropS s l
  | [], h => h
  | t :: l, h => by
    unfold dropS
    by_cases e : t = s
    · rw [if_pos e]
      rcases List.mem_cons.1 h with h | h
      · exact absurd (h.trans e) hne
      · exact h
    · rw [if_neg e]
      rcases List.mem_cons.1 h with h | h
      · rw [h]; simp
      · exact List.mem_cons.2 (Or.inr (dropS_mem s x hne l h))
theorem holes (f : Nat → St) (hf : ∀ i j, f i = f j → i = j) : ∀ (n : Nat) (l : List St), (∀ i, i < n → f i ∈ l) → n ≤ l.length
  | 0, l, _ => Nat.zero_le _
  | n + 1, l, h => by
    have h1 := holes f hf n (dropS (f n) l) (fun i hi => dropS_mem _ _ (fun e => by have := hf _ _ e; omega) l (h i (by omega)))
    have h2 := dropS_len (f n) l (h n (by omega))
    omega
/-- Among more strings than a row has there is one that it has not. -/
theorem fresh_out (f : Nat → St) (hf : ∀ i j, f i = f j → i = j) (l : List St) (n : Nat) (hn : l.length < n) : ∃ i, i < n ∧ f i ∉ l := by
  refine Classical.byContradiction fun hno => ?_
  have := holes f hf n l (fun i hi => Classical.byContradiction fun h => hno ⟨i, hi, h⟩)
  omega
end Go.Proofs.Ytoplmioejebnnaa
namespace Go.Proofs.Ytoplmioejebnnaa
open Go.RowKit
attribute [local go_sem ↓] Go.wp_at_zero Go.wp_at_succ

/-- value.Right, arbourref01.Right: may a value be? -/
def rightB (k n : Int) (s : ByteArray) : Bool :=
  if k = 0 then n == 0 && s.toList.isEmpty else if k = 1 then s.toList.isEmpty else if k = 2 then n == 0 && decide ((s.size : Int) ≤ 8) else false

theorem one_dig (u : Nat) (h : u < 10) : 48 + (u : Int) = ((UInt8.ofNat (48 + u)).toNat : Int) := by
  rw [UInt8.toNat_ofNat']; omega
theorem last_dig (u : Nat) (h : u < 18446744073709551616) : IntKind.u8.wrap (IntKind.u64.wrap (48 + (u : Int).tmod 10)) = ((UInt8.ofNat (48 + u % 10)).toNat : Int) := by
  rw [UInt8.toNat_ofNat', IntKind.wrap_u64, IntKind.wrap_u8, Int.tmod_eq_emod_of_nonneg (by omega)]; omega
theorem dec_short (u : Nat) (h : u < 18446744073709551616) : (Lib.decDigits u).length ≤ 20 := by
  rw [Lib.decDigits_length]
  by_cases h0 : u = 0
  · subst h0; rw [Lib.nDigits_small (by omega)]; omega
  · have := Lib.numDigits_eq u (by omega) h
    split at this <;> omega

theorem dec_eq (n : Int) (h : n < 0) : Lib.itoa n = 45 :: Lib.decDigits n.natAbs := by unfold Lib.itoa; rw [if_pos h]
theorem dec_eq' (n : Int) (h : ¬ n < 0) : Lib.itoa n = Lib.decDigits n.toNat := by unfold Lib.itoa; rw [if_neg h]

end Go.Proofs.Ytoplmioejebnnaa
namespace Go.Proofs.Ytoplmioejebnnaa
open Go.Deep Go.ChangeShapes Go.WideShapes Go.ChangeAt Go.WideMaps Go.WideElems Go.RowKit Go.Joins

/-- A slice's room: none of a nil one, else no less than its length. -/
def capOf (a : Option Addr) (n sp : Nat) : Nat := match a with
  | none => 0
  | some _ => n + sp
theorem capOf_of {a : Option Addr} {n c : Nat} (h : n ≤ c) (hn : a = none → c = 0) : ∃ sp, c = capOf a n sp := by
  cases a with
  | none => exact ⟨0, hn rfl⟩
  | some a => exact ⟨c - n, by show c = n + (c - n); omega⟩
theorem capOf_none {a : Option Addr} {n sp : Nat} (h : a = none) : capOf a n sp = 0 := by rw [h]; rfl
theorem capOf_some {a : Option Addr} {n sp : Nat} (h : ∃ b, a = some b) : n ≤ capOf a n sp := by
  obtain ⟨b, rfl⟩ := h
  show n ≤ n + sp
  omega
/-- The value is a row of just these ranges. -/
def RngsAt (w : World) (v : Value) (l : List Rg) : Prop :=
  inI64 l ∧ l.length ≤ 9223372036854775807 ∧ ∃ (a : Option Addr) (cap : Nat), v = .slice a l.length (capOf a l.length cap) ∧ ∀ i, i < l.length → ∃ (b off : Nat), a = some ⟨b, off, none⟩ ∧ b < w.heap.size ∧
    w.cell? ⟨b, off + i * 2, none⟩ = some (.int .i64 (l.getD i (0, 0)).1) ∧ w.cell? ⟨b, off + i * 2 + 1, none⟩ = some (.int .i64 (l.getD i (0, 0)).2)
/-- The value is a row of just these strings. -/
def StrsAt (w : World) (v : Value) (l : List ByteArray) : Prop :=
  (∀ s ∈ l, s.size ≤ 9223372036854775807) ∧ l.length ≤ 9223372036854775807 ∧ ∃ (a : Option Addr) (cap : Nat), v = .slice a l.length (capOf a l.length cap) ∧ ∀ i, i < l.length → ∃ (b off : Nat), a = some ⟨b, off, none⟩ ∧ b < w.heap.size ∧
    w.cell? ⟨b, off + i, none⟩ = some (.string (l.getD i ⟨#[]⟩))
structure SetV where
  absent : Bool
  ints : List Rg
  co : Bool
  strs : List ByteArray
/-- The value is just this set. -/
def SetAt (w : World) (v : Value) (S : SetV) : Prop := ∃ vi vs, v = .agg #[.bool S.absent, vi, .bool S.co, vs] ∧ RngsAt w vi S.ints ∧ StrsAt w vs S.strs

theorem RngsAt.on {w w' : World} {v : Value} {l : List Rg} (h : RngsAt w v l) (hb : Below w.heap.size w w') : RngsAt w' v l := by
  obtain ⟨h1, h2, a, cap, hv, h⟩ := h
  refine ⟨h1, h2, a, cap, hv, fun i hi => ?_⟩
  obtain ⟨b, off, ha, hlt, c0, c1⟩ := h i hi
  exact ⟨b, off, ha, Nat.lt_of_lt_of_le hlt hb.size, (hb.cell (p := ⟨b, _, none⟩) hlt).trans c0, (hb.cell (p := ⟨b, _, none⟩) hlt).trans c1⟩
theorem StrsAt.on {w w' : World} {v : Value} {l : List ByteArray} (h : StrsAt w v l) (hb : Below w.heap.size w w') : StrsAt w' v l := by
  obtain ⟨h1, h2, a, cap, hv, h⟩ := h
  refine ⟨h1, h2, a, cap, hv, fun i hi => ?_⟩
  obtain ⟨b, off, ha, hlt, c0⟩ := h i hi
  exact ⟨b, off, ha, Nat.lt_of_lt_of_le hlt hb.size, (hb.cell (p := ⟨b, _, none⟩) hlt).trans c0⟩
theorem SetAt.on {w w' : World} {v : Value} {S : SetV} (h : SetAt w v S) (hb : Below w.heap.size w w') : SetAt w' v S := by
  obtain ⟨vi, vs, hv, h1, h2⟩ := h
  exact ⟨vi, vs, hv, h1.on hb, h2.on hb⟩
theorem RngsAt.bound {w : World} {v : Value} {l : List Rg} (h : RngsAt w v l) (i : Nat) (hi : i < l.length) : -9223372036854775808 ≤ (l.getD i (0, 0)).1 ∧ (l.getD i (0, 0)).1 ≤ 9223372036854775807 ∧ -9223372036854775808 ≤ (l.getD i (0, 0)).2 ∧ (l.getD i (0, 0)).2 ≤ 9223372036854775807 := by
  refine h.1 _ ?_
  rw [List.getD_eq_getElem?_getD, List.getElem?_eq_getElem hi]
  exact List.getElem_mem _
theorem StrsAt.bound {w : World} {v : Value} {l : List ByteArray} (h : StrsAt w v l) (i : Nat) (hi : i < l.length) : (l.getD i ⟨#[]⟩).size ≤ 9223372036854775807 := by
  refine h.1 _ ?_
  rw [List.getD_eq_getElem?_getD, List.getElem?_eq_getElem hi]
  exact List.getElem_mem _
/-- The form of a row's value, and its cells. -/
theorem RngsAt.at {w : World} {a : Option Addr} {n cap : Nat} {l : List Rg} (h : RngsAt w (.slice a n cap) l) : n = l.length ∧ ∀ i, i < l.length → ∃ (b off : Nat), a = some ⟨b, off, none⟩ ∧ b < w.heap.size ∧
    w.cell? ⟨b, off + i * 2, none⟩ = some (.int .i64 (l.getD i (0, 0)).1) ∧ w.cell? ⟨b, off + i * 2 + 1, none⟩ = some (.int .i64 (l.getD i (0, 0)).2) := by
  obtain ⟨h1, h2, a', cap', hv, h⟩ := h
  injection hv with e1 e2 e3
  subst e1 e2
  exact ⟨rfl, h⟩
theorem StrsAt.at {w : World} {a : Option Addr} {n cap : Nat} {l : List ByteArray} (h : StrsAt w (.slice a n cap) l) : n = l.length ∧ ∀ i, i < l.length → ∃ (b off : Nat), a = some ⟨b, off, none⟩ ∧ b < w.heap.size ∧
    w.cell? ⟨b, off + i, none⟩ = some (.string (l.getD i ⟨#[]⟩)) := by
  obtain ⟨h1, h2, a', cap', hv, h⟩ := h
  injection hv with e1 e2 e3
  subst e1 e2
  exact ⟨rfl, h⟩
theorem RngsAt.form {w : World} {v : Value} {l : List Rg} (h : RngsAt w v l) : ∃ a cap, v = .slice a l.length cap := by
  obtain ⟨_, _, a, cap, hv, _⟩ := h
  exact ⟨a, _, hv⟩
theorem RngsAt.room {w : World} {a : Option Addr} {n cap : Nat} {l : List Rg} (h : RngsAt w (.slice a n cap) l) : n ≤ cap ∧ (a = none → n = 0 ∧ cap = 0) := by
  obtain ⟨_, _, a', sp, hv, he⟩ := h
  injection hv with e1 e2 e3
  subst e1 e2 e3
  cases a with
  | none =>
    have h0 : l.length = 0 := Classical.byContradiction fun hne => by
      obtain ⟨b, off, e, _⟩ := he 0 (by omega)
      cases e
    exact ⟨by rw [h0]; exact Nat.zero_le _, fun _ => ⟨h0, rfl⟩⟩
  | some a => exact ⟨capOf_some ⟨a, rfl⟩, fun e => by cases e⟩
theorem StrsAt.form {w : World} {v : Value} {l : List ByteArray} (h : StrsAt w v l) : ∃ a cap, v = .slice a l.length cap := by
  obtain ⟨_, _, a, cap, hv, _⟩ := h
  exact ⟨a, _, hv⟩
theorem StrsAt.room {w : World} {a : Option Addr} {n cap : Nat} {l : List ByteArray} (h : StrsAt w (.slice a n cap) l) : n ≤ cap ∧ (a = none → n = 0 ∧ cap = 0) := by
  obtain ⟨_, _, a', sp, hv, he⟩ := h
  injection hv with e1 e2 e3
  subst e1 e2 e3
  cases a with
  | none =>
    have h0 : l.length = 0 := Classical.byContradiction fun hne => by
      obtain ⟨b, off, e, _⟩ := he 0 (by omega)
      cases e
    exact ⟨by rw [h0]; exact Nat.zero_le _, fun _ => ⟨h0, rfl⟩⟩
  | some a => exact ⟨capOf_some ⟨a, rfl⟩, fun e => by cases e⟩

theorem lt_cell {w : World} {a : Addr} {v : Value} (h : w.cell? a = some v) : a.block < w.heap.size := by
  rcases Nat.lt_or_ge a.block w.heap.size with h' | h'
  · exact h'
  · exfalso
    simp [World.cell?, Array.getElem?_eq_none h'] at h
theorem cellsRg : Try.prog.cellsOf 54 = 2 := by kernel_rfl
theorem cellsI : Try.prog.cellsOf 3 = 1 := by kernel_rfl
theorem cellsB : Try.prog.cellsOf 4 = 1 := by kernel_rfl
theorem cellsS : Try.prog.cellsOf 9 = 1 := by kernel_rfl
theorem cellsRs : Try.prog.cellsOf 22 = 1 := by kernel_rfl
theorem cellsSs : Try.prog.cellsOf 23 = 1 := by kernel_rfl
theorem cellsSet : Try.prog.cellsOf 25 = 4 := by kernel_rfl
theorem getD_map_range {α : Type} (n i : Nat) (f : Nat → α) (d : α) (h : i < n) : ((List.range n).map f).getD i d = f i := by
  simp [List.getD_eq_getElem?_getD, h]

section
variable {H : Type} {enc : TypeId × Value → H} {W : World}
set_option maxRecDepth 100000 in
theorem open_rngs {fuel : Nat} {v : Value} {x : DataW H × List MemPlace} (hf : DataW.trod enc Try.prog W 0 (fun _ => true) true fuel 22 [v] = some x) : ∃ l, RngsAt W v l := by
  rcases Go.Deep.open_slice Try.underlying22 hf with ⟨h0, _⟩ | ⟨a, len, cap, m, n, D, Pl, h0, hb, hl, hm, hmm, _, hx⟩
  · simp at h0
    subst h0
    exact ⟨[], fun _ h => by simp at h, by simp, none, 0, rfl, fun i hi => by simp at hi⟩
  · simp at h0
    subst h0
    simp at hmm
    subst hmm
    have hspot : 0 < len → a.spot = none := fun hpos => by
      obtain ⟨cs0, z1, _⟩ := hx 0 (by omega)
      rw [cellsRg] at z1
      obtain ⟨_, zl, zc⟩ := World.cells?_some z1
      have z0 := zc 0 (by omega)
      rw [List.getElem?_eq_getElem (by omega)] at z0
      simpa [Addr.add] using World.cell?_spot z0
    have hall : ∀ i, i < len → ∃ r : Rg, (-9223372036854775808 ≤ r.1 ∧ r.1 ≤ 9223372036854775807 ∧ -9223372036854775808 ≤ r.2 ∧ r.2 ≤ 9223372036854775807) ∧ W.cell? ⟨a.block, a.off + i * 2, none⟩ = some (.int .i64 r.1) ∧ W.cell? ⟨a.block, a.off + i * 2 + 1, none⟩ = some (.int .i64 r.2) := fun i hi => by
      obtain ⟨cs', h1, h2⟩ := hx i (by omega)
      rw [cellsRg] at h1
      obtain ⟨_, hlen, hc⟩ := World.cells?_some h1
      match cs', hlen with
      | [c0, c1], _ =>
        obtain ⟨y0, y1, m', _, _, g0, g1⟩ := trod_struct2 Try.underlying54 h2
        simp only [cellsI] at g0 g1
        obtain ⟨k, e0, _, wk⟩ := DataW.trod_int Try.underlying3 g0
        obtain ⟨l, e1, _, wl⟩ := DataW.trod_int Try.underlying3 g1
        simp at e0 e1
        subst e0 e1
        have q0 := hc 0 (by omega)
        have q1 := hc 1 (by omega)
        obtain ⟨bk, off, spot⟩ := a
        have hs : spot = none := hspot (by omega)
        subst hs
        have f0 : ((Addr.mk bk off none).add (i * 2)).add 0 = ⟨bk, off + i * 2, none⟩ := by rw [Go.Deep.add_add, Go.WideShapes.add_plain]; rfl
        have f1 : ((Addr.mk bk off none).add (i * 2)).add 1 = ⟨bk, off + i * 2 + 1, none⟩ := by rw [Go.Deep.add_add, Go.WideShapes.add_plain]; rfl
        rw [f0] at q0
        rw [f1] at q1
        obtain ⟨k0, k1⟩ := bounds_i64 wk
        obtain ⟨l0, l1⟩ := bounds_i64 wl
        exact ⟨(k, l), ⟨k0, k1, l0, l1⟩, q0, q1⟩
    obtain ⟨f, hf'⟩ := choose_lt hall
    refine ⟨(List.range len).map f, ?_, by simp; unfold maxLen at hm; omega, some a, m - len, by simp [capOf]; omega, fun i hi => ?_⟩
    · intro r hr
      obtain ⟨i, hi, rfl⟩ := List.mem_map.1 hr
      exact (hf' i (List.mem_range.1 hi)).1
    · simp at hi
      rw [getD_map_range len i f _ hi]
      obtain ⟨_, q0, q1⟩ := hf' i hi
      exact ⟨a.block, a.off, by rw [← hspot (by omega)], lt_cell (a := ⟨a.block, _, none⟩) q0, q0, q1⟩
set_option maxRecDepth 100000 in
theorem open_strs {fuel : Nat} {v : Value} {x : DataW H × List MemPlace} (hf : DataW.trod enc Try.prog W 0 (fun _ => true) true fuel 23 [v] = some x) : ∃ l, StrsAt W v l := by
  rcases Go.Deep.open_slice1 Try.underlying23 cellsS hf with ⟨h0, _⟩ | ⟨a, len, cap, m, n, V, D, Pl, h0, hb, hl, hm, hmm, _, hx⟩
  · simp at h0
    subst h0
    exact ⟨[], fun _ h => by simp at h, by simp, none, 0, rfl, fun i hi => by simp at hi⟩
  · simp at h0
    subst h0
    simp at hmm
    subst hmm
    have hspot : 0 < len → a.spot = none := fun hpos => by
      have := (hx 0 (by omega)).1
      simpa [Addr.add] using World.cell?_spot this
    have hall : ∀ i, i < len → ∃ s : ByteArray, s.size ≤ 9223372036854775807 ∧ W.cell? ⟨a.block, a.off + i, none⟩ = some (.string s) := fun i hi => by
      obtain ⟨h1, h2⟩ := hx i (by omega)
      obtain ⟨s, e, _, ws⟩ := DataW.trod_string Try.underlying9 h2
      simp at e
      rw [e] at h1
      refine ⟨s, by unfold maxLen at ws; omega, ?_⟩
      obtain ⟨bk, off, spot⟩ := a
      have hs : spot = none := hspot (by omega)
      subst hs
      rw [Go.WideShapes.add_plain] at h1
      exact h1
    have : Inhabited ByteArray := ⟨⟨#[]⟩⟩
    obtain ⟨f, hf'⟩ := choose_lt hall
    refine ⟨(List.range len).map f, ?_, by simp; unfold maxLen at hm; omega, some a, m - len, by simp [capOf]; omega, fun i hi => ?_⟩
    · intro r hr
      obtain ⟨i, hi, rfl⟩ := List.mem_map.1 hr
      exact (hf' i (List.mem_range.1 hi)).1
    · simp at hi
      rw [getD_map_range len i f _ hi]
      obtain ⟨_, q0⟩ := hf' i hi
      exact ⟨a.block, a.off, by rw [← hspot (by omega)], lt_cell (a := ⟨a.block, _, none⟩) q0, q0⟩
theorem trod_struct4 {P : Program} {w : World} {base : Nat} {spare : Nat → Bool} {held : Bool} {t : TypeId} {f0 f1 f2 f3 : Field} {fuel : Nat} {cs : List Value} {x : DataW H × List MemPlace} (ht : P.underlying t = some (.struct #[f0, f1, f2, f3])) (h : DataW.trod enc P w base spare held fuel t cs = some x) :
    ∃ y0 y1 y2 y3 n, DataW.trod enc P w base spare held n f0.type ((cs.drop f0.offset).take (P.cellsOf f0.type)) = some y0 ∧ DataW.trod enc P w base spare held n f1.type ((cs.drop f1.offset).take (P.cellsOf f1.type)) = some y1 ∧
      DataW.trod enc P w base spare held n f2.type ((cs.drop f2.offset).take (P.cellsOf f2.type)) = some y2 ∧ DataW.trod enc P w base spare held n f3.type ((cs.drop f3.offset).take (P.cellsOf f3.type)) = some y3 := by
  obtain ⟨xs, n, _, rfl, hl, hlen, hf⟩ := DataW.trod_struct ht h
  match xs, hlen with
  | [y0, y1, y2, y3], _ => exact ⟨y0, y1, y2, y3, n, by simpa using hf 0 f0 rfl, by simpa using hf 1 f1 rfl, by simpa using hf 2 f2 rfl, by simpa using hf 3 f3 rfl⟩
set_option maxRecDepth 100000 in
theorem open_setc {fuel : Nat} {c0 c1 c2 c3 : Value} {x : DataW H × List MemPlace} (hf : DataW.trod enc Try.prog W 0 (fun _ => true) true fuel 25 [c0, c1, c2, c3] = some x) : ∃ S, SetAt W (.agg #[c0, c1, c2, c3]) S := by
  obtain ⟨y0, y1, y2, y3, n, g0, g1, g2, g3⟩ := trod_struct4 Try.underlying25 hf
  simp only [cellsB, cellsRs, cellsSs] at g0 g1 g2 g3
  obtain ⟨b0, e0, _⟩ := DataW.trod_bool Try.underlying4 g0
  obtain ⟨l, hl⟩ := open_rngs g1
  obtain ⟨b2, e2, _⟩ := DataW.trod_bool Try.underlying4 g2
  obtain ⟨m, hm⟩ := open_strs g3
  simp at e0 e2
  subst e0 e2
  exact ⟨⟨b0, l, b2, m⟩, c1, c3, rfl, hl, hm⟩
set_option maxRecDepth 100000 in
theorem open_set {r : Reach} {b0 : Nat} {v : Value} {d : DataW H} {p : List MemPlace} (hv : Value.okWide Try.prog W r b0 25 v) (h : DataW.Trod enc Try.prog W 0 (fun _ => true) true 25 v d p) : ∃ S, SetAt W v S := by
  obtain ⟨cs, rfl, hsz⟩ := okWide_struct Try.underlying25 hv
  rw [cellsSet] at hsz
  obtain ⟨l⟩ := cs
  match l, hsz with
  | [c0, c1, c2, c3], _ =>
    obtain ⟨fuel, hf⟩ := h
    exact open_setc hf
end
end Go.Proofs.Ytoplmioejebnnaa
namespace Go.Proofs.Ytoplmioejebnnaa
open Go.RowKit

theorem drop_getD {α : Type} (l : List α) (k : Nat) (d : α) (h : k < l.length) : l.drop k = l.getD k d :: l.drop (k + 1) := by
  rw [List.drop_eq_getElem_cons h, List.getD_eq_getElem?_getD, List.getElem?_eq_getElem h]; rfl
def inIntsB (l : List Rg) (n : Int) : Bool := l.any fun r => decide (r.1 ≤ n) && decide (n ≤ r.2)
def inStrsB (l : List ByteArray) (s : ByteArray) : Bool := l.any fun t => t.toList == s.toList
/-- May the value be, and is it in the set? -/
def hasB (S : SetV) (k n : Int) (s : ByteArray) : Bool := rightB k n s && (if k = 0 then S.absent else if k = 1 then inIntsB S.ints n else (inStrsB S.strs s != S.co))

/-- Two new blocks, still there behind a call. -/
theorem two_new {w w1 : World} {o1 o2 : Obj} (h : Below ((w.alloc o1).alloc o2).heap.size ((w.alloc o1).alloc o2) w1) : w1.heap[w.heap.size]? = some o1 ∧ w1.heap[w.heap.size + 1]? = some o2 ∧ Below w.heap.size w w1 := by
  have s1 : (w.alloc o1).heap.size = w.heap.size + 1 := by show (w.heap.push _).size = _; simp
  have s2 : ((w.alloc o1).alloc o2).heap.size = w.heap.size + 2 := by show ((w.alloc o1).heap.push _).size = _; rw [Array.size_push, s1]
  refine ⟨?_, ?_, below_alloc (below_alloc h)⟩
  · rw [h.block _ (by omega)]
    show ((w.heap.push o1).push o2)[w.heap.size]? = _
    rw [Array.getElem?_push, if_neg (by simp), Array.getElem?_push, if_pos rfl]
  · rw [h.block _ (by omega)]
    show ((w.heap.push o1).push o2)[w.heap.size + 1]? = _
    rw [Array.getElem?_push, if_pos (by simp)]
theorem SetAt.form {w : World} {v : Value} {S : SetV} (h : SetAt w v S) : ∃ vi vs, v = .agg #[.bool S.absent, vi, .bool S.co, vs] ∧ RngsAt w vi S.ints ∧ StrsAt w vs S.strs := h

end Go.Proofs.Ytoplmioejebnnaa
namespace Go.Proofs.Ytoplmioejebnnaa
open Go.RowKit

def rgB : Option Int → List Rg → Bool
  | _, [] => true
  | none, r :: l => decide (r.1 ≤ r.2) && rgB (some r.2) l
  | some h, r :: l => decide (r.1 ≤ r.2) && (decide (h + 1 < r.1) && rgB (some r.2) l)
def stB : Option ByteArray → List ByteArray → Bool
  | _, [] => true
  | none, s :: l => decide (s.size ≤ 8) && stB (some s) l
  | some p, s :: l => decide (s.size ≤ 8) && (Op.bytesLess p.toList s.toList && stB (some s) l)
/-- Is the set as it should be? -/
def rightSet (S : SetV) : Bool := rgB none S.ints && stB none S.strs

def prevR (l : List Rg) (k : Nat) : Option Int := if k = 0 then none else some (l.getD (k - 1) (0, 0)).2
def prevS (l : List ByteArray) (k : Nat) : Option ByteArray := if k = 0 then none else some (l.getD (k - 1) ⟨#[]⟩)
theorem below_drewN {w w1 : World} (h : Below w.heap.size w w1) (n : Nat) : Below w.heap.size w (w1.drewN n) := ⟨h.os, h.tape, h.output, h.size, h.block⟩

end Go.Proofs.Ytoplmioejebnnaa
namespace Go.Proofs.Ytoplmioejebnnaa
open Go.RowKit

def rngEqB : List Rg → List Rg → Bool
  | [], [] => true
  | r :: l, s :: m => ((r.1 == s.1) && (r.2 == s.2)) && rngEqB l m
  | _, _ => false
def strEqB : List ByteArray → List ByteArray → Bool
  | [], [] => true
  | r :: l, s :: m => (r.toList == s.toList) && strEqB l m
  | _, _ => false
theorem rngEqB_iff : ∀ a b : List Rg, rngEqB a b = true ↔ a = b
  | [], [] => by simp [rngEqB]
  | [], _ :: _ => by simp [rngEqB]
  | _ :: _, [] => by simp [rngEqB]
  | r :: l, s :: m => by
    simp only [rngEqB, Bool.and_eq_true, beq_iff_eq, rngEqB_iff l m, List.cons.injEq]
    constructor
    · rintro ⟨⟨h1, h2⟩, h3⟩; exact ⟨Prod.ext h1 h2, h3⟩
    · rintro ⟨rfl, h⟩; exact ⟨⟨rfl, rfl⟩, h⟩
theorem bytes_eq {a b : ByteArray} : (a.toList == b.toList) = true ↔ a = b := by
  rw [beq_iff_eq, ByteArray.toList_eq, ByteArray.toList_eq]
  constructor
  · intro h; apply ByteArray.ext; exact Array.toList_inj.1 h
  · rintro rfl; rfl
theorem strEqB_iff : ∀ a b : List ByteArray, strEqB a b = true ↔ a = b
  | [], [] => by simp [strEqB]
  | [], _ :: _ => by simp [strEqB]
  | _ :: _, [] => by simp [strEqB]
  | r :: l, s :: m => by simp only [strEqB, Bool.and_eq_true, bytes_eq, strEqB_iff l m, List.cons.injEq]
theorem rngEqB_len : ∀ a b : List Rg, a.length ≠ b.length → rngEqB a b = false := fun a b h => by
  cases e : rngEqB a b
  · rfl
  · exact absurd (congrArg List.length ((rngEqB_iff a b).1 e)) h
theorem strEqB_len : ∀ a b : List ByteArray, a.length ≠ b.length → strEqB a b = false := fun a b h => by
  cases e : strEqB a b
  · rfl
  · exact absurd (congrArg List.length ((strEqB_iff a b).1 e)) h
/-- Are the sets the same, field by field? -/
def sameB (A B : SetV) : Bool := ((A.absent == B.absent) && (A.co == B.co)) && (rngEqB A.ints B.ints && strEqB A.strs B.strs)
theorem sameB_iff (A B : SetV) : sameB A B = true ↔ A = B := by
  obtain ⟨a1, a2, a3, a4⟩ := A
  obtain ⟨b1, b2, b3, b4⟩ := B
  simp only [sameB, Bool.and_eq_true, beq_iff_eq, rngEqB_iff, strEqB_iff, SetV.mk.injEq]
  constructor
  · rintro ⟨⟨h1, h2⟩, h3, h4⟩; exact ⟨h1, h3, h2, h4⟩
  · rintro ⟨h1, h2, h3, h4⟩; exact ⟨⟨h1, h3⟩, h2, h4⟩

theorem two_boxes (w : World) (o1 o2 : Obj) : ((w.alloc o1).alloc o2).heap[w.heap.size]? = some o1 ∧ ((w.alloc o1).alloc o2).heap[w.heap.size + 1]? = some o2 ∧ Below w.heap.size w ((w.alloc o1).alloc o2) := two_new (Below.refl _ _)

end Go.Proofs.Ytoplmioejebnnaa
namespace Go.Proofs.Ytoplmioejebnnaa
open Go.RowKit

def noSet : SetV := ⟨false, [], false, []⟩
/-- The value is a row of just these sets. -/
def SetsAt (w : World) (v : Value) (l : List SetV) : Prop :=
  l.length ≤ 9223372036854775807 ∧ ∃ (a : Option Addr) (cap : Nat), v = .slice a l.length cap ∧ ∀ i, i < l.length → ∃ (b off : Nat) (vi vs : Value), a = some ⟨b, off, none⟩ ∧ b < w.heap.size ∧
    w.cell? ⟨b, off + i * 4, none⟩ = some (.bool (l.getD i noSet).absent) ∧ w.cell? ⟨b, off + i * 4 + 1, none⟩ = some vi ∧ w.cell? ⟨b, off + i * 4 + 2, none⟩ = some (.bool (l.getD i noSet).co) ∧ w.cell? ⟨b, off + i * 4 + 3, none⟩ = some vs ∧
    RngsAt w vi (l.getD i noSet).ints ∧ StrsAt w vs (l.getD i noSet).strs
theorem SetsAt.on {w w' : World} {v : Value} {l : List SetV} (h : SetsAt w v l) (hb : Below w.heap.size w w') : SetsAt w' v l := by
  obtain ⟨h2, a, cap, hv, h⟩ := h
  refine ⟨h2, a, cap, hv, fun i hi => ?_⟩
  obtain ⟨b, off, vi, vs, ha, hlt, c0, c1, c2, c3, h1, h2⟩ := h i hi
  exact ⟨b, off, vi, vs, ha, Nat.lt_of_lt_of_le hlt hb.size, (hb.cell (p := ⟨b, _, none⟩) hlt).trans c0, (hb.cell (p := ⟨b, _, none⟩) hlt).trans c1, (hb.cell (p := ⟨b, _, none⟩) hlt).trans c2, (hb.cell (p := ⟨b, _, none⟩) hlt).trans c3, h1.on hb, h2.on hb⟩
theorem SetsAt.at {w : World} {a : Option Addr} {n cap : Nat} {l : List SetV} (h : SetsAt w (.slice a n cap) l) : n = l.length ∧ ∀ i, i < l.length → ∃ (b off : Nat) (vi vs : Value), a = some ⟨b, off, none⟩ ∧ b < w.heap.size ∧
    w.cell? ⟨b, off + i * 4, none⟩ = some (.bool (l.getD i noSet).absent) ∧ w.cell? ⟨b, off + i * 4 + 1, none⟩ = some vi ∧ w.cell? ⟨b, off + i * 4 + 2, none⟩ = some (.bool (l.getD i noSet).co) ∧ w.cell? ⟨b, off + i * 4 + 3, none⟩ = some vs ∧
    RngsAt w vi (l.getD i noSet).ints ∧ StrsAt w vs (l.getD i noSet).strs := by
  obtain ⟨h2, a', cap', hv, h⟩ := h
  injection hv with e1 e2 e3
  subst e1 e2
  exact ⟨rfl, h⟩

def fewB (S : SetV) : Bool := (decide (S.ints.length ≤ 40) && decide (S.strs.length ≤ 40)) && S.strs.all fun s => decide (s.size ≤ 100)

end Go.Proofs.Ytoplmioejebnnaa
namespace Go.Proofs.Ytoplmioejebnnaa
open Go.RowKit

/-- Does one of the sets name the string? -/
def namedB (l : List SetV) (t : ByteArray) : Bool := l.any fun S => inStrsB S.strs t
/-- The n-th string that is tried. -/
def tryS (s : ByteArray) (n : Nat) : ByteArray := s ++ ⟨(Lib.itoa (n : Int)).toArray⟩
theorem itoa_short (n : Nat) (h : n ≤ 100000) : (⟨(Lib.itoa (n : Int)).toArray⟩ : ByteArray).size ≤ 20 := by
  rw [Lib.itoa_nonneg]
  have := dec_short n (by omega)
  simpa [ByteArray.size] using this

/-- What Fresh answers. -/
def FreshOut (l : List SetV) (s t : ByteArray) : Prop :=
  (∃ j : Nat, j < 100000 ∧ t = tryS s j ∧ namedB l t = false) ∨ (t = s ∧ ∀ j : Nat, j < 100000 → namedB l (tryS s j) = true)

end Go.Proofs.Ytoplmioejebnnaa
namespace Go.Proofs.Ytoplmioejebnnaa
open Go.RowKit

abbrev Va := Int × Int × ByteArray
def vaCells (l : List Va) : List Value := l.flatMap fun v => [.int .i64 v.1, .int .i64 v.2.1, .string v.2.2]
theorem vaCells_append (a b : List Va) : vaCells (a ++ b) = vaCells a ++ vaCells b := by unfold vaCells; rw [List.flatMap_append]
theorem vaCells_len : ∀ l : List Va, (vaCells l).length = l.length * 3
  | [] => rfl
  | v :: l => by
    have := vaCells_len l
    unfold vaCells at *
    rw [List.flatMap_cons, List.length_append, this]
    simp; omega
theorem vaCells_one (l : List Va) : ∀ u ∈ vaCells l, u.oneCell' = true := by
  intro u hu
  unfold vaCells at hu
  obtain ⟨v, _, hv⟩ := List.mem_flatMap.1 hu
  simp at hv
  rcases hv with rfl | rfl | rfl <;> rfl
theorem infoVal : (Try.prog.info? 30).map (fun i => (i.zero, i.size, i.bytes)) = some (some (.agg #[.int .i64 0, .int .i64 0, .string ⟨#[]⟩]), 3, 32) := by kernel_rfl
/-- The slice value owns just these values, from block B on. -/
def OwnV (w : World) (B : Nat) (v : Value) (l : List Va) : Prop := w.ownsRow B 30 3 v l.length (vaCells l)
theorem OwnV.alloc {w : World} {B : Nat} {v : Value} {l : List Va} (h : OwnV w B v l) (o : Obj) : OwnV (w.alloc o) B v l := World.ownsRow.alloc h o
theorem OwnV.grownB {w w' : World} {B : Nat} {v : Value} {l : List Va} (h : OwnV w B v l) (hB : B ≤ w.heap.size) (hg : w.grownBy w' v.ownBlock) : Below B w w' :=
  (Below.refl _ _).grown hg hB (fun k hk => (World.ownsRow.lt h k hk).1)
theorem OwnV.on {w w' : World} {B : Nat} {v : Value} {l : List Va} (h : OwnV w B v l) (hb : Below w.heap.size w w') : OwnV w' B v l :=
  World.ownsRow.kept (row := none) h ⟨hb.os, hb.tape, hb.output, hb.size, fun k hk _ => hb.block k hk⟩ (by cases v.ownBlock <;> simp)
theorem ownV_new (w : World) (cs : Array Value) (l : List Va) (h : cs.toList = vaCells l) (hl : l.length ≤ 1000) : OwnV (w.alloc (.cells cs 30)) w.heap.size (.slice (some ⟨w.heap.size, 0, none⟩) l.length l.length) l := by
  have hs : cs.size = l.length * 3 := by rw [← Array.length_toList, h, vaCells_len]
  refine ⟨vaCells_len l, Or.inr ⟨w.heap.size, l.length, cs, rfl, Nat.le_refl _, heap_top _ _, Nat.le_refl _, by unfold maxLen; omega, hs, ?_⟩⟩
  rw [h, List.take_of_length_le (by rw [vaCells_len]; omega)]
/-- In the midst of a round: a row of the call's own, and beside it a range in a block R. -/
structure InR (w0 w : World) (R : Nat) (r : Rg) (o : Value) (l : List Va) : Prop where
  own : OwnV w w0.heap.size o l
  ne : o.ownBlock ≠ some R
  rb : w.heap[R]? = some (.cells #[.int .i64 r.1, .int .i64 r.2] 54 (0, 0))
  below : Below w0.heap.size w0 w
theorem InR.alloc {w0 w : World} {R : Nat} {r : Rg} {o : Value} {l : List Va} (h : InR w0 w R r o l) (x : Obj) : InR w0 (w.alloc x) R r o l :=
  ⟨h.own.alloc x, h.ne, (((Below.refl _ w).alloc (Nat.le_refl _) x).block R (lt_heap h.rb)).trans h.rb, h.below.alloc h.below.size x⟩
theorem InR.cells {w0 w : World} {R : Nat} {r : Rg} {o : Value} {l : List Va} (h : InR w0 w R r o l) : w.cell? ⟨R, 0, none⟩ = some (.int .i64 r.1) ∧ w.cell? ⟨R, 1, none⟩ = some (.int .i64 r.2) := ⟨cell_heap h.rb 0, cell_heap h.rb 1⟩
theorem InR.start {w0 w : World} {r : Rg} {o : Value} {l : List Va} (h : OwnV w w0.heap.size o l) (hb : Below w0.heap.size w0 w) : InR w0 (w.alloc (.cells #[.int .i64 r.1, .int .i64 r.2] 54)) w.heap.size r o l :=
  ⟨h.alloc _, fun e => by have := (World.ownsRow.lt h _ e).2; omega, heap_top _ _, hb.alloc hb.size _⟩
theorem two_at (w : World) (o1 o2 : Obj) : ((w.alloc o1).alloc o2).heap[w.heap.size + 1]? = some o2 := (two_new (Below.refl _ _)).2.1

/-! ### The points -/
def noS : ByteArray := ⟨#[]⟩
def ptsR (r : Rg) : List Va := ([(1, r.1, noS), (1, r.2, noS)] ++ if -9223372036854775808 < r.1 then [(1, r.1 - 1, noS)] else []) ++ if r.2 < 9223372036854775807 then [(1, r.2 + 1, noS)] else []
def ptsS (S : SetV) : List Va := S.ints.flatMap ptsR ++ S.strs.map fun s => (2, 0, s)
def pts0 : List Va := [(0, 0, noS), (1, -9223372036854775808, noS), (1, 9223372036854775807, noS), (1, 0, noS)]
def ptsL (l : List SetV) : List Va := pts0 ++ l.flatMap ptsS
theorem ptsR_len (r : Rg) : (ptsR r).length ≤ 4 := by
  unfold ptsR
  split <;> split <;> simp
theorem flat_len {α β : Type} (f : α → List β) (c : Nat) : ∀ l : List α, (∀ x ∈ l, (f x).length ≤ c) → (l.flatMap f).length ≤ l.length * c
  | [], _ => by simp
  | x :: l, h => by
    rw [List.flatMap_cons, List.length_append, List.length_cons, Nat.succ_mul]
    have := flat_len f c l (fun y hy => h y (by simp [hy]))
    have := h x (by simp)
    omega
theorem take_flat {α β : Type} (f : α → List β) (l : List α) (k : Nat) (d : α) (h : k < l.length) : (l.take (k + 1)).flatMap f = (l.take k).flatMap f ++ f (l.getD k d) := by
  rw [List.take_succ_eq_append_getElem h, List.flatMap_append, List.getD_eq_getElem?_getD, List.getElem?_eq_getElem h]
  simp
theorem take_map {α β : Type} (f : α → β) (l : List α) (k : Nat) (d : α) (h : k < l.length) : (l.take (k + 1)).map f = (l.take k).map f ++ [f (l.getD k d)] := by
  rw [List.take_succ_eq_append_getElem h, List.map_append, List.getD_eq_getElem?_getD, List.getElem?_eq_getElem h]
  simp

end Go.Proofs.Ytoplmioejebnnaa
namespace Go.Proofs.Ytoplmioejebnnaa
open Go.RowKit

theorem two_bx (w : World) (o1 o2 : Obj) : ((w.alloc o1).alloc o2).heap[w.heap.size]? = some o1 ∧ ((w.alloc o1).alloc o2).heap[w.heap.size + 1]? = some o2 ∧ Below w.heap.size w ((w.alloc o1).alloc o2) := two_new (Below.refl _ _)
def noVa : Va := (0, 0, noS)
theorem OwnV.form {w : World} {B : Nat} {v : Value} {l : List Va} (h : OwnV w B v l) (hne : 0 < l.length) : ∃ g cap, v = .slice (some ⟨g, 0, none⟩) l.length cap ∧ B ≤ g ∧ g < w.heap.size := by
  rcases h.2 with ⟨_, h⟩ | ⟨g, cap, cur, h1, h2, h3, _⟩
  · omega
  · exact ⟨g, cap, h1, h2, lt_heap h3⟩
theorem vaCells_at : ∀ (l : List Va) (i : Nat), i < l.length → (vaCells l)[i * 3]? = some (.int .i64 (l.getD i noVa).1) ∧ (vaCells l)[i * 3 + 1]? = some (.int .i64 (l.getD i noVa).2.1) ∧ (vaCells l)[i * 3 + 2]? = some (.string (l.getD i noVa).2.2)
  | [], i, h => by simp at h
  | v :: l, 0, _ => by simp [vaCells]
  | v :: l, i + 1, h => by
    have ih := vaCells_at l i (by simpa using h)
    have e : vaCells (v :: l) = [.int .i64 v.1, .int .i64 v.2.1, .string v.2.2] ++ vaCells l := rfl
    rw [e]
    refine ⟨?_, ?_, ?_⟩
    · rw [List.getElem?_append_right (by simp; omega)]
      simpa [show (i + 1) * 3 - 3 = i * 3 by omega] using ih.1
    · rw [List.getElem?_append_right (by simp; omega)]
      simpa [show (i + 1) * 3 + 1 - 3 = i * 3 + 1 by omega] using ih.2.1
    · rw [List.getElem?_append_right (by simp; omega)]
      simpa [show (i + 1) * 3 + 2 - 3 = i * 3 + 2 by omega] using ih.2.2
theorem OwnV.at {w : World} {B g n cap : Nat} {l : List Va} (h : OwnV w B (.slice (some ⟨g, 0, none⟩) n cap) l) (i : Nat) (hi : i < l.length) : w.cell? ⟨g, i * 3, none⟩ = some (.int .i64 (l.getD i noVa).1) ∧ w.cell? ⟨g, i * 3 + 1, none⟩ = some (.int .i64 (l.getD i noVa).2.1) ∧ w.cell? ⟨g, i * 3 + 2, none⟩ = some (.string (l.getD i noVa).2.2) := by
  obtain ⟨hl, hr⟩ := h
  rcases hr with ⟨h0, _⟩ | ⟨g', cap', cur, h1, h2, h3, h4, h5, h6, h7⟩
  · cases h0
  · injection h1 with e1 e2 e3
    injection e1 with e1
    injection e1 with e1
    subst e1
    have hc : ∀ j, j < l.length * 3 → w.cell? ⟨g, j, none⟩ = (vaCells l)[j]? := fun j hj => by
      rw [cell_heap h3, ← h7, List.getElem?_take, if_pos hj]
      simp
    obtain ⟨a1, a2, a3⟩ := vaCells_at l i hi
    exact ⟨(hc _ (by omega)).trans a1, (hc _ (by omega)).trans a2, (hc _ (by omega)).trans a3⟩

def hasP (S : SetV) (p : Va) : Bool := hasB S p.1 p.2.1 p.2.2
/-- In, point by point. -/
def inPts (A B : SetV) (ps : List Va) : Bool := ps.all fun p => !(hasP A p && !(hasP B p))
theorem SetAt.pair {w : World} {v u : Value} {A B : SetV} (hv : SetAt w v A) (hu : SetAt w u B) (n : Nat) (hn : n = w.heap.size) : ∀ vi vs ui us, v = .agg #[.bool A.absent, vi, .bool A.co, vs] → u = .agg #[.bool B.absent, ui, .bool B.co, us] →
    SetsAt (w.alloc (.cells #[.bool A.absent, vi, .bool A.co, vs, .bool B.absent, ui, .bool B.co, us] 25)) (.slice (some ⟨n, 0, none⟩) 2 2) [A, B] := by
  intro vi vs ui us ev eu
  subst hn
  obtain ⟨vi', vs', ev', hI, hS⟩ := hv
  obtain ⟨ui', us', eu', hJ, hT⟩ := hu
  rw [ev] at ev'
  rw [eu] at eu'
  simp at ev' eu'
  obtain ⟨rfl, rfl⟩ := ev'
  obtain ⟨rfl, rfl⟩ := eu'
  have hb := (Below.refl _ w).alloc (Nat.le_refl _) (.cells #[.bool A.absent, vi, .bool A.co, vs, .bool B.absent, ui, .bool B.co, us] 25)
  have hs : w.heap.size < (w.alloc (.cells #[.bool A.absent, vi, .bool A.co, vs, .bool B.absent, ui, .bool B.co, us] 25)).heap.size := by show _ < (w.heap.push _).size; simp
  refine ⟨by simp, _, 2, rfl, fun i hi => ?_⟩
  have hc := fun j => cell_heap (heap_new w (.cells #[.bool A.absent, vi, .bool A.co, vs, .bool B.absent, ui, .bool B.co, us] 25)) j
  match i, hi with
  | 0, _ => exact ⟨_, 0, vi, vs, rfl, hs, hc 0, hc 1, hc 2, hc 3, hI.on hb, hS.on hb⟩
  | 1, _ => exact ⟨_, 0, ui, us, rfl, hs, hc 4, hc 5, hc 6, hc 7, hJ.on hb, hT.on hb⟩

theorem ptsR_noS (r : Rg) : ∀ p ∈ ptsR r, p.2.2 = noS := by
  intro p hp
  unfold ptsR at hp
  rw [List.mem_append, List.mem_append] at hp
  rcases hp with (hp | hp) | hp
  · simp at hp; rcases hp with rfl | rfl <;> rfl
  · split at hp
    · simp at hp; rw [hp]
    · simp at hp
  · split at hp
    · simp at hp; rw [hp]
    · simp at hp
theorem ptsL_size (l : List SetV) (M : Nat) (h : ∀ S ∈ l, ∀ s ∈ S.strs, s.size ≤ M) : ∀ p ∈ ptsL l, p.2.2.size ≤ M := by
  intro p hp
  have n0 : noS.size ≤ M := by show (0 : Nat) ≤ M; omega
  unfold ptsL at hp
  rcases List.mem_append.1 hp with hp | hp
  · simp [pts0] at hp
    rcases hp with rfl | rfl | rfl | rfl <;> exact n0
  · obtain ⟨S, hS, hp⟩ := List.mem_flatMap.1 hp
    unfold ptsS at hp
    rcases List.mem_append.1 hp with hp | hp
    · obtain ⟨r, _, hp⟩ := List.mem_flatMap.1 hp
      rw [ptsR_noS r p hp]; exact n0
    · obtain ⟨s, hs, rfl⟩ := List.mem_map.1 hp
      exact h S hS s hs
theorem ptsS_len (S : SetV) (h : S.ints.length ≤ 40 ∧ S.strs.length ≤ 40) : (ptsS S).length ≤ 200 := by
  unfold ptsS
  rw [List.length_append, List.length_map]
  have := flat_len ptsR 4 S.ints (fun x _ => ptsR_len x)
  omega
theorem ptsL_len (l : List SetV) (h : ∀ S ∈ l, S.ints.length ≤ 40 ∧ S.strs.length ≤ 40) : (ptsL l).length ≤ 4 + l.length * 200 := by
  unfold ptsL
  rw [List.length_append]
  have := flat_len ptsS 200 l (fun S hS => ptsS_len S (h S hS))
  have h4 : pts0.length = 4 := rfl
  omega
theorem fresh_size {l : List SetV} {t : ByteArray} (h : FreshOut l ⟨#[126]⟩ t) : t.size ≤ 21 := by
  have h1 : (⟨#[126]⟩ : ByteArray).size = 1 := rfl
  rcases h with ⟨j, hj, rfl, _⟩ | ⟨rfl, _⟩
  · unfold tryS
    rw [ByteArray.size_append]
    have := itoa_short j (by omega)
    omega
  · omega

end Go.Proofs.Ytoplmioejebnnaa
namespace Go.Proofs.Ytoplmioejebnnaa

/-! ### Numerals are unlike -/
theorem dec_ne_nil (u : Nat) : Lib.decDigits u ≠ [] := by
  rw [Lib.decDigits]; split <;> simp
theorem decDigits_inj (u : Nat) : ∀ v, Lib.decDigits u = Lib.decDigits v → u = v := by
  induction u using Nat.strongRecOn with
  | _ u ih =>
    intro v h
    have hu : Lib.decDigits u = if h : u < 10 then [UInt8.ofNat (48 + u)] else Lib.decDigits (u / 10) ++ [UInt8.ofNat (48 + u % 10)] := by rw [Lib.decDigits]
    have hv : Lib.decDigits v = if h : v < 10 then [UInt8.ofNat (48 + v)] else Lib.decDigits (v / 10) ++ [UInt8.ofNat (48 + v % 10)] := by rw [Lib.decDigits]
    have key : ∀ a b : Nat, a < 10 → b < 10 → UInt8.ofNat (48 + a) = UInt8.ofNat (48 + b) → a = b := fun a b ha hb e => by
      have := congrArg UInt8.toNat e
      rw [UInt8.toNat_ofNat', UInt8.toNat_ofNat'] at this
      omega
    by_cases h1 : u < 10
    · by_cases h2 : v < 10
      · rw [hu, hv, dif_pos h1, dif_pos h2] at h
        simp only [List.cons.injEq, and_true] at h
        exact key u v h1 h2 h
      · rw [hu, hv, dif_pos h1, dif_neg h2] at h
        have e := congrArg List.length h
        have e2 := List.length_pos_iff.2 (dec_ne_nil (v / 10))
        simp only [List.length_append, List.length_cons, List.length_nil] at e
        omega
    · by_cases h2 : v < 10
      · rw [hu, hv, dif_neg h1, dif_pos h2] at h
        have e := congrArg List.length h
        have e2 := List.length_pos_iff.2 (dec_ne_nil (u / 10))
        simp only [List.length_append, List.length_cons, List.length_nil] at e
        omega
      · rw [hu, hv, dif_neg h1, dif_neg h2] at h
        obtain ⟨e1, e2⟩ := List.append_inj' h rfl
        simp only [List.cons.injEq, and_true] at e2
        have a := ih (u / 10) (by omega) (v / 10) e1
        have b := key (u % 10) (v % 10) (by omega) (by omega) e2
        omega
theorem tryS_inj (s : ByteArray) (i j : Nat) (h : tryS s i = tryS s j) : i = j := by
  have h1 := congrArg (fun b : ByteArray => b.data.toList) h
  simp only [tryS, ByteArray.data_append, Array.toList_append, List.toList_toArray, List.append_cancel_left_eq, Lib.itoa_nonneg] at h1
  exact decDigits_inj i j h1

/-! ### Membership -/
theorem inInts_iff (l : List Rg) (n : Int) : inIntsB l n = true ↔ memR l n := by
  unfold inIntsB memR
  rw [List.any_eq_true]
  constructor
  · rintro ⟨r, hr, h⟩
    simp at h
    exact ⟨r, hr, h⟩
  · rintro ⟨r, hr, h⟩
    exact ⟨r, hr, by simpa using h⟩
theorem inStrs_iff (l : List ByteArray) (s : ByteArray) : inStrsB l s = true ↔ s ∈ l := by
  unfold inStrsB
  rw [List.any_eq_true]
  constructor
  · rintro ⟨t, ht, h⟩
    rw [← bytes_eq.1 h]; exact ht
  · intro h
    exact ⟨s, h, bytes_eq.2 rfl⟩
theorem named_iff (l : List SetV) (t : ByteArray) : namedB l t = false ↔ ∀ S ∈ l, t ∉ S.strs := by
  unfold namedB
  rw [List.any_eq_false]
  constructor
  · intro h S hS ht
    exact h S hS ((inStrs_iff _ _).2 ht)
  · intro h S hS ht
    exact h S hS ((inStrs_iff _ _).1 ht)
/-- Where the sets name few strings, Fresh is none of them. -/
theorem fresh_new {l : List SetV} {s t : ByteArray} (h : FreshOut l s t) (hn : (l.flatMap fun S => S.strs).length < 100000) : (∃ j, j < 100000 ∧ t = tryS s j) ∧ ∀ S ∈ l, t ∉ S.strs := by
  rcases h with ⟨j, hj, ht, h⟩ | ⟨rfl, h⟩
  · exact ⟨⟨j, hj, ht⟩, (named_iff _ _).1 h⟩
  · exfalso
    obtain ⟨i, hi, hf⟩ := fresh_out (fun i => (tryS t i).data.toList) (fun i j e => tryS_inj t i j (by
      apply ByteArray.ext
      exact Array.toList_inj.1 e)) ((l.flatMap fun S => S.strs).map fun b => b.data.toList) 100000 (by rw [List.length_map]; exact hn)
    have h1 := h i hi
    refine hf ?_
    cases hx : namedB l (tryS t i)
    · rw [hx] at h1; exact absurd h1 (by simp)
    · unfold namedB at hx
      rw [List.any_eq_true] at hx
      obtain ⟨S, hS, hx⟩ := hx
      exact List.mem_map.2 ⟨tryS t i, List.mem_flatMap.2 ⟨S, hS, (inStrs_iff _ _).1 hx⟩, rfl⟩

/-! ### As they should be -/
theorem rgB_some (l : List Rg) : ∀ h : Int, rgB (some h) l = true ↔ rightFrom (h + 1) l := by
  induction l with
  | nil => intro h; simp [rgB, rightFrom]
  | cons r l ih =>
    intro h
    simp only [rgB, Bool.and_eq_true, decide_eq_true_eq, ih, rightFrom]
    constructor
    · rintro ⟨h1, h2, h3⟩; exact ⟨h2, h1, h3⟩
    · rintro ⟨h1, h2, h3⟩; exact ⟨h2, h1, h3⟩
theorem rgB_none (l : List Rg) : rgB none l = true ↔ rightR l := by
  cases l with
  | nil => simp [rgB, rightR]
  | cons r l => simp only [rgB, Bool.and_eq_true, decide_eq_true_eq, rgB_some, rightR]
/-- Strings as they should be. -/
def rightS (l : List ByteArray) : Prop := (∀ s ∈ l, s.size ≤ 8) ∧ risesS (l.map fun b => b.toList)
theorem stB_some (l : List ByteArray) : ∀ p : ByteArray, stB (some p) l = true ↔ rightS l ∧ ∀ b ∈ l, Op.bytesLess p.toList b.toList = true := by
  induction l with
  | nil => intro p; simp [stB, rightS, risesS]
  | cons s l ih =>
    intro p
    simp only [stB, Bool.and_eq_true, decide_eq_true_eq, ih, rightS, List.map_cons, risesS, List.mem_cons, List.mem_map, forall_eq_or_imp]
    constructor
    · rintro ⟨h1, h2, ⟨h3, h4⟩, h5⟩
      refine ⟨⟨⟨h1, h3⟩, ?_, h4⟩, h2, fun b hb => lessB_trans _ _ _ h2 (h5 b hb)⟩
      rintro b ⟨x, hx, rfl⟩
      exact h5 x hx
    · rintro ⟨⟨⟨h1, h3⟩, h6, h4⟩, h2, h5⟩
      exact ⟨h1, h2, ⟨h3, h4⟩, fun b hb => h6 _ ⟨b, hb, rfl⟩⟩
theorem stB_none (l : List ByteArray) : stB none l = true ↔ rightS l := by
  cases l with
  | nil => simp [stB, rightS, risesS]
  | cons s l =>
    simp only [stB, Bool.and_eq_true, decide_eq_true_eq, stB_some, rightS, List.map_cons, risesS, List.mem_cons, List.mem_map, forall_eq_or_imp]
    constructor
    · rintro ⟨h1, ⟨h3, h4⟩, h5⟩
      refine ⟨⟨h1, h3⟩, ?_, h4⟩
      rintro b ⟨x, hx, rfl⟩
      exact h5 x hx
    · rintro ⟨⟨h1, h3⟩, h6, h4⟩
      exact ⟨h1, ⟨h3, h4⟩, fun b hb => h6 _ ⟨b, hb, rfl⟩⟩
theorem rightSet_iff (S : SetV) : rightSet S = true ↔ rightR S.ints ∧ rightS S.strs := by
  unfold rightSet
  rw [Bool.and_eq_true, rgB_none, stB_none]
theorem toList_inj {a b : ByteArray} (h : a.toList = b.toList) : a = b := bytes_eq.1 (beq_iff_eq.2 h)
theorem rightS_ext (a b : List ByteArray) (ha : rightS a) (hb : rightS b) (h : ∀ s : ByteArray, s ∈ a ↔ s ∈ b) : a = b := by
  have hm : ∀ l : List ByteArray, ∀ s : ByteArray, s.toList ∈ l.map (fun x => x.toList) ↔ s ∈ l := fun l s => by
    rw [List.mem_map]
    constructor
    · rintro ⟨x, hx, e⟩; rw [← toList_inj e]; exact hx
    · intro hs; exact ⟨s, hs, rfl⟩
  have e := risesS_ext (a.map fun x => x.toList) (b.map fun x => x.toList) ha.2 hb.2 (fun s => by
    constructor
    · intro hs
      obtain ⟨x, hx, rfl⟩ := List.mem_map.1 hs
      exact (hm b x).2 ((h x).1 hx)
    · intro hs
      obtain ⟨x, hx, rfl⟩ := List.mem_map.1 hs
      exact (hm a x).2 ((h x).2 hx))
  exact List.map_inj_right (fun x y e => toList_inj e) |>.1 e

/-! ### 'in' by points -/
/-- A value that may be. -/
def rightV (p : Va) : Prop := rightB p.1 p.2.1 p.2.2 = true
theorem size_nil {s : ByteArray} (h : s.size = 0) : s = noS := ByteArray.ext (Array.eq_empty_of_size_eq_zero h)
theorem toList_len (s : ByteArray) : s.toList.length = s.size := by rw [ByteArray.toList_eq]; exact (Lib.size_eq s).symm
theorem rightV_cases {p : Va} (h : rightV p) : p = (0, 0, noS) ∨ (∃ n, p = (1, n, noS)) ∨ ∃ s : ByteArray, s.size ≤ 8 ∧ p = (2, 0, s) := by
  obtain ⟨k, n, s⟩ := p
  unfold rightV rightB at h
  dsimp only at h
  have hnil : s.toList.isEmpty = true → s = noS := fun e => size_nil (by rw [← toList_len, List.isEmpty_iff.1 e]; rfl)
  split at h
  · rename_i hk
    rw [Bool.and_eq_true, beq_iff_eq] at h
    left; rw [hk, h.1, hnil h.2]
  · split at h
    · rename_i hk
      right; left; exact ⟨n, by rw [hk, hnil h]⟩
    · split at h
      · rename_i hk
        rw [Bool.and_eq_true, beq_iff_eq, decide_eq_true_eq] at h
        right; right; exact ⟨s, by omega, by rw [hk, h.1]⟩
      · exact absurd h (by simp)
theorem noS_empty : noS.toList.isEmpty = true := by rw [ByteArray.toList_eq]; rfl
theorem rightV_num (n : Int) : rightB 1 n noS = true := by
  unfold rightB
  rw [if_neg (by omega), if_pos rfl, noS_empty]
theorem rightV_abs : rightB 0 0 noS = true := by
  unfold rightB
  rw [if_pos rfl, noS_empty]; rfl
theorem rightV_str {s : ByteArray} (h : s.size ≤ 8) : rightB 2 0 s = true := by
  have e : decide ((s.size : Int) ≤ 8) = true := decide_eq_true (by omega)
  unfold rightB
  rw [if_neg (by omega), if_neg (by omega), if_pos rfl, e]; rfl
theorem has_abs (S : SetV) : hasP S (0, 0, noS) = S.absent := by unfold hasP hasB; rw [rightV_abs]; rfl
theorem has_num (S : SetV) (n : Int) : hasP S (1, n, noS) = inIntsB S.ints n := by
  unfold hasP hasB
  dsimp only
  rw [rightV_num, Bool.true_and, if_neg (by omega), if_pos rfl]
theorem has_str (S : SetV) {s : ByteArray} (h : s.size ≤ 8) : hasP S (2, 0, s) = (inStrsB S.strs s != S.co) := by
  unfold hasP hasB
  dsimp only
  rw [rightV_str h, Bool.true_and, if_neg (by omega), if_neg (by omega)]
theorem has_wrong (S : SetV) {p : Va} (h : ¬ rightV p) : hasP S p = false := by
  unfold rightV at h
  unfold hasP hasB
  cases e : rightB p.1 p.2.1 p.2.2
  · rfl
  · exact absurd e h
/-- Each value of the one is in the other one. -/
def inSet (A B : SetV) : Prop := ∀ p : Va, -9223372036854775808 ≤ p.2.1 → p.2.1 ≤ 9223372036854775807 → hasP A p = true → hasP B p = true
theorem inPts_iff (A B : SetV) (ps : List Va) : inPts A B ps = true ↔ ∀ p ∈ ps, hasP A p = true → hasP B p = true := by
  unfold inPts
  rw [List.all_eq_true]
  constructor
  · intro h p hp ha
    have := h p hp
    rw [ha] at this
    simpa using this
  · intro h p hp
    cases ha : hasP A p
    · rfl
    · rw [h p hp ha]; rfl
theorem fresh_short {j : Nat} (h : j < 100000) : (tryS ⟨#[126]⟩ j).size ≤ 8 := by
  unfold tryS
  rw [ByteArray.size_append]
  have h1 : (⟨#[126]⟩ : ByteArray).size = 1 := rfl
  have h2 : (⟨(Lib.itoa (j : Int)).toArray⟩ : ByteArray).size = (Lib.decDigits j).length := by rw [Lib.itoa_nonneg]; simp [ByteArray.size]
  have h3 : (Lib.decDigits j).length ≤ 5 := by
    rw [Lib.decDigits_length]
    have one : ∀ u : Nat, ∀ c : Nat, (u / 10 < 10 ^ c → Lib.nDigits (u / 10) ≤ c) → 1 ≤ c → u < 10 ^ (c + 1) → Lib.nDigits u ≤ c + 1 := fun u c ih hc hu => by
      by_cases h : u < 10
      · rw [Lib.nDigits_small h]; omega
      · rw [Lib.nDigits_big h]
        have := ih (Nat.div_lt_of_lt_mul (by rw [Nat.mul_comm]; exact (Nat.pow_succ (n := 10) (m := c)) ▸ hu))
        omega
    refine one j 4 (fun h4 => one _ 3 (fun h3 => one _ 2 (fun h2 => one _ 1 (fun h1 => ?_) (by omega) h2) (by omega) h3) (by omega) h4) (by omega) (by omega)
    rw [Lib.nDigits_small (by omega)]; omega
  omega
theorem ptsR_bound (r : Rg) (b : -9223372036854775808 ≤ r.1 ∧ r.1 ≤ 9223372036854775807 ∧ -9223372036854775808 ≤ r.2 ∧ r.2 ≤ 9223372036854775807) : ∀ p ∈ ptsR r, -9223372036854775808 ≤ p.2.1 ∧ p.2.1 ≤ 9223372036854775807 := by
  intro p hp
  unfold ptsR at hp
  rw [List.mem_append, List.mem_append] at hp
  rcases hp with (hp | hp) | hp
  · simp at hp; rcases hp with rfl | rfl <;> (dsimp only; omega)
  · split at hp
    · simp at hp; rw [hp]; dsimp only; omega
    · simp at hp
  · split at hp
    · simp at hp; rw [hp]; dsimp only; omega
    · simp at hp
theorem ptsL_bound (l : List SetV) (h : ∀ S ∈ l, inI64 S.ints) : ∀ p ∈ ptsL l, -9223372036854775808 ≤ p.2.1 ∧ p.2.1 ≤ 9223372036854775807 := by
  intro p hp
  unfold ptsL at hp
  rcases List.mem_append.1 hp with hp | hp
  · simp [pts0] at hp
    rcases hp with rfl | rfl | rfl | rfl <;> (dsimp only; omega)
  · obtain ⟨S, hS, hp⟩ := List.mem_flatMap.1 hp
    unfold ptsS at hp
    rcases List.mem_append.1 hp with hp | hp
    · obtain ⟨r, hr, hp⟩ := List.mem_flatMap.1 hp
      exact ptsR_bound r (h S hS r hr) p hp
    · obtain ⟨s, hs, rfl⟩ := List.mem_map.1 hp
      dsimp only; omega
/-- What holds of all points holds of all values. -/
theorem inPts_inSet (A B : SetV) (t : ByteArray) (ht : FreshOut [A, B] ⟨#[126]⟩ t) (rA : rightSet A = true) (rB : rightSet B = true) (iA : inI64 A.ints) (iB : inI64 B.ints) (fA : A.strs.length ≤ 40) (fB : B.strs.length ≤ 40) :
    inPts A B (ptsL [A, B] ++ [(2, 0, t)]) = true ↔ inSet A B := by
  obtain ⟨⟨j, hj, hjt⟩, hnew⟩ := fresh_new ht (by simp; omega)
  have ht8 : t.size ≤ 8 := by rw [hjt]; exact fresh_short hj
  obtain ⟨rAi, rAs⟩ := (rightSet_iff A).1 rA
  obtain ⟨rBi, rBs⟩ := (rightSet_iff B).1 rB
  rw [inPts_iff]
  constructor
  · intro h p b0 b1 ha
    have hp : rightV p := Classical.byContradiction fun hp => by rw [has_wrong A hp] at ha; simp at ha
    have mem : ∀ q, q ∈ ptsL [A, B] → hasP A q = true → hasP B q = true := fun q hq => h q (List.mem_append_left _ hq)
    have memS : ∀ S, S ∈ [A, B] → ∀ q ∈ ptsS S, hasP A q = true → hasP B q = true := fun S hS q hq => mem q (List.mem_append_right _ (List.mem_flatMap.2 ⟨S, hS, hq⟩))
    have memR' : ∀ S, S ∈ [A, B] → ∀ r ∈ S.ints, ∀ q ∈ ptsR r, hasP A q = true → hasP B q = true := fun S hS r hr q hq => memS S hS q (List.mem_append_left _ (List.mem_flatMap.2 ⟨r, hr, hq⟩))
    have memT : ∀ S, S ∈ [A, B] → ∀ s ∈ S.strs, hasP A (2, 0, s) = true → hasP B (2, 0, s) = true := fun S hS s hs => memS S hS _ (List.mem_append_right _ (List.mem_map.2 ⟨s, hs, rfl⟩))
    rcases rightV_cases hp with rfl | ⟨n, rfl⟩ | ⟨s, hs, rfl⟩
    · exact mem _ (List.mem_append_left _ (by simp [pts0])) ha
    · rw [has_num] at ha ⊢
      rw [inInts_iff] at ha ⊢
      refine sub_points A.ints B.ints (fun r hr hle => ?_) (fun r hr s hs hlt hm => ?_) n ha
      · have := memR' A (by simp) r hr (1, r.1, noS) (by unfold ptsR; simp)
        rw [has_num, has_num, inInts_iff, inInts_iff] at this
        exact this ⟨r, hr, Int.le_refl _, hle⟩
      · have bs := iA s hs
        have := memR' B (by simp) r hr (1, r.2 + 1, noS) (by unfold ptsR; rw [if_pos (show r.2 < 9223372036854775807 by omega)]; simp)
        rw [has_num, has_num, inInts_iff, inInts_iff] at this
        exact this hm
    · by_cases h1 : s ∈ A.strs
      · exact memT A (by simp) s h1 ha
      · by_cases h2 : s ∈ B.strs
        · exact memT B (by simp) s h2 ha
        · have hf := h (2, 0, t) (List.mem_append_right _ (by simp))
          rw [has_str A ht8, has_str B ht8] at hf
          rw [has_str A hs] at ha
          rw [has_str B hs]
          have n1 : inStrsB A.strs s = false := by cases e : inStrsB A.strs s; rfl; exact absurd ((inStrs_iff _ _).1 e) h1
          have n2 : inStrsB B.strs s = false := by cases e : inStrsB B.strs s; rfl; exact absurd ((inStrs_iff _ _).1 e) h2
          have n3 : inStrsB A.strs t = false := by cases e : inStrsB A.strs t; rfl; exact absurd ((inStrs_iff _ _).1 e) (hnew A (by simp))
          have n4 : inStrsB B.strs t = false := by cases e : inStrsB B.strs t; rfl; exact absurd ((inStrs_iff _ _).1 e) (hnew B (by simp))
          rw [n3, n4] at hf
          rw [n1] at ha
          rw [n2]
          exact hf ha
  · intro h p hp ha
    have hb : -9223372036854775808 ≤ p.2.1 ∧ p.2.1 ≤ 9223372036854775807 := by
      rcases List.mem_append.1 hp with hp | hp
      · refine ptsL_bound [A, B] (fun S hS => ?_) p hp
        rcases List.mem_cons.1 hS with rfl | hS
        · exact iA
        · rcases List.mem_cons.1 hS with rfl | hS
          · exact iB
          · simp at hS
      · simp at hp
        rw [hp]; dsimp only; omega
    exact h p hb.1 hb.2 ha
end Go.Proofs.Ytoplmioejebnnaa
namespace Go.Proofs.Ytoplmioejebnnaa

theorem inStrs_not {l : List ByteArray} {s : ByteArray} (h : s ∉ l) : inStrsB l s = false := by
  cases e : inStrsB l s
  · rfl
  · exact absurd ((inStrs_iff _ _).1 e) h
/-- A short string that neither row has. -/
theorem some_fresh (a b : List ByteArray) (h : a.length + b.length < 100000) : ∃ t : ByteArray, t.size ≤ 8 ∧ t ∉ a ∧ t ∉ b := by
  obtain ⟨i, hi, hf⟩ := fresh_out (fun i => (tryS ⟨#[126]⟩ i).data.toList) (fun i j e => tryS_inj _ i j (by
    apply ByteArray.ext
    exact Array.toList_inj.1 e)) ((a ++ b).map fun x => x.data.toList) 100000 (by rw [List.length_map, List.length_append]; exact h)
  refine ⟨tryS ⟨#[126]⟩ i, fresh_short hi, fun hm => hf ?_, fun hm => hf ?_⟩
  · exact List.mem_map.2 ⟨_, List.mem_append_left _ hm, rfl⟩
  · exact List.mem_map.2 ⟨_, List.mem_append_right _ hm, rfl⟩
/-- Two right sets that have the same values are the same. -/
theorem set_ext (A B : SetV) (rA : rightSet A = true) (rB : rightSet B = true) (iA : inI64 A.ints) (iB : inI64 B.ints) (hn : A.strs.length + B.strs.length < 100000)
    (h : ∀ p : Va, -9223372036854775808 ≤ p.2.1 → p.2.1 ≤ 9223372036854775807 → hasP A p = hasP B p) : A = B := by
  obtain ⟨rAi, rAs⟩ := (rightSet_iff A).1 rA
  obtain ⟨rBi, rBs⟩ := (rightSet_iff B).1 rB
  have e1 : A.absent = B.absent := by
    have := h (0, 0, noS) (by dsimp only; omega) (by dsimp only; omega)
    rwa [has_abs, has_abs] at this
  have e2 : A.ints = B.ints := by
    refine rightR_ext64 _ _ rAi rBi iA iB fun n h0 h1 => ?_
    have := h (1, n, noS) h0 h1
    rw [has_num, has_num] at this
    rw [← inInts_iff, ← inInts_iff, this]
  have e3 : A.co = B.co := by
    obtain ⟨t, t8, ta, tb⟩ := some_fresh A.strs B.strs hn
    have := h (2, 0, t) (by dsimp only; omega) (by dsimp only; omega)
    rw [has_str A t8, has_str B t8, inStrs_not ta, inStrs_not tb] at this
    revert this
    cases A.co <;> cases B.co <;> simp
  have e4 : A.strs = B.strs := by
    refine rightS_ext _ _ rAs rBs fun s => ?_
    by_cases s8 : s.size ≤ 8
    · have := h (2, 0, s) (by dsimp only; omega) (by dsimp only; omega)
      rw [has_str A s8, has_str B s8, e3] at this
      rw [← inStrs_iff, ← inStrs_iff]
      revert this
      cases inStrsB A.strs s <;> cases inStrsB B.strs s <;> cases B.co <;> simp
    · exact ⟨fun hs => absurd (rAs.1 s hs) s8, fun hs => absurd (rBs.1 s hs) s8⟩
  obtain ⟨a1, a2, a3, a4⟩ := A
  obtain ⟨b1, b2, b3, b4⟩ := B
  dsimp only at *
  subst e1 e2 e3 e4
  rfl
/-- Who lie in one another are the same. -/
theorem inSet_same (A B : SetV) (rA : rightSet A = true) (rB : rightSet B = true) (iA : inI64 A.ints) (iB : inI64 B.ints) (hn : A.strs.length + B.strs.length < 100000) (h1 : inSet A B) (h2 : inSet B A) : A = B :=
  set_ext A B rA rB iA iB hn fun p b0 b1 => by
    have x := h1 p b0 b1
    have y := h2 p b0 b1
    cases ha : hasP A p <;> cases hb : hasP B p
    · rfl
    · rw [ha, hb] at y; simp at y
    · rw [ha, hb] at x; simp at x
    · rfl
theorem inSet_refl (A : SetV) : inSet A A := fun _ _ _ h => h
end Go.Proofs.Ytoplmioejebnnaa
namespace Go.Proofs.Ytoplmioejebnnaa

/-- The last one's end. -/
def lastH (o : List Rg) : Option Int := o.getLast?.map (·.2)
theorem lastH_nil : lastH [] = none := rfl
theorem lastH_concat (o : List Rg) (q : Rg) : lastH (o ++ [q]) = some q.2 := by simp [lastH]
/-- A range that is still to be taken. -/
def candP (H : Option Int) (r : Rg) : Prop := r.1 ≤ r.2 ∧ ∀ h, H = some h → h < r.2
def candB (H : Option Int) (r : Rg) : Bool := decide (r.1 ≤ r.2) && (match H with | none => true | some h => decide (h < r.2))
theorem candB_iff (H : Option Int) (r : Rg) : candB H r = true ↔ candP H r := by
  unfold candB candP
  cases H with
  | none => simp
  | some h => simp
theorem rightFrom_concat : ∀ (o : List Rg) (b : Int) (r : Rg), rightFrom b o → r.1 ≤ r.2 → (o = [] → b < r.1) → (∀ h, lastH o = some h → h + 1 < r.1) → rightFrom b (o ++ [r])
  | [], b, r, _, h1, h2, _ => ⟨h2 rfl, h1, trivial⟩
  | q :: o, b, r, ⟨a1, a2, a3⟩, h1, h2, h3 => by
    refine ⟨a1, a2, rightFrom_concat o (q.2 + 1) r a3 h1 (fun e => ?_) (fun h e => h3 h ?_)⟩
    · subst e; exact h3 q.2 rfl
    · cases o with
      | nil => cases e
      | cons x o => simpa [lastH] using e
theorem rightR_concat (o : List Rg) (r : Rg) (ho : rightR o) (h1 : r.1 ≤ r.2) (h3 : ∀ h, lastH o = some h → h + 1 < r.1) : rightR (o ++ [r]) := by
  cases o with
  | nil => exact ⟨h1, trivial⟩
  | cons q o =>
    refine ⟨ho.1, rightFrom_concat o (q.2 + 1) r ho.2 h1 (fun e => ?_) (fun h e => h3 h ?_)⟩
    · subst e; exact h3 q.2 rfl
    · cases o with
      | nil => cases e
      | cons x o => simpa [lastH] using e
theorem rightFrom_last : ∀ (o : List Rg) (b : Int) (q : Rg) (x : Int), rightFrom b (o ++ [q]) → q.2 ≤ x → rightFrom b (o ++ [(q.1, x)])
  | [], b, q, x, ⟨a1, a2, _⟩, h => ⟨a1, by dsimp only; omega, trivial⟩
  | p :: o, b, q, x, ⟨a1, a2, a3⟩, h => ⟨a1, a2, rightFrom_last o _ q x a3 h⟩
theorem rightR_last (o : List Rg) (q : Rg) (x : Int) (ho : rightR (o ++ [q])) (h : q.2 ≤ x) : rightR (o ++ [(q.1, x)]) := by
  cases o with
  | nil => exact ⟨by have := ho.1; dsimp only; omega, trivial⟩
  | cons p o => exact ⟨ho.1, rightFrom_last o _ q x ho.2 h⟩
theorem rightFrom_split : ∀ (o : List Rg) (b : Int) (q : Rg), rightFrom b (o ++ [q]) → q.1 ≤ q.2
  | [], b, q, h => h.2.1
  | p :: o, b, q, h => rightFrom_split o _ q h.2.2
theorem rightR_split (o : List Rg) (q : Rg) (h : rightR (o ++ [q])) : q.1 ≤ q.2 := by
  cases o with
  | nil => exact h.1
  | cons p o => exact rightFrom_split o _ q h.2
/-- The numbers up to the last one's end are taken. -/
def takenP (o l : List Rg) : Prop := ∀ n, memR o n ↔ (memR l n ∧ ∃ h, lastH o = some h ∧ n ≤ h)
theorem taken_nil (l : List Rg) : takenP [] l := fun n => ⟨fun h => absurd h (memR_nil n), fun ⟨_, h, e, _⟩ => by cases e⟩
theorem memR_one (r : Rg) (n : Int) : memR [r] n ↔ r.1 ≤ n ∧ n ≤ r.2 := by rw [memR_cons]; simp [memR_nil]
/-- Of what is still to be taken one begins first. -/
def firstP (H : Option Int) (l : List Rg) (r : Rg) : Prop := r ∈ l ∧ candP H r ∧ ∀ s ∈ l, candP H s → r.1 ≤ s.1
theorem taken_done (o l : List Rg) (ho : takenP o l) (hno : ∀ r ∈ l, ¬ candP (lastH o) r) : ∀ n, memR o n ↔ memR l n := by
  intro n
  rw [ho n]
  refine ⟨fun h => h.1, fun h => ⟨h, ?_⟩⟩
  obtain ⟨r, hr, h1, h2⟩ := h
  have hc := hno r hr
  cases e : lastH o with
  | none => exact absurd ⟨by omega, fun h eh => by rw [e] at eh; cases eh⟩ hc
  | some h =>
    refine ⟨h, rfl, ?_⟩
    refine Classical.byContradiction fun hlt => hc ⟨by omega, fun h' eh => ?_⟩
    rw [e] at eh
    cases eh
    omega
theorem taken_app (o l : List Rg) (r : Rg) (ho : takenP o l) (hr : firstP (lastH o) l r) (hg : ∀ h, lastH o = some h → h + 1 < r.1) : takenP (o ++ [r]) l := by
  obtain ⟨r1, r2, r3⟩ := hr
  intro n
  rw [memR_append, memR_one, ho n, lastH_concat]
  constructor
  · rintro (⟨h1, h, e, h2⟩ | h1)
    · have := hg h e
      have := r2.1
      exact ⟨h1, r.2, rfl, by omega⟩
    · exact ⟨⟨r, r1, h1⟩, r.2, rfl, h1.2⟩
  · rintro ⟨⟨s, hs, h1, h2⟩, h, e, h3⟩
    cases e
    by_cases hc : ∃ h, lastH o = some h ∧ n ≤ h
    · exact Or.inl ⟨⟨s, hs, h1, h2⟩, hc⟩
    · right
      refine ⟨?_, h3⟩
      have := r3 s hs ⟨by omega, fun h eh => Classical.byContradiction fun hn => hc ⟨h, eh, by omega⟩⟩
      omega
theorem taken_ext (o l : List Rg) (q r : Rg) (ho : takenP (o ++ [q]) l) (hq : q.1 ≤ q.2) (hr : firstP (some q.2) l r) (hg : r.1 ≤ q.2 + 1) : takenP (o ++ [(q.1, r.2)]) l := by
  obtain ⟨r1, r2, r3⟩ := hr
  have hqr := r2.2 q.2 rfl
  intro n
  have h0 := ho n
  rw [memR_append, memR_one, lastH_concat] at h0
  rw [memR_append, memR_one, lastH_concat]
  dsimp only
  constructor
  · rintro (h1 | h1)
    · obtain ⟨h2, h, e, h3⟩ := h0.1 (Or.inl h1)
      cases e
      exact ⟨h2, r.2, rfl, by omega⟩
    · by_cases hn : n ≤ q.2
      · exact ⟨(h0.1 (Or.inr ⟨h1.1, hn⟩)).1, r.2, rfl, h1.2⟩
      · exact ⟨⟨r, r1, by omega, h1.2⟩, r.2, rfl, h1.2⟩
  · rintro ⟨h1, h, e, h3⟩
    cases e
    by_cases hn : n ≤ q.2
    · rcases h0.2 ⟨h1, q.2, rfl, hn⟩ with h | h
      · exact Or.inl h
      · exact Or.inr ⟨h.1, by omega⟩
    · exact Or.inr ⟨by omega, h3⟩
/-- How many are still to be taken. -/
def leftN (H : Option Int) (l : List Rg) : Nat := (l.filter (candB H)).length
theorem leftN_lt (H : Option Int) (l : List Rg) (r : Rg) (hr : r ∈ l) (hc : candP H r) (hH : ∀ h, H = some h → h ≤ r.2) : leftN (some r.2) l < leftN H l := by
  unfold leftN
  have hsub : ∀ s : Rg, candP (some r.2) s → candP H s := fun s hs => ⟨hs.1, fun h e => by have := hs.2 r.2 rfl; have := hH h e; omega⟩
  have hn : ¬ candP (some r.2) r := fun h => by have := h.2 r.2 rfl; omega
  have mono : ∀ m : List Rg, (m.filter (candB (some r.2))).length ≤ (m.filter (candB H)).length := by
    intro m
    induction m with
    | nil => simp
    | cons s m ih =>
      rw [List.filter_cons, List.filter_cons]
      by_cases h1 : candP (some r.2) s
      · rw [if_pos ((candB_iff _ _).2 h1), if_pos ((candB_iff _ _).2 (hsub s h1))]; simp; exact ih
      · rw [if_neg (fun e => h1 ((candB_iff _ _).1 e))]
        split
        · simp; omega
        · exact ih
  induction l with
  | nil => simp at hr
  | cons s m ih =>
    rw [List.filter_cons, List.filter_cons]
    rcases List.mem_cons.1 hr with rfl | hm
    · rw [if_neg (fun e => hn ((candB_iff _ _).1 e)), if_pos ((candB_iff _ _).2 hc)]
      have := mono m
      simp; omega
    · have ih' := ih hm
      by_cases h1 : candP (some r.2) s
      · rw [if_pos ((candB_iff _ _).2 h1), if_pos ((candB_iff _ _).2 (hsub s h1))]; simp; exact ih'
      · rw [if_neg (fun e => h1 ((candB_iff _ _).1 e))]
        split
        · simp; omega
        · exact ih'
/-- What the search through the first i ones has found: none, or a first one at Bi. -/
def bestP (H : Option Int) (l : List Rg) (i : Nat) (Bi : Int) : Prop :=
  (Bi = -1 ∧ ∀ j, j < i → j < l.length → ¬ candP H (l.getD j (0, 0))) ∨
  (0 ≤ Bi ∧ Bi.toNat < i ∧ Bi.toNat < l.length ∧ candP H (l.getD Bi.toNat (0, 0)) ∧ ∀ j, j < i → j < l.length → candP H (l.getD j (0, 0)) → (l.getD Bi.toNat (0, 0)).1 ≤ (l.getD j (0, 0)).1)
theorem best_start (H : Option Int) (l : List Rg) : bestP H l 0 (-1) := Or.inl ⟨rfl, fun j hj => by omega⟩
theorem best_skip {H : Option Int} {l : List Rg} {i : Nat} {Bi : Int} (h : bestP H l i Bi) (hc : ¬ candP H (l.getD i (0, 0))) : bestP H l (i + 1) Bi := by
  rcases h with ⟨h1, h2⟩ | ⟨h1, h2, h3, h4, h5⟩
  · refine Or.inl ⟨h1, fun j hj hl => ?_⟩
    by_cases e : j = i
    · rw [e]; exact hc
    · exact h2 j (by omega) hl
  · refine Or.inr ⟨h1, by omega, h3, h4, fun j hj hl hcj => ?_⟩
    by_cases e : j = i
    · rw [e] at hcj; exact absurd hcj hc
    · exact h5 j (by omega) hl hcj
theorem best_keep {H : Option Int} {l : List Rg} {i : Nat} {Bi : Int} (h : bestP H l i Bi) (h0 : 0 ≤ Bi) (hle : (l.getD Bi.toNat (0, 0)).1 ≤ (l.getD i (0, 0)).1) : bestP H l (i + 1) Bi := by
  rcases h with ⟨h1, h2⟩ | ⟨h1, h2, h3, h4, h5⟩
  · omega
  · refine Or.inr ⟨h1, by omega, h3, h4, fun j hj hl hcj => ?_⟩
    by_cases e : j = i
    · rw [e]; exact hle
    · exact h5 j (by omega) hl hcj
theorem best_new {H : Option Int} {l : List Rg} {i : Nat} {Bi : Int} (h : bestP H l i Bi) (hi : i < l.length) (hc : candP H (l.getD i (0, 0))) (hle : 0 ≤ Bi → (l.getD i (0, 0)).1 ≤ (l.getD Bi.toNat (0, 0)).1) : bestP H l (i + 1) (i : Int) := by
  refine Or.inr ⟨by omega, by omega, by omega, by simpa using hc, fun j hj hl hcj => ?_⟩
  rw [show ((i : Int)).toNat = i by omega]
  by_cases e : j = i
  · rw [e]; omega
  · rcases h with ⟨h1, h2⟩ | ⟨h1, h2, h3, h4, h5⟩
    · exact absurd hcj (h2 j (by omega) hl)
    · have := hle h1
      have := h5 j (by omega) hl hcj
      omega
theorem mem_at (l : List Rg) (r : Rg) (h : r ∈ l) : ∃ j, j < l.length ∧ l.getD j (0, 0) = r := by
  obtain ⟨j, hj, e⟩ := List.getElem_of_mem h
  exact ⟨j, hj, by rw [List.getD_eq_getElem?_getD, List.getElem?_eq_getElem hj]; exact e⟩
theorem at_mem (l : List Rg) (j : Nat) (h : j < l.length) : l.getD j (0, 0) ∈ l := by
  rw [List.getD_eq_getElem?_getD, List.getElem?_eq_getElem h]; exact List.getElem_mem _
theorem best_none {H : Option Int} {l : List Rg} {Bi : Int} (h : bestP H l l.length Bi) (hB : Bi < 0) : ∀ r ∈ l, ¬ candP H r := by
  intro r hr
  obtain ⟨j, hj, rfl⟩ := mem_at l r hr
  rcases h with ⟨_, h2⟩ | ⟨h1, _⟩
  · exact h2 j hj hj
  · omega
theorem best_some {H : Option Int} {l : List Rg} {Bi : Int} (h : bestP H l l.length Bi) (hB : ¬ Bi < 0) : Bi.toNat < l.length ∧ firstP H l (l.getD Bi.toNat (0, 0)) := by
  rcases h with ⟨h1, _⟩ | ⟨h1, h2, h3, h4, h5⟩
  · omega
  · refine ⟨h3, at_mem l _ h3, h4, fun s hs hc => ?_⟩
    obtain ⟨j, hj, rfl⟩ := mem_at l s hs
    exact h5 j hj hj hc
end Go.Proofs.Ytoplmioejebnnaa
namespace Go.Proofs.Ytoplmioejebnnaa
open Go.RowKit

def rgCells (l : List Rg) : List Value := l.flatMap fun v => [.int .i64 v.1, .int .i64 v.2]
theorem rgCells_append (a b : List Rg) : rgCells (a ++ b) = rgCells a ++ rgCells b := by unfold rgCells; rw [List.flatMap_append]
theorem rgCells_len : ∀ l : List Rg, (rgCells l).length = l.length * 2
  | [] => rfl
  | v :: l => by
    have := rgCells_len l
    unfold rgCells at *
    rw [List.flatMap_cons, List.length_append, this]
    simp; omega
theorem rgCells_one (l : List Rg) : ∀ u ∈ rgCells l, u.oneCell' = true := by
  intro u hu
  unfold rgCells at hu
  obtain ⟨v, _, hv⟩ := List.mem_flatMap.1 hu
  simp at hv
  rcases hv with rfl | rfl <;> rfl
theorem infoRg : (Try.prog.info? 54).map (fun i => (i.zero, i.size, i.bytes)) = some (some (.agg #[.int .i64 0, .int .i64 0]), 2, 16) := by kernel_rfl
/-- The slice value owns just these ranges, from block B on. -/
def OwnR (w : World) (B : Nat) (v : Value) (l : List Rg) : Prop := w.ownsRow B 54 2 v l.length (rgCells l)
theorem OwnR.alloc {w : World} {B : Nat} {v : Value} {l : List Rg} (h : OwnR w B v l) (o : Obj) : OwnR (w.alloc o) B v l := World.ownsRow.alloc h o
theorem OwnR.drewN {w : World} {B : Nat} {v : Value} {l : List Rg} (h : OwnR w B v l) (n : Nat) : OwnR (w.drewN n) B v l := h
theorem OwnR.grownB {w w' : World} {B : Nat} {v : Value} {l : List Rg} (h : OwnR w B v l) (hB : B ≤ w.heap.size) (hg : w.grownBy w' v.ownBlock) : Below B w w' :=
  (Below.refl _ _).grown hg hB (fun k hk => (World.ownsRow.lt h k hk).1)
theorem OwnR.on {w w' : World} {B : Nat} {v : Value} {l : List Rg} (h : OwnR w B v l) (hb : Below w.heap.size w w') : OwnR w' B v l :=
  World.ownsRow.kept (row := none) h ⟨hb.os, hb.tape, hb.output, hb.size, fun k hk _ => hb.block k hk⟩ (by cases v.ownBlock <;> simp)
theorem ownR_none (w : World) (B : Nat) : OwnR w B (.slice none 0 0) [] := ⟨rfl, Or.inl ⟨rfl, rfl⟩⟩
theorem wpList_appR {ops : Array Oper} {rest : List Oper} {o : Oper} {a : Act} {Q : Exit → Act → World → Prop} (w : World) (hgd : o.guard = none) (s x : Operand)
    (ho : o.op = .call { callee := .builtin .append, args := #[s, x], argTypes := #[22, 22] })
    (B : Nat) (v : Value) (l : List Rg) (hs : a.eval s = v) (hown : OwnR w B v l) (g m c : Nat) (cs : Array Value) (news : List Rg) (hm : news.length = m)
    (hx : a.eval x = .slice (some ⟨g, 0, none⟩) m c) (hb : w.heap[g]? = some (.cells cs 54 (0, 0))) (hcs : cs.toList = rgCells news) (hlen : l.length + m ≤ 1000000) (hB : B ≤ w.heap.size)
    (h : ∀ v' w', OwnR w' B v' (l ++ news) → Below B w w' → wpList Try.prog ops Q rest (a.put o.dst v') w') : wpList Try.prog ops Q (o :: rest) a w := by
  obtain ⟨i0, hi, hz0, hz1, hz2⟩ := info_parts infoRg
  refine wpList_append_own w hgd s x 22 ho B 54 i0 _ 2 16 Try.underlying22 hi hz0 hz1 hz2 rfl (by decide) v l.length (rgCells l) hs hown ⟨g, 0, none⟩ m c (rgCells news) hx (by rw [rgCells_len, hm]) ?_ (rgCells_one _) (by unfold maxLen; omega) (by omega) hB ?_
  · rw [← hcs]; exact World.news_of_block hb
  · intro v' w' h1 h2 _
    refine h v' w' ?_ (OwnR.grownB hown hB h2)
    unfold OwnR
    rw [List.length_append, hm, rgCells_append]
    exact h1
theorem OwnR.form {w : World} {B : Nat} {v : Value} {l : List Rg} (h : OwnR w B v l) (hne : 0 < l.length) : ∃ g cap, v = .slice (some ⟨g, 0, none⟩) l.length cap ∧ B ≤ g ∧ g < w.heap.size := by
  rcases h.2 with ⟨_, h⟩ | ⟨g, cap, cur, h1, h2, h3, _⟩
  · omega
  · exact ⟨g, cap, h1, h2, lt_heap h3⟩
theorem rgCells_at : ∀ (l : List Rg) (i : Nat), i < l.length → (rgCells l)[i * 2]? = some (.int .i64 (l.getD i (0, 0)).1) ∧ (rgCells l)[i * 2 + 1]? = some (.int .i64 (l.getD i (0, 0)).2)
  | [], i, h => by simp at h
  | v :: l, 0, _ => by simp [rgCells]
  | v :: l, i + 1, h => by
    have ih := rgCells_at l i (by simpa using h)
    have e : rgCells (v :: l) = [.int .i64 v.1, .int .i64 v.2] ++ rgCells l := rfl
    rw [e]
    refine ⟨?_, ?_⟩
    · rw [List.getElem?_append_right (by simp; omega)]
      simpa [show (i + 1) * 2 - 2 = i * 2 by omega] using ih.1
    · rw [List.getElem?_append_right (by simp; omega)]
      simpa [show (i + 1) * 2 + 1 - 2 = i * 2 + 1 by omega] using ih.2
theorem OwnR.at {w : World} {B g n cap : Nat} {l : List Rg} (h : OwnR w B (.slice (some ⟨g, 0, none⟩) n cap) l) (i : Nat) (hi : i < l.length) : w.cell? ⟨g, i * 2, none⟩ = some (.int .i64 (l.getD i (0, 0)).1) ∧ w.cell? ⟨g, i * 2 + 1, none⟩ = some (.int .i64 (l.getD i (0, 0)).2) := by
  obtain ⟨hl, hr⟩ := h
  rcases hr with ⟨h0, _⟩ | ⟨g', cap', cur, h1, h2, h3, h4, h5, h6, h7⟩
  · cases h0
  · injection h1 with e1 e2 e3
    injection e1 with e1
    injection e1 with e1
    subst e1
    have hc : ∀ j, j < l.length * 2 → w.cell? ⟨g, j, none⟩ = (rgCells l)[j]? := fun j hj => by
      rw [cell_heap h3, ← h7, List.getElem?_take, if_pos hj]
      simp
    obtain ⟨a1, a2⟩ := rgCells_at l i hi
    exact ⟨(hc _ (by omega)).trans a1, (hc _ (by omega)).trans a2⟩
theorem OwnR.len {w : World} {B g n cap : Nat} {l : List Rg} (h : OwnR w B (.slice (some ⟨g, 0, none⟩) n cap) l) : n = l.length := by
  rcases h.2 with ⟨h0, _⟩ | ⟨g', cap', cur, h1, _⟩
  · cases h0
  · injection h1
theorem OwnR.cold {w : World} {B g n cap : Nat} {l : List Rg} (h : OwnR w B (.slice (some ⟨g, 0, none⟩) n cap) l) (j : Nat) : w.frozen? ⟨g, j, none⟩ = false := by
  have hn := h.len
  subst hn
  exact World.ownsRow.frozenAt (size := 2) h j
theorem rgCells_set (o : List Rg) (q : Rg) (x : Int) : (rgCells (o ++ [q])).set (o.length * 2 + 1) (.int .i64 x) = rgCells (o ++ [(q.1, x)]) := by
  rw [rgCells_append, rgCells_append, List.set_append, if_neg (by rw [rgCells_len]; omega), rgCells_len, show o.length * 2 + 1 - o.length * 2 = 1 by omega]
  rfl
/-- The last one's end, written. -/
theorem OwnR.put {w : World} {B g n cap : Nat} {o : List Rg} {q : Rg} (h : OwnR w B (.slice (some ⟨g, 0, none⟩) n cap) (o ++ [q])) (x : Int) : OwnR (w.setCell ⟨g, o.length * 2 + 1, none⟩ (.int .i64 x)) B (.slice (some ⟨g, 0, none⟩) n cap) (o ++ [(q.1, x)]) ∧ Below B w (w.setCell ⟨g, o.length * 2 + 1, none⟩ (.int .i64 x)) := by
  have hn := h.len
  subst hn
  have hlt := (World.ownsRow.lt h g rfl).1
  refine ⟨?_, (Below.refl _ _).setCell hlt _⟩
  have := (World.ownsRow.stored (size := 2) h (o.length * 2 + 1) (.int .i64 x)).1
  rw [rgCells_set] at this
  unfold OwnR
  rw [show (o ++ [(q.1, x)]).length = (o ++ [q]).length by simp]
  exact this
/-- The last one's end, as memory has it. -/
def lastM (w : World) (v : Value) : Option Int := match v with
  | .slice (some a) n _ => (match w.cell? ⟨a.block, (n - 1) * 2 + 1, none⟩ with
    | some (.int _ h) => some h
    | _ => none)
  | _ => none
theorem lastM_eq {w : World} {B : Nat} {v : Value} {l : List Rg} (h : OwnR w B v l) (h0 : l = [] → v = .slice none 0 0) : lastM w v = lastH l := by
  rcases List.eq_nil_or_concat l with e | ⟨o, q, e⟩
  · rw [h0 e, e]; rfl
  · rw [List.concat_eq_append] at e
    subst e
    obtain ⟨g, cap, rfl, _, _⟩ := h.form (by simp)
    have hc := (h.at o.length (by simp)).2
    rw [lastH_concat]
    unfold lastM
    dsimp only
    rw [show (o ++ [q]).length - 1 = o.length by simp, hc]
    simp [List.getD_eq_getElem?_getD]
end Go.Proofs.Ytoplmioejebnnaa
namespace Go.Proofs.Ytoplmioejebnnaa
open Go.RowKit

theorem rb_new (w : World) (r : Rg) : (w.alloc (Obj.cells #[Value.int IntKind.i64 r.1, Value.int IntKind.i64 r.2] 54)).cell? ⟨w.heap.size, 0, none⟩ = some (.int .i64 r.1) ∧ (w.alloc (Obj.cells #[Value.int IntKind.i64 r.1, Value.int IntKind.i64 r.2] 54)).cell? ⟨w.heap.size, 1, none⟩ = some (.int .i64 r.2) :=
  ⟨cell_heap (heap_new w _) 0, cell_heap (heap_new w _) 1⟩
theorem below_field {B : Nat} {w w1 : World} (h : Below B w w1) (n : Nat) : Below B w (w1.drewN n) := ⟨h.os, h.tape, h.output, h.size, h.block⟩

/-- What Ranges answers. -/
def RangesOut (l o : List Rg) : Prop := rightR o ∧ inI64 o ∧ o.length ≤ l.length ∧ ∀ n, memR o n ↔ memR l n

end Go.Proofs.Ytoplmioejebnnaa
namespace Go.Proofs.Ytoplmioejebnnaa

/-! ### Ranges: not -/
def notR (from_ : Int) : List Rg → List Rg
  | [] => if from_ ≤ 9223372036854775807 then [(from_, 9223372036854775807)] else []
  | r :: l => if from_ < r.1 then (from_, r.1 - 1) :: notR (r.2 + 1) l else notR (r.2 + 1) l
theorem notR_mem : ∀ (l : List Rg) (f : Int), rightFrom (f - 1) l → inI64 l → ∀ n, memR (notR f l) n ↔ (f ≤ n ∧ n ≤ 9223372036854775807 ∧ ¬ memR l n)
  | [], f, _, _, n => by
    unfold notR
    split
    · rw [memR_cons]; simp [memR_nil]
    · simp [memR_nil]; omega
  | r :: l, f, ⟨h1, h2, h3⟩, hi, n => by
    have hr := hi r (by simp)
    have ih := notR_mem l (r.2 + 1) (rightFrom_mono h3 (by omega)) (fun x hx => hi x (by simp [hx])) n
    have hgt := fun hm => rightFrom_lt h3 n hm
    unfold notR
    rw [memR_cons]
    split
    · rw [memR_cons, ih]
      dsimp only
      constructor
      · rintro (h | ⟨a, b, c⟩)
        · refine ⟨h.1, by omega, ?_⟩
          rintro (h' | h')
          · omega
          · have := hgt h'; omega
        · refine ⟨by omega, b, ?_⟩
          rintro (h' | h')
          · omega
          · exact c h'
      · rintro ⟨a, b, c⟩
        by_cases hn : n < r.1
        · left; omega
        · right
          refine ⟨?_, b, fun h' => c (Or.inr h')⟩
          by_cases hn2 : n ≤ r.2
          · exact absurd (Or.inl ⟨by omega, hn2⟩) c
          · omega
    · rw [ih]
      constructor
      · rintro ⟨a, b, c⟩
        refine ⟨by omega, b, ?_⟩
        rintro (h' | h')
        · omega
        · exact c h'
      · rintro ⟨a, b, c⟩
        refine ⟨?_, b, fun h' => c (Or.inr h')⟩
        by_cases hn2 : n ≤ r.2
        · exact absurd (Or.inl ⟨by omega, hn2⟩) c
        · omega
theorem notR_right : ∀ (l : List Rg) (f : Int), rightFrom (f - 1) l → inI64 l → -9223372036854775808 ≤ f → (∀ b, b < f → rightFrom b (notR f l)) ∧ inI64 (notR f l) ∧ (notR f l).length ≤ l.length + 1
  | [], f, _, _, h => by
    unfold notR
    split
    · refine ⟨fun b hb => ⟨hb, by dsimp only; omega, trivial⟩, fun x hx => ?_, by simp⟩
      simp at hx; rw [hx]; dsimp only; omega
    · exact ⟨fun b hb => trivial, fun x hx => by simp at hx, by simp⟩
  | r :: l, f, ⟨h1, h2, h3⟩, hi, h => by
    have hr := hi r (by simp)
    obtain ⟨i1, i2, i3⟩ := notR_right l (r.2 + 1) (rightFrom_mono h3 (by omega)) (fun x hx => hi x (by simp [hx])) (by omega)
    unfold notR
    split
    · refine ⟨fun b hb => ⟨hb, by dsimp only; omega, ?_⟩, fun x hx => ?_, by simp; omega⟩
      · have := i1 r.1 (by omega)
        dsimp only
        rw [show r.1 - 1 + 1 = r.1 by omega]; exact this
      · rcases List.mem_cons.1 hx with rfl | hx
        · dsimp only; omega
        · exact i2 x hx
    · exact ⟨fun b hb => i1 b (by omega), i2, by simp; omega⟩

/-! ### Ranges: one more -/
def insR (r : Rg) : List Rg → List Rg
  | [] => [r]
  | q :: l => if r.2 + 1 < q.1 then r :: q :: l else if q.2 + 1 < r.1 then q :: insR r l else insR (min r.1 q.1, max r.2 q.2) l
theorem insR_mem : ∀ (l : List Rg) (r : Rg), r.1 ≤ r.2 → rightR l → ∀ n, memR (insR r l) n ↔ (r.1 ≤ n ∧ n ≤ r.2) ∨ memR l n
  | [], r, _, _, n => by unfold insR; rw [memR_cons]
  | q :: l, r, h, ⟨h1, h2⟩, n => by
    unfold insR
    split
    · rw [memR_cons]
    · split
      · rw [memR_cons, insR_mem l r h (rightFrom_right h2) n, memR_cons]
        constructor
        · rintro (a | a | a)
          · exact Or.inr (Or.inl a)
          · exact Or.inl a
          · exact Or.inr (Or.inr a)
        · rintro (a | a | a)
          · exact Or.inr (Or.inl a)
          · exact Or.inl a
          · exact Or.inr (Or.inr a)
      · rw [insR_mem l _ (by dsimp only; omega) (rightFrom_right h2) n, memR_cons]
        dsimp only
        constructor
        · rintro (a | a)
          · by_cases x : r.1 ≤ n ∧ n ≤ r.2
            · exact Or.inl x
            · right; left; omega
          · exact Or.inr (Or.inr a)
        · rintro (a | a | a)
          · left; omega
          · left; omega
          · exact Or.inr a
theorem insR_right : ∀ (l : List Rg) (r : Rg) (b : Int), r.1 ≤ r.2 → b < r.1 → rightFrom b l → rightFrom b (insR r l)
  | [], r, b, h, hb, _ => ⟨hb, h, trivial⟩
  | q :: l, r, b, h, hb, ⟨h0, h1, h2⟩ => by
    unfold insR
    split
    · exact ⟨hb, h, by omega, h1, h2⟩
    · split
      · exact ⟨h0, h1, insR_right l r (q.2 + 1) h (by omega) h2⟩
      · exact insR_right l _ b (by dsimp only; omega) (by dsimp only; omega) (rightFrom_mono h2 (by omega))
theorem insR_i64 : ∀ (l : List Rg) (r : Rg), (-9223372036854775808 ≤ r.1 ∧ r.1 ≤ 9223372036854775807 ∧ -9223372036854775808 ≤ r.2 ∧ r.2 ≤ 9223372036854775807) → inI64 l → inI64 (insR r l)
  | [], r, h, _ => fun x hx => by unfold insR at hx; simp at hx; rw [hx]; exact h
  | q :: l, r, h, hl => by
    have hq := hl q (by simp)
    have hl' : inI64 l := fun x hx => hl x (by simp [hx])
    unfold insR
    split
    · intro x hx
      rcases List.mem_cons.1 hx with rfl | hx
      · exact h
      · exact hl x hx
    · split
      · intro x hx
        rcases List.mem_cons.1 hx with rfl | hx
        · exact hq
        · exact insR_i64 l r h hl' x hx
      · exact insR_i64 l _ (by dsimp only; omega) hl'
theorem insR_len : ∀ (l : List Rg) (r : Rg), (insR r l).length ≤ l.length + 1
  | [], r => by simp [insR]
  | q :: l, r => by
    unfold insR
    split
    · simp
    · split
      · have := insR_len l r; simp; omega
      · have := insR_len l (min r.1 q.1, max r.2 q.2); simp; omega
def orR : List Rg → List Rg → List Rg
  | [], b => b
  | r :: a, b => insR r (orR a b)
theorem rightR_lt {l : List Rg} (h : rightR l) : ∃ b, rightFrom b l := by
  cases l with
  | nil => exact ⟨0, trivial⟩
  | cons r l => exact ⟨r.1 - 1, rightR_from h⟩
theorem orR_all : ∀ (a b : List Rg), (∀ r ∈ a, r.1 ≤ r.2) → inI64 a → rightR b → inI64 b → rightR (orR a b) ∧ inI64 (orR a b) ∧ (orR a b).length ≤ a.length + b.length ∧ ∀ n, memR (orR a b) n ↔ memR a n ∨ memR b n
  | [], b, _, _, hb, ib => ⟨hb, ib, by simp [orR], fun n => by simp [orR, memR_nil]⟩
  | r :: a, b, ha, ia, hb, ib => by
    obtain ⟨h1, h2, h3, h4⟩ := orR_all a b (fun x hx => ha x (by simp [hx])) (fun x hx => ia x (by simp [hx])) hb ib
    have hr := ha r (by simp)
    refine ⟨?_, insR_i64 _ r (ia r (by simp)) h2, ?_, fun n => ?_⟩
    · obtain ⟨c, hc⟩ := rightR_lt h1
      exact rightFrom_right (insR_right (orR a b) r (min c (r.1 - 1)) hr (by omega) (rightFrom_mono hc (by omega)))
    · have := insR_len (orR a b) r
      show (insR r (orR a b)).length ≤ _
      simp; omega
    · show memR (insR r (orR a b)) n ↔ _
      rw [insR_mem _ r hr h1 n, h4 n, memR_cons, or_assoc]
theorem rightR_le {l : List Rg} (h : rightR l) : ∀ r ∈ l, r.1 ≤ r.2 := by
  have aux : ∀ (l : List Rg) (b : Int), rightFrom b l → ∀ r ∈ l, r.1 ≤ r.2 := by
    intro l
    induction l with
    | nil => intro b _ r hr; simp at hr
    | cons q l ih =>
      intro b ⟨_, h1, h2⟩ r hr
      rcases List.mem_cons.1 hr with rfl | hr
      · exact h1
      · exact ih _ h2 r hr
  obtain ⟨b, hb⟩ := rightR_lt h
  exact aux l b hb

/-! ### Strings -/
def insS (s : ByteArray) : List ByteArray → List ByteArray
  | [] => [s]
  | t :: l => if Op.bytesLess s.toList t.toList then s :: t :: l else if Op.bytesLess t.toList s.toList then t :: insS s l else t :: l
def orS : List ByteArray → List ByteArray → List ByteArray
  | [], b => b
  | s :: a, b => insS s (orS a b)
theorem insS_mem : ∀ (l : List ByteArray) (s x : ByteArray), x ∈ insS s l ↔ x = s ∨ x ∈ l
  | [], s, x => by simp [insS]
  | t :: l, s, x => by
    unfold insS
    split
    · simp
    · split
      · rw [List.mem_cons, insS_mem l s x, List.mem_cons]
        constructor
        · rintro (a | a | a) <;> simp [a]
        · rintro (a | a | a) <;> simp [a]
      · rename_i h1 h2
        have e : s = t := by
          rcases lessB_tri s.toList t.toList with h | h | h
          · exact absurd h h1
          · exact toList_inj h
          · exact absurd h h2
        rw [List.mem_cons]
        constructor
        · exact fun h => Or.inr h
        · rintro (h | h)
          · left; rw [h, e]
          · exact h
theorem insS_rises : ∀ (l : List ByteArray) (s : ByteArray), risesS (l.map fun b => b.toList) → risesS ((insS s l).map fun b => b.toList)
  | [], s, _ => by simp [insS, risesS]
  | t :: l, s, ⟨h1, h2⟩ => by
    unfold insS
    split
    · rename_i h
      refine ⟨fun b hb => ?_, h1, h2⟩
      rcases List.mem_cons.1 hb with rfl | hb
      · exact h
      · exact lessB_trans _ _ _ h (h1 b hb)
    · split
      · rename_i h
        refine ⟨fun b hb => ?_, insS_rises l s h2⟩
        obtain ⟨x, hx, rfl⟩ := List.mem_map.1 hb
        rcases (insS_mem l s x).1 hx with rfl | hx
        · exact h
        · exact h1 _ (List.mem_map.2 ⟨x, hx, rfl⟩)
      · exact ⟨h1, h2⟩
theorem insS_len : ∀ (l : List ByteArray) (s : ByteArray), (insS s l).length ≤ l.length + 1
  | [], s => by simp [insS]
  | t :: l, s => by
    unfold insS
    split
    · simp
    · split
      · have := insS_len l s; simp; omega
      · simp
theorem orS_all : ∀ (a b : List ByteArray), (∀ s ∈ a, s.size ≤ 8) → rightS b → rightS (orS a b) ∧ (orS a b).length ≤ a.length + b.length ∧ ∀ x, x ∈ orS a b ↔ x ∈ a ∨ x ∈ b
  | [], b, _, hb => ⟨hb, by simp [orS], fun x => by simp [orS]⟩
  | s :: a, b, ha, hb => by
    obtain ⟨h1, h2, h3⟩ := orS_all a b (fun x hx => ha x (by simp [hx])) hb
    have hm : ∀ x, x ∈ orS (s :: a) b ↔ x ∈ s :: a ∨ x ∈ b := fun x => by
      show x ∈ insS s (orS a b) ↔ _
      rw [insS_mem, h3, List.mem_cons, or_assoc]
    refine ⟨⟨fun x hx => ?_, insS_rises _ s h1.2⟩, ?_, hm⟩
    · rcases (hm x).1 hx with hx | hx
      · exact ha x hx
      · exact hb.1 x hx
    · have := insS_len (orS a b) s
      show (insS s (orS a b)).length ≤ _
      simp; omega
theorem filter_rises : ∀ (l : List ByteArray) (p : ByteArray → Bool), risesS (l.map fun b => b.toList) → risesS ((l.filter p).map fun b => b.toList)
  | [], p, _ => by simp [risesS]
  | t :: l, p, ⟨h1, h2⟩ => by
    rw [List.filter_cons]
    split
    · refine ⟨fun b hb => ?_, filter_rises l p h2⟩
      obtain ⟨x, hx, rfl⟩ := List.mem_map.1 hb
      exact h1 _ (List.mem_map.2 ⟨x, (List.mem_filter.1 hx).1, rfl⟩)
    · exact filter_rises l p h2
theorem filter_right (l : List ByteArray) (p : ByteArray → Bool) (h : rightS l) : rightS (l.filter p) := ⟨fun s hs => h.1 s (List.mem_filter.1 hs).1, filter_rises l p h.2⟩

/-! ### Sets -/
def allV : SetV := ⟨true, [(-9223372036854775808, 9223372036854775807)], true, []⟩
def notV (S : SetV) : SetV := ⟨!S.absent, notR (-9223372036854775808) S.ints, !S.co, S.strs⟩
def orStr (A B : SetV) : List ByteArray :=
  if A.co then (if B.co then A.strs.filter (fun s => inStrsB B.strs s) else A.strs.filter (fun s => !inStrsB B.strs s))
  else (if B.co then B.strs.filter (fun s => !inStrsB A.strs s) else orS A.strs B.strs)
def orV (A B : SetV) : SetV := ⟨A.absent || B.absent, orR A.ints B.ints, A.co || B.co, orStr A B⟩
def andV (A B : SetV) : SetV := notV (orV (notV A) (notV B))
/-- A right set whose numbers are the machine's. -/
structure Good (S : SetV) : Prop where
  r : rightSet S = true
  i : inI64 S.ints
theorem Good.ri {S : SetV} (h : Good S) : rightR S.ints := ((rightSet_iff S).1 h.r).1
theorem Good.rs {S : SetV} (h : Good S) : rightS S.strs := ((rightSet_iff S).1 h.r).2
theorem rightR_low {l : List Rg} (h : rightR l) (hi : inI64 l) : rightFrom (-9223372036854775808 - 1) l := by
  cases l with
  | nil => trivial
  | cons r l => exact ⟨by have := hi r (by simp); omega, h.1, h.2⟩
theorem notV_good {S : SetV} (h : Good S) : Good (notV S) := by
  obtain ⟨h1, h2, _⟩ := notR_right S.ints (-9223372036854775808) (rightR_low h.ri h.i) h.i (by omega)
  exact ⟨(rightSet_iff _).2 ⟨rightFrom_right (h1 (-9223372036854775809) (by omega)), h.rs⟩, h2⟩
theorem notV_len (S : SetV) (h : Good S) : (notV S).ints.length ≤ S.ints.length + 1 ∧ (notV S).strs.length = S.strs.length :=
  ⟨(notR_right S.ints (-9223372036854775808) (rightR_low h.ri h.i) h.i (by omega)).2.2, rfl⟩
theorem bool_of_iff {a b : Bool} (h : a = true ↔ b = true) : a = b := by
  cases a <;> cases b <;> simp at h ⊢
/-- The values of a not. -/
theorem notV_has {S : SetV} (h : Good S) (p : Va) (b0 : -9223372036854775808 ≤ p.2.1) (b1 : p.2.1 ≤ 9223372036854775807) : hasP (notV S) p = (rightB p.1 p.2.1 p.2.2 && !hasP S p) := by
  by_cases hp : rightV p
  · have hp' : rightB p.1 p.2.1 p.2.2 = true := hp
    rw [hp', Bool.true_and]
    rcases rightV_cases hp with rfl | ⟨n, rfl⟩ | ⟨s, hs, rfl⟩
    · rw [has_abs, has_abs]; rfl
    · rw [has_num, has_num]
      refine bool_of_iff ?_
      rw [inInts_iff]
      show memR (notR _ S.ints) n ↔ _
      rw [notR_mem S.ints _ (rightR_low h.ri h.i) h.i n, ← inInts_iff]
      dsimp only at b0 b1
      simp [b0, b1]
    · rw [has_str _ hs, has_str _ hs]
      show (inStrsB S.strs s != !S.co) = !(inStrsB S.strs s != S.co)
      cases inStrsB S.strs s <;> cases S.co <;> rfl
  · rw [has_wrong _ hp, has_wrong _ hp]
    have : rightB p.1 p.2.1 p.2.2 = false := by
      cases e : rightB p.1 p.2.1 p.2.2
      · rfl
      · exact absurd e hp
    rw [this]; rfl
theorem orV_good {A B : SetV} (hA : Good A) (hB : Good B) : Good (orV A B) := by
  obtain ⟨h1, h2, _, _⟩ := orR_all A.ints B.ints (rightR_le hA.ri) hA.i hB.ri hB.i
  refine ⟨(rightSet_iff _).2 ⟨h1, ?_⟩, h2⟩
  show rightS (orStr A B)
  unfold orStr
  split
  · split
    · exact filter_right _ _ hA.rs
    · exact filter_right _ _ hA.rs
  · split
    · exact filter_right _ _ hB.rs
    · exact (orS_all A.strs B.strs hA.rs.1 hB.rs).1
theorem orV_len {A B : SetV} (hA : Good A) (hB : Good B) : (orV A B).ints.length ≤ A.ints.length + B.ints.length ∧ (orV A B).strs.length ≤ A.strs.length + B.strs.length := by
  refine ⟨(orR_all A.ints B.ints (rightR_le hA.ri) hA.i hB.ri hB.i).2.2.1, ?_⟩
  show (orStr A B).length ≤ _
  unfold orStr
  split
  · split
    · exact Nat.le_trans (List.length_filter_le _ _) (by omega)
    · exact Nat.le_trans (List.length_filter_le _ _) (by omega)
  · split
    · exact Nat.le_trans (List.length_filter_le _ _) (by omega)
    · exact (orS_all A.strs B.strs hA.rs.1 hB.rs).2.1
theorem inStrs_filter (l : List ByteArray) (p : ByteArray → Bool) (s : ByteArray) : inStrsB (l.filter p) s = (inStrsB l s && p s) := by
  refine bool_of_iff ?_
  rw [inStrs_iff, List.mem_filter, Bool.and_eq_true, inStrs_iff]
/-- The values of an or. -/
theorem orV_has {A B : SetV} (hA : Good A) (hB : Good B) (p : Va) : hasP (orV A B) p = (hasP A p || hasP B p) := by
  by_cases hp : rightV p
  · rcases rightV_cases hp with rfl | ⟨n, rfl⟩ | ⟨s, hs, rfl⟩
    · rw [has_abs, has_abs, has_abs]; rfl
    · rw [has_num, has_num, has_num]
      refine bool_of_iff ?_
      rw [inInts_iff, Bool.or_eq_true, inInts_iff, inInts_iff]
      exact (orR_all A.ints B.ints (rightR_le hA.ri) hA.i hB.ri hB.i).2.2.2 n
    · rw [has_str _ hs, has_str _ hs, has_str _ hs]
      show (inStrsB (orStr A B) s != (A.co || B.co)) = _
      have hor : inStrsB (orS A.strs B.strs) s = (inStrsB A.strs s || inStrsB B.strs s) := by
        refine bool_of_iff ?_
        rw [inStrs_iff, Bool.or_eq_true, inStrs_iff, inStrs_iff]
        exact (orS_all A.strs B.strs hA.rs.1 hB.rs).2.2 s
      unfold orStr
      cases hAc : A.co <;> cases hBc : B.co <;> simp only [if_true, if_false, Bool.false_eq_true, hor, inStrs_filter] <;> cases inStrsB A.strs s <;> cases inStrsB B.strs s <;> rfl
  · rw [has_wrong _ hp, has_wrong _ hp, has_wrong _ hp]; rfl
theorem andV_good {A B : SetV} (hA : Good A) (hB : Good B) : Good (andV A B) := notV_good (orV_good (notV_good hA) (notV_good hB))
theorem andV_len {A B : SetV} (hA : Good A) (hB : Good B) : (andV A B).ints.length ≤ A.ints.length + B.ints.length + 3 ∧ (andV A B).strs.length ≤ A.strs.length + B.strs.length := by
  have h1 := notV_len A hA
  have h2 := notV_len B hB
  have h3 := orV_len (notV_good hA) (notV_good hB)
  have h4 := notV_len _ (orV_good (notV_good hA) (notV_good hB))
  unfold andV
  omega
theorem andV_has {A B : SetV} (hA : Good A) (hB : Good B) (p : Va) (b0 : -9223372036854775808 ≤ p.2.1) (b1 : p.2.1 ≤ 9223372036854775807) : hasP (andV A B) p = (hasP A p && hasP B p) := by
  unfold andV
  rw [notV_has (orV_good (notV_good hA) (notV_good hB)) p b0 b1, orV_has (notV_good hA) (notV_good hB), notV_has hA p b0 b1, notV_has hB p b0 b1]
  by_cases hp : rightV p
  · have hp' : rightB p.1 p.2.1 p.2.2 = true := hp
    rw [hp']
    cases hasP A p <;> cases hasP B p <;> rfl
  · rw [has_wrong A hp, has_wrong B hp]
    cases rightB p.1 p.2.1 p.2.2 <;> rfl
theorem allV_good : Good allV := ⟨by rfl, fun r hr => by simp [allV] at hr; rw [hr]; dsimp only; omega⟩
theorem allV_has (p : Va) (b0 : -9223372036854775808 ≤ p.2.1) (b1 : p.2.1 ≤ 9223372036854775807) : hasP allV p = rightB p.1 p.2.1 p.2.2 := by
  by_cases hp : rightV p
  · have hp' : rightB p.1 p.2.1 p.2.2 = true := hp
    rw [hp']
    rcases rightV_cases hp with rfl | ⟨n, rfl⟩ | ⟨s, hs, rfl⟩
    · rw [has_abs]; rfl
    · rw [has_num, inInts_iff]
      exact ⟨_, List.mem_singleton.2 rfl, b0, b1⟩
    · rw [has_str _ hs]; rfl
  · rw [has_wrong _ hp]
    cases e : rightB p.1 p.2.1 p.2.2
    · rfl
    · exact absurd e hp
end Go.Proofs.Ytoplmioejebnnaa
namespace Go.Proofs.Ytoplmioejebnnaa
open Go.RowKit

def emptyB (S : SetV) : Bool := ((!S.absent && S.ints.isEmpty) && !S.co) && S.strs.isEmpty
def inB (A B : SetV) : Bool := sameB (andV A B) A
/-- Not more than the laws ask. -/
structure Fit (S : SetV) : Prop where
  good : Good S
  ni : S.ints.length ≤ 1000
  ns : S.strs.length ≤ 1000
/-- The program's set keeps its promises. -/
structure SetProg : Prop where
  same : ∀ (v u : Value) (A B : SetV) (w : World), SetAt w v A → SetAt w u B → Fit A → Fit B → Calls Try.prog 59 #[v, u] w fun r w' => r = .returned (.bool (sameB A B)) ∧ Below w.heap.size w w'
  has : ∀ (v : Value) (S : SetV) (k n : Int) (s : ByteArray) (w : World), SetAt w v S → Fit S → -9223372036854775808 ≤ n → n ≤ 9223372036854775807 → s.size ≤ maxLen → Calls Try.prog 52 #[v, .agg #[.int .i64 k, .int .i64 n, .string s]] w fun r w' => r = .returned (.bool (hasB S k n s)) ∧ Below w.heap.size w w'

theorem rngs_none (w : World) : RngsAt w (.slice none 0 0) [] := ⟨fun _ h => by simp at h, by simp, none, 0, rfl, fun i hi => by simp at hi⟩
theorem strs_none (w : World) : StrsAt w (.slice none 0 0) [] := ⟨fun _ h => by simp at h, by simp, none, 0, rfl, fun i hi => by simp at hi⟩
/-- A new row of ranges. -/
theorem rngs_new (w : World) (cs : Array Value) (l : List Rg) (h : cs.toList = rgCells l) (hi : inI64 l) (hl : l.length ≤ 1000) (n : Nat) (hn : n = w.heap.size) (k c : Nat) (hk : k = l.length) (hkc : k ≤ c := by omega) : RngsAt (w.alloc (.cells cs 54)) (.slice (some ⟨n, 0, none⟩) k c) l := by
  subst hn hk
  obtain ⟨sp, rfl⟩ := capOf_of (a := some ⟨w.heap.size, 0, none⟩) hkc (fun e => by cases e)
  refine ⟨hi, by omega, _, sp, rfl, fun i hi' => ⟨_, 0, rfl, by show _ < (w.heap.push _).size; simp, ?_, ?_⟩⟩
  · rw [cell_heap (heap_new w _), ← (rgCells_at l i hi').1, ← h]; simp
  · rw [cell_heap (heap_new w _), ← (rgCells_at l i hi').2, ← h]; simp
theorem OwnR.rngs {w : World} {B : Nat} {v : Value} {l : List Rg} (h : OwnR w B v l) (hi : inI64 l) (hl : l.length ≤ 9223372036854775807) : RngsAt w v l := by
  refine ⟨hi, hl, ?_⟩
  rcases h.2 with ⟨e, h0⟩ | ⟨g, cap, cur, e, _, hg, hc, _⟩
  · exact ⟨none, 0, by rw [e, h0]; rfl, fun i hi' => by omega⟩
  · obtain ⟨sp, hsp⟩ := capOf_of (a := some ⟨g, 0, none⟩) hc (fun e => by cases e)
    subst e
    refine ⟨_, sp, by rw [← hsp], fun i hi' => ⟨g, 0, rfl, lt_heap hg, ?_, ?_⟩⟩
    · rw [Nat.zero_add]; exact (h.at i hi').1
    · rw [Nat.zero_add]; exact (h.at i hi').2
theorem noSet_at (w : World) : SetAt w (.agg #[.bool false, .slice none 0 0, .bool false, .slice none 0 0]) noSet := ⟨_, _, rfl, rngs_none w, strs_none w⟩
theorem has_x : hasB ⟨true, [(-9223372036854775808, 6), (8, 9223372036854775807)], true, []⟩ 2 0 ⟨#[120]⟩ = true := by
  have := has_str ⟨true, [(-9223372036854775808, 6), (8, 9223372036854775807)], true, []⟩ (s := ⟨#[120]⟩) (by decide)
  unfold hasP at this
  rw [this]; rfl
theorem has_7 : hasB ⟨true, [(-9223372036854775808, 6), (8, 9223372036854775807)], true, []⟩ 1 7 ⟨#[]⟩ = false := by
  have := has_num ⟨true, [(-9223372036854775808, 6), (8, 9223372036854775807)], true, []⟩ 7
  unfold hasP at this
  exact this.trans rfl
theorem noSet_good : Good noSet := ⟨rfl, fun _ h => by simp [noSet] at h⟩
theorem seven_good : Good ⟨false, [(7, 7)], false, []⟩ := ⟨by rfl, fun r hr => by simp at hr; rw [hr]; dsimp only; omega⟩
theorem seven_not : notV ⟨false, [(7, 7)], false, []⟩ = ⟨true, [(-9223372036854775808, 6), (8, 9223372036854775807)], true, []⟩ := by rfl
theorem not_none : notV noSet = allV := by rfl
theorem good_not7 : Good ⟨true, [(-9223372036854775808, 6), (8, 9223372036854775807)], true, []⟩ := seven_not ▸ notV_good seven_good
theorem awake_ranges (o : List Rg) (h : RangesOut [(1, 3), (4, 5), (9, 8)] o) : o = [(1, 5)] := by
  refine rightR_ext o [(1, 5)] h.1 ⟨by dsimp only; omega, trivial⟩ fun n => ?_
  rw [h.2.2.2 n]
  simp only [memR_cons, memR_nil, or_false]
  omega

end Go.Proofs.Ytoplmioejebnnaa
namespace Go.Proofs.Ytoplmioejebnnaa

theorem good_ext {A B : SetV} (hA : Good A) (hB : Good B) (hn : A.strs.length + B.strs.length < 100000)
    (h : ∀ p : Va, -9223372036854775808 ≤ p.2.1 → p.2.1 ≤ 9223372036854775807 → hasP A p = hasP B p) : A = B := set_ext A B hA.r hB.r hA.i hB.i hn h
theorem has_right {S : SetV} {p : Va} (h : hasP S p = true) : rightB p.1 p.2.1 p.2.2 = true := by
  cases e : rightB p.1 p.2.1 p.2.2
  · have : ¬ rightV p := fun hp => by
      have hp' : rightB p.1 p.2.1 p.2.2 = true := hp
      rw [e] at hp'; simp at hp'
    rw [has_wrong S this] at h; simp at h
  · rfl
theorem not_right {S : SetV} {p : Va} (h : rightB p.1 p.2.1 p.2.2 = false) : hasP S p = false := has_wrong S (fun hp => by
  have hp' : rightB p.1 p.2.1 p.2.2 = true := hp
  rw [h] at hp'; simp at hp')
/-- Not too large. -/
structure Lit40 (S : SetV) : Prop where
  good : Good S
  ni : S.ints.length ≤ 200
  ns : S.strs.length ≤ 200
theorem Lit40.fit {S : SetV} (h : Lit40 S) : Fit S := ⟨h.good, by have := h.ni; omega, by have := h.ns; omega⟩

theorem inB_iff {A B : SetV} (hA : Good A) (hB : Good B) (hn : A.strs.length + A.strs.length + B.strs.length < 100000) : inB A B = true ↔ inSet A B := by
  unfold inB
  rw [sameB_iff]
  constructor
  · intro h p b0 b1 ha
    have e := andV_has hA hB p b0 b1
    rw [h, ha] at e
    simpa using e.symm
  · intro h
    have l := (andV_len hA hB).2
    refine good_ext (andV_good hA hB) hA (by omega) fun p b0 b1 => ?_
    rw [andV_has hA hB p b0 b1]
    cases e : hasP A p
    · rfl
    · rw [h p b0 b1 e]; rfl
theorem not_all : notV allV = noSet := by rfl

theorem not_not {A : SetV} (hA : Good A) (lA : A.strs.length ≤ 1000) : notV (notV A) = A := by
  refine good_ext (notV_good (notV_good hA)) hA (by show A.strs.length + A.strs.length < _; omega) fun p b0 b1 => ?_
  rw [notV_has (notV_good hA) p b0 b1, notV_has hA p b0 b1]
  cases e : rightB p.1 p.2.1 p.2.2
  · rw [not_right e]; rfl
  · cases hasP A p <;> rfl
theorem or_not {A : SetV} (hA : Good A) (lA : A.strs.length ≤ 1000) : orV A (notV A) = allV := by
  have l := (orV_len hA (notV_good hA)).2
  have l2 : (notV A).strs.length = A.strs.length := rfl
  refine good_ext (orV_good hA (notV_good hA)) allV_good (by show _ + 0 < _; omega) fun p b0 b1 => ?_
  rw [orV_has hA (notV_good hA), notV_has hA p b0 b1, allV_has p b0 b1]
  cases e : rightB p.1 p.2.1 p.2.2
  · rw [not_right e]; rfl
  · cases hasP A p <;> rfl
theorem and_not {A : SetV} (hA : Good A) (lA : A.strs.length ≤ 1000) : andV A (notV A) = noSet := by
  have l := (andV_len hA (notV_good hA)).2
  have l2 : (notV A).strs.length = A.strs.length := rfl
  refine good_ext (andV_good hA (notV_good hA)) noSet_good (by show _ + 0 < _; omega) fun p b0 b1 => ?_
  rw [andV_has hA (notV_good hA) p b0 b1, notV_has hA p b0 b1]
  have e0 : hasP noSet p = false := by
    by_cases hp : rightV p
    · rcases rightV_cases hp with rfl | ⟨n, rfl⟩ | ⟨s, hs, rfl⟩
      · rw [has_abs]; rfl
      · rw [has_num]; rfl
      · rw [has_str _ hs]; rfl
    · exact has_wrong _ hp
  rw [e0]
  cases rightB p.1 p.2.1 p.2.2 <;> cases hasP A p <;> rfl
theorem in_all {A : SetV} (hA : Good A) (lA : A.strs.length ≤ 1000) : inB A allV = true := by
  unfold inB
  rw [sameB_iff]
  have l := (andV_len hA allV_good).2
  have l2 : allV.strs.length = 0 := rfl
  refine good_ext (andV_good hA allV_good) hA (by omega) fun p b0 b1 => ?_
  rw [andV_has hA allV_good p b0 b1, allV_has p b0 b1]
  cases e : rightB p.1 p.2.1 p.2.2
  · rw [not_right e]; rfl
  · cases hasP A p <;> rfl
theorem and_in {A B : SetV} (hA : Good A) (hB : Good B) (lA : A.strs.length ≤ 1000) (lB : B.strs.length ≤ 1000) : inB (andV A B) A = true := by
  have l := (andV_len hA hB).2
  rw [inB_iff (andV_good hA hB) hA (by omega)]
  intro p b0 b1 h
  rw [andV_has hA hB p b0 b1] at h
  simp at h; exact h.1
theorem in_or {A B : SetV} (hA : Good A) (hB : Good B) (lA : A.strs.length ≤ 1000) (lB : B.strs.length ≤ 1000) : inB A (orV A B) = true := by
  have l := (orV_len hA hB).2
  rw [inB_iff hA (orV_good hA hB) (by omega)]
  intro p b0 b1 h
  rw [orV_has hA hB, h]; rfl
theorem in_both {A B : SetV} (hA : Good A) (hB : Good B) (lA : A.strs.length ≤ 1000) (lB : B.strs.length ≤ 1000) : (inB A B && inB B A) = sameB A B := by
  refine bool_of_iff ?_
  rw [Bool.and_eq_true, inB_iff hA hB (by omega), inB_iff hB hA (by omega), sameB_iff]
  constructor
  · rintro ⟨h1, h2⟩; exact inSet_same A B hA.r hB.r hA.i hB.i (by omega) h1 h2
  · rintro rfl; exact ⟨inSet_refl A, inSet_refl A⟩
theorem morgan1 {A B : SetV} (hA : Good A) (hB : Good B) (lA : A.strs.length ≤ 1000) (lB : B.strs.length ≤ 1000) : notV (orV A B) = andV (notV A) (notV B) := by
  have l := (orV_len hA hB).2
  have l2 := (andV_len (notV_good hA) (notV_good hB)).2
  have l3 : (notV A).strs.length = A.strs.length := rfl
  have l4 : (notV B).strs.length = B.strs.length := rfl
  have l5 : (notV (orV A B)).strs.length = (orV A B).strs.length := rfl
  refine good_ext (notV_good (orV_good hA hB)) (andV_good (notV_good hA) (notV_good hB)) (by omega) fun p b0 b1 => ?_
  rw [notV_has (orV_good hA hB) p b0 b1, orV_has hA hB, andV_has (notV_good hA) (notV_good hB) p b0 b1, notV_has hA p b0 b1, notV_has hB p b0 b1]
  cases rightB p.1 p.2.1 p.2.2 <;> cases hasP A p <;> cases hasP B p <;> rfl
theorem morgan2 {A B : SetV} (hA : Good A) (hB : Good B) (lA : A.strs.length ≤ 1000) (lB : B.strs.length ≤ 1000) : notV (andV A B) = orV (notV A) (notV B) := by
  have l := (andV_len hA hB).2
  have l2 := (orV_len (notV_good hA) (notV_good hB)).2
  have l3 : (notV A).strs.length = A.strs.length := rfl
  have l4 : (notV B).strs.length = B.strs.length := rfl
  have l5 : (notV (andV A B)).strs.length = (andV A B).strs.length := rfl
  refine good_ext (notV_good (andV_good hA hB)) (orV_good (notV_good hA) (notV_good hB)) (by omega) fun p b0 b1 => ?_
  rw [notV_has (andV_good hA hB) p b0 b1, andV_has hA hB p b0 b1, orV_has (notV_good hA) (notV_good hB), notV_has hA p b0 b1, notV_has hB p b0 b1]
  cases rightB p.1 p.2.1 p.2.2 <;> cases hasP A p <;> cases hasP B p <;> rfl
theorem or_comm' {A B : SetV} (hA : Good A) (hB : Good B) (lA : A.strs.length ≤ 1000) (lB : B.strs.length ≤ 1000) : orV A B = orV B A := by
  have l := (orV_len hA hB).2
  have l2 := (orV_len hB hA).2
  refine good_ext (orV_good hA hB) (orV_good hB hA) (by omega) fun p b0 b1 => ?_
  rw [orV_has hA hB, orV_has hB hA]
  cases hasP A p <;> cases hasP B p <;> rfl
theorem and_comm' {A B : SetV} (hA : Good A) (hB : Good B) (lA : A.strs.length ≤ 1000) (lB : B.strs.length ≤ 1000) : andV A B = andV B A := by
  have l := (andV_len hA hB).2
  have l2 := (andV_len hB hA).2
  refine good_ext (andV_good hA hB) (andV_good hB hA) (by omega) fun p b0 b1 => ?_
  rw [andV_has hA hB p b0 b1, andV_has hB hA p b0 b1]
  cases hasP A p <;> cases hasP B p <;> rfl
theorem or_assoc' {A B C : SetV} (hA : Good A) (hB : Good B) (hC : Good C) (lA : A.strs.length ≤ 1000) (lB : B.strs.length ≤ 1000) (lC : C.strs.length ≤ 1000) : orV A (orV B C) = orV (orV A B) C := by
  have l := (orV_len hA hB).2
  have l2 := (orV_len hB hC).2
  have l3 := (orV_len hA (orV_good hB hC)).2
  have l4 := (orV_len (orV_good hA hB) hC).2
  refine good_ext (orV_good hA (orV_good hB hC)) (orV_good (orV_good hA hB) hC) (by omega) fun p b0 b1 => ?_
  rw [orV_has hA (orV_good hB hC), orV_has hB hC, orV_has (orV_good hA hB) hC, orV_has hA hB]
  cases hasP A p <;> cases hasP B p <;> cases hasP C p <;> rfl
theorem and_or' {A B C : SetV} (hA : Good A) (hB : Good B) (hC : Good C) (lA : A.strs.length ≤ 1000) (lB : B.strs.length ≤ 1000) (lC : C.strs.length ≤ 1000) : andV A (orV B C) = orV (andV A B) (andV A C) := by
  have l := (andV_len hA hB).2
  have l1 := (andV_len hA hC).2
  have l2 := (orV_len hB hC).2
  have l3 := (andV_len hA (orV_good hB hC)).2
  have l4 := (orV_len (andV_good hA hB) (andV_good hA hC)).2
  refine good_ext (andV_good hA (orV_good hB hC)) (orV_good (andV_good hA hB) (andV_good hA hC)) (by omega) fun p b0 b1 => ?_
  rw [andV_has hA (orV_good hB hC) p b0 b1, orV_has hB hC, orV_has (andV_good hA hB) (andV_good hA hC), andV_has hA hB p b0 b1, andV_has hA hC p b0 b1]
  cases hasP A p <;> cases hasP B p <;> cases hasP C p <;> rfl
end Go.Proofs.Ytoplmioejebnnaa
namespace Go.Proofs.Ytoplmioejebnnaa
open Go.RowKit

theorem ownR_empty (w : World) : OwnR (w.alloc (.cells #[] 54)) w.heap.size (.slice (some ⟨w.heap.size, 0, none⟩) 0 0) [] :=
  ⟨rfl, Or.inr ⟨w.heap.size, 0, #[], rfl, Nat.le_refl _, heap_top _ _, Nat.le_refl _, by unfold maxLen; omega, rfl, rfl⟩⟩
/-- A row of ranges, wherever it lies, put behind one of the call's own. -/
theorem wpList_appRow {ops : Array Oper} {rest : List Oper} {o : Oper} {a : Act} {Q : Exit → Act → World → Prop} (w : World) (hgd : o.guard = none) (s x : Operand)
    (ho : o.op = .call { callee := .builtin .append, args := #[s, x], argTypes := #[22, 22] })
    (B : Nat) (v u : Value) (l m : List Rg) (hs : a.eval s = v) (hown : OwnR w B v l) (hu : a.eval x = u) (hx : RngsAt w u m) (hnil : ∀ n c, u = .slice none n c → u = .slice none 0 0) (hlen : l.length + m.length ≤ 1000000) (hB : B ≤ w.heap.size)
    (h : ∀ v' w', OwnR w' B v' (l ++ m) → Below B w w' → wpList Try.prog ops Q rest (a.put o.dst v') w') : wpList Try.prog ops Q (o :: rest) a w := by
  obtain ⟨i0, hi, hz0, hz1, hz2⟩ := info_parts infoRg
  obtain ⟨_, _, ad, cap, rfl, hel⟩ := hx
  cases ad with
  | none =>
    have hm : m = [] := by
      cases m with
      | nil => rfl
      | cons r m =>
        obtain ⟨b, off, e, _⟩ := hel 0 (by simp)
        cases e
    subst hm
    refine wpList_append_own_none hgd s x 22 ho B 54 i0 2 Try.underlying22 hi v l.length (rgCells l) hs hown (hu.trans (hnil _ _ rfl)) ?_
    refine h v w ?_ (Below.refl _ _)
    rw [List.append_nil]; exact hown
  | some ad =>
    refine wpList_append_own w hgd s x 22 ho B 54 i0 _ 2 16 Try.underlying22 hi hz0 hz1 hz2 rfl (by decide) v l.length (rgCells l) hs hown ad m.length _ (rgCells m) hu (by rw [rgCells_len]) ?_ (rgCells_one _) (by unfold maxLen; omega) (by omega) hB ?_
    · intro j u hj
      have hjl : j < m.length * 2 := by
        have := (List.getElem?_eq_some_iff.1 hj).1
        rwa [rgCells_len] at this
      obtain ⟨b, off, e, _, c0, c1⟩ := hel (j / 2) (by omega)
      obtain ⟨a0, a1⟩ := rgCells_at m (j / 2) (by omega)
      simp at e
      subst e
      rw [Go.WideShapes.add_plain]
      rcases Nat.mod_two_eq_zero_or_one j with hm | hm
      · rw [show off + j = off + j / 2 * 2 by omega, c0, ← a0, ← hj]
        exact congrArg (fun k => (rgCells m)[k]?) (by omega)
      · rw [show off + j = off + j / 2 * 2 + 1 by omega, c1, ← a1, ← hj]
        exact congrArg (fun k => (rgCells m)[k]?) (by omega)
    · intro v' w' h1 h2 _
      refine h v' w' ?_ (OwnR.grownB hown hB h2)
      unfold OwnR
      rw [List.length_append, rgCells_append]
      exact h1
theorem below_alloc' {w w1 : World} {o : Obj} (hb : Below w.heap.size (w.alloc o) w1) : Below w.heap.size w w1 := ((Below.refl _ _).alloc (Nat.le_refl _) o).trans hb
theorem ranges_one {l a b : List Rg} (h1 : RangesOut l a) (h2 : RangesOut l b) : a = b := rightR_ext a b h1.1 h2.1 fun n => by rw [h1.2.2.2, h2.2.2.2]

end Go.Proofs.Ytoplmioejebnnaa
namespace Go.Proofs.Ytoplmioejebnnaa
open Go.RowKit

/-- Two new blocks of a call's, in a later world. -/
structure Two (w0 w : World) (o1 o2 : Obj) : Prop where
  e1 : w.heap[w0.heap.size]? = some o1
  e2 : w.heap[w0.heap.size + 1]? = some o2
  b : Below w0.heap.size w0 w
theorem Two.on {w0 w w' : World} {o1 o2 : Obj} (h : Two w0 w o1 o2) (hb : Below w.heap.size w w') : Two w0 w' o1 o2 :=
  ⟨(hb.block _ (lt_heap h.e1)).trans h.e1, (hb.block _ (lt_heap h.e2)).trans h.e2, h.b.trans (hb.mono h.b.size)⟩
theorem Two.start (w : World) (o1 o2 : Obj) : Two w ((w.alloc o1).alloc o2) o1 o2 := ⟨(two_bx w o1 o2).1, (two_bx w o1 o2).2.1, (two_bx w o1 o2).2.2⟩
theorem Two.al {w0 w : World} {o1 o2 : Obj} (h : Two w0 w o1 o2) (x : Obj) : Two w0 (w.alloc x) o1 o2 := h.on ((Below.refl _ w).alloc (Nat.le_refl _) x)
theorem SetAt.al {w : World} {v : Value} {S : SetV} (h : SetAt w v S) (x : Obj) : SetAt (w.alloc x) v S := h.on ((Below.refl _ w).alloc (Nat.le_refl _) x)
theorem sets_one {w : World} {A : SetV} {vi vs : Value} (hv : SetAt w (.agg #[.bool A.absent, vi, .bool A.co, vs]) A) (n : Nat) (hn : n = w.heap.size) :
    SetsAt (w.alloc (.cells #[.bool A.absent, vi, .bool A.co, vs] 25)) (.slice (some ⟨n, 0, none⟩) 1 1) [A] := by
  subst hn
  obtain ⟨vi', vs', ev', hI, hS⟩ := hv
  simp at ev'
  obtain ⟨rfl, rfl⟩ := ev'
  have hb := (Below.refl _ w).alloc (Nat.le_refl _) (.cells #[.bool A.absent, vi, .bool A.co, vs] 25)
  have hs : w.heap.size < (w.alloc (.cells #[.bool A.absent, vi, .bool A.co, vs] 25)).heap.size := by show _ < (w.heap.push _).size; simp
  refine ⟨by simp, _, 1, rfl, fun i hi => ?_⟩
  have hc := fun j => cell_heap (heap_new w (.cells #[.bool A.absent, vi, .bool A.co, vs] 25)) j
  match i, hi with
  | 0, _ => exact ⟨_, 0, vi, vs, rfl, hs, hc 0, hc 1, hc 2, hc 3, hI.on hb, hS.on hb⟩
theorem few_len {A : SetV} (h : fewB A = true) : A.ints.length ≤ 40 ∧ A.strs.length ≤ 40 := by
  unfold fewB at h
  rw [Bool.and_eq_true, Bool.and_eq_true, decide_eq_true_eq, decide_eq_true_eq] at h
  exact h.1
theorem setCells {w : World} {b : Nat} {x0 x1 x2 x3 : Value} {t : TypeId} (h : w.heap[b]? = some (.cells #[x0, x1, x2, x3] t (0, 0))) : w.cell? ⟨b, 0, none⟩ = some x0 ∧ w.cell? ⟨b, 1, none⟩ = some x1 ∧ w.cell? ⟨b, 2, none⟩ = some x2 ∧ w.cell? ⟨b, 3, none⟩ = some x3 :=
  ⟨cell_heap h 0, cell_heap h 1, cell_heap h 2, cell_heap h 3⟩
theorem valCells {w : World} {b : Nat} {x0 x1 x2 : Value} {t : TypeId} (h : w.heap[b]? = some (.cells #[x0, x1, x2] t (0, 0))) : w.cell? ⟨b, 0, none⟩ = some x0 ∧ w.cell? ⟨b, 1, none⟩ = some x1 ∧ w.cell? ⟨b, 2, none⟩ = some x2 :=
  ⟨cell_heap h 0, cell_heap h 1, cell_heap h 2⟩
theorem ends_cases {A : SetV} (hA : Good A) (k n : Int) (s : ByteArray) (n0 : -9223372036854775808 ≤ n) (n1 : n ≤ 9223372036854775807) :
    (hasB A k n s = true ∧ hasB (notV A) k n s = false ∧ hasB allV k n s = true) ∨ (hasB A k n s = false ∧ hasB (notV A) k n s = true ∧ hasB allV k n s = true) ∨ (hasB A k n s = false ∧ hasB (notV A) k n s = false ∧ hasB allV k n s = false) := by
  have h1 := notV_has hA (k, n, s) n0 n1
  have h2 := allV_has (k, n, s) n0 n1
  have h3 : hasP A (k, n, s) = true → rightB k n s = true := fun h => has_right h
  unfold hasP at h1 h2 h3
  dsimp only at h1 h2 h3
  rw [h1, h2]
  cases hx : hasB A k n s
  · cases rightB k n s <;> simp
  · rw [h3 hx]; simp

end Go.Proofs.Ytoplmioejebnnaa
