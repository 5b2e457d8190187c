import Derived.Test.YtlkcjhcmkaddaaaGreatRows
import Derived.WalkKit
import Derived.WalkSpells
import Derived.WalkLawsBesides
import Derived.WalkSmall
import Derived.Lib.SmallJoins
import Derived.Lib.Bytealg
import Derived.Lib.UnsafeStr
import Derived.Lib.ItoaLen
import Derived.Lib.Slices
import Derived.Laws.IdiomStrings
import Derived.Laws.OwnMore
import Derived.OwnWalk
import Derived.BigCall
import Derived.Deep.RegionHeld3
import Derived.Deep.AppendLies
import Derived.Deep.DrawnRows
import Derived.Lib.AppendIntMem
import Derived.Deep.QuietTactic
import Derived.BigQuiet
import Derived.Lib.QuietBelow
import Derived.ProofKit
import Derived.OpenShut
import Derived.Carry
import Derived.Deep.Slices
import Derived.Laws.AppendOwnNone
import Derived.RangeFuncNested
import Derived.RangeFuncBound
import Derived.RangeFuncCalls
import Derived.RangeFuncLeaves
import Derived.Shelf.Abstract
import Derived.Shelf.RegionOpen
import Derived.OwnWalkIn
import Derived.TacticsInMore
import Derived.LoopNIn
import Derived.LoopIn
import Derived.Lib.MinMax
namespace Go.Proofs.YtlkcjhcmkaddaaaGreat
theorem lz {α : Type _} : (∀ (l : List α) (i : Nat) (a : α), l.toArray.setIfInBounds i a = (l.set i a).toArray) ∧ (∀ (a b : α) (l : List α), (a :: l).set 0 b = b :: l) ∧ (∀ (a b : α) (l : List α) (n : Nat), (a :: l).set (n + 1) b = a :: l.set n b) := ⟨fun _ _ _ => by simp, fun _ _ _ => rfl, fun _ _ _ _ => rfl⟩
theorem lp : (∀ (a : Act) (d : Tmp) (v : Value), a.put (some d) v = { a with tmps := a.tmps.setIfInBounds d v }) ∧ (∀ (a : Act) (v : Value), a.put none v = a) := ⟨fun _ _ _ => rfl, fun _ _ => rfl⟩
end Go.Proofs.YtlkcjhcmkaddaaaGreat
set_option linter.unusedSimpArgs false
set_option linter.unusedVariables false
namespace Go.Proofs.YtlkcjhcmkaddaaaGreat
open Go.RowKit
theorem hide {p : Prop} (h : p) : Hid p := h
theorem unhide {p : Prop} (h : Hid p) : p := h
theorem ret_int {k : IntKind} {a b : Int} (h : a = b) : Ending.returned (.int k a) = .returned (.int k b) := by rw [h]
theorem ret_bool {a b : Bool} (h : a = b) : Ending.returned (.bool a) = .returned (.bool b) := by rw [h]
theorem ret_str {a b : ByteArray} (h : a = b) : Ending.returned (.string a) = .returned (.string b) := by rw [h]
theorem bcell {W w1 : World} (hb : Below W.heap.size W w1) : (∀ b o, b < W.heap.size → w1.cell? ⟨b, o, none⟩ = W.cell? ⟨b, o, none⟩) ∧ (∀ b o, b < W.heap.size → w1.frozen? ⟨b, o, none⟩ = W.frozen? ⟨b, o, none⟩) :=
 ⟨fun b o h => hb.cell (p := ⟨b, o, none⟩) h, fun b o h => hb.frozen (p := ⟨b, o, none⟩) h⟩
theorem heap_top (w : World) (o : Obj) : (w.alloc o).heap[w.heap.size]? = some o := by
 show (w.heap.push o)[w.heap.size]? = some o
 simp
theorem heap_setCell {w : World} {b i : Nat} {cs : Array Value} {t : TypeId} {fz : Nat × Nat} (v : Value) (h : w.heap[b]? = some (.cells cs t fz)) : (w.setCell ⟨b, i, none⟩ v).heap[b]? = some (.cells (cs.setIfInBounds i v) t fz) := by
 simp [World.setCell, Array.getElem?_modify, h]
theorem cell_heap {w : World} {b : Nat} {cs : Array Value} {t : TypeId} {fz : Nat × Nat} (h : w.heap[b]? = some (.cells cs t fz)) (i : Nat) : w.cell? ⟨b, i, none⟩ = cs[i]? := by simp [World.cell?, h]
theorem frozen_heap {w : World} {b : Nat} {cs : Array Value} {t : TypeId} (h : w.heap[b]? = some (.cells cs t (0, 0))) (i : Nat) : w.frozen? ⟨b, i, none⟩ = false := by simp [World.frozen?, h]
theorem lt_heap {w : World} {b : Nat} {o : Obj} (h : w.heap[b]? = some o) : b < w.heap.size := by
 rcases Nat.lt_or_ge b w.heap.size with h' | h'
 ·exact h'
 ·rw [Array.getElem?_eq_none h'] at h;cases h
theorem heap_new (w : World) (o : Obj) : (w.alloc o).heap[w.heap.size]? = some o := by
 show (w.heap.push o)[w.heap.size]? = some o
 simp
theorem heap_at {w : World} {o : Obj} {k : Nat} (h : k = w.heap.size) : (w.alloc o).heap[k]? = some o := by
 rw [h]; exact heap_new w o
theorem below_alloc {w w1 : World} {o : Obj} (hb : Below (w.alloc o).heap.size (w.alloc o) w1) : Below w.heap.size w w1 :=
 ((Below.refl _ _).alloc (Nat.le_refl _) o).trans (hb.mono (by simp))
theorem below_undrew {w w1 : World} (h : Below w.drew.heap.size w.drew w1) : Below w.heap.size w w1 := ⟨h.os, h.tape, h.output, h.size, h.block⟩
theorem mk_append (a b : List UInt8) : (⟨a.toArray⟩ : ByteArray) ++ (⟨b.toArray⟩ : ByteArray) = ⟨(a ++ b).toArray⟩ := by
 have h : ((⟨a.toArray⟩ : ByteArray) ++ (⟨b.toArray⟩ : ByteArray)).data = (a ++ b).toArray := by
  rw [ByteArray.data_append]; simp
 cases e : (⟨a.toArray⟩ : ByteArray) ++ (⟨b.toArray⟩ : ByteArray) with
 | mk d => rw [e] at h; rw [← h]
theorem mixed : Tryz.prog.follows .mixedOrders = true := by kernel_rfl
end Go.Proofs.YtlkcjhcmkaddaaaGreat
namespace Go.Proofs.YtlkcjhcmkaddaaaGreat
abbrev Rg := Int × Int
def memR (l : List Rg) (n : Int) : Prop := ∃ r ∈ l, r.1 ≤ n ∧ n ≤ r.2
theorem memR_nil (n : Int) : ¬ memR [] n := fun ⟨_, h, _⟩ => by simp at h
theorem memR_cons (r : Rg) (l : List Rg) (n : Int) : memR (r :: l) n ↔ (r.1 ≤ n ∧ n ≤ r.2) ∨ memR l n := by
 constructor
 ·rintro ⟨x, hx, h⟩;rcases List.mem_cons.1 hx with rfl | hx
  ·exact Or.inl h
  ·exact Or.inr ⟨x, hx, h⟩
 ·rintro (h | ⟨x, hx, h⟩)
  ·exact ⟨r, by simp, h⟩
  ·exact ⟨x, by simp [hx], h⟩
theorem memR_append (a b : List Rg) (n : Int) : memR (a ++ b) n ↔ memR a n ∨ memR b n := by
 induction a with
 | nil => simp [memR_nil]
 | cons r l ih => rw [List.cons_append, memR_cons, memR_cons, ih, or_assoc]
def rightFrom (b : Int) : List Rg → Prop
 | [] => True
 | r :: l => b < r.1 ∧ r.1 ≤ r.2 ∧ rightFrom (r.2 + 1) l
def rightR : List Rg → Prop
 | [] => True
 | r :: l => r.1 ≤ r.2 ∧ rightFrom (r.2 + 1) l
theorem rightFrom_right {b : Int} {l : List Rg} (h : rightFrom b l) : rightR l := by
 cases l with
 | nil => trivial
 | cons r l => exact ⟨h.2.1, h.2.2⟩
theorem rightFrom_mono {b c : Int} {l : List Rg} (h : rightFrom b l) (hc : c ≤ b) : rightFrom c l := by
 cases l with
 | nil => trivial
 | cons r l => exact ⟨by have := h.1; omega, h.2.1, h.2.2⟩
theorem rightFrom_lt {b : Int} : ∀ {l : List Rg}, rightFrom b l → ∀ n, memR l n → b < n
 | [], _, n, h => absurd h (memR_nil n)
 | r :: l, ⟨h1, h2, h3⟩, n, h => by
  rcases (memR_cons r l n).1 h with h | h
  ·omega
  ·have := rightFrom_lt h3 n h; omega
theorem rightR_from {r : Rg} {l : List Rg} (h : rightR (r :: l)) : rightFrom (r.1 - 1) (r :: l) := ⟨by omega, h.1, h.2⟩
theorem rightFrom_ext : ∀ (a b : List Rg) (c : Int), rightFrom c a → rightFrom c b → (∀ n, memR a n ↔ memR b n) → a = b
 | [], [], _, _, _, _ => rfl
 | [], s :: m, _, _, hb, h => absurd ((h s.1).2 ⟨s, by simp, Int.le_refl _, hb.2.1⟩) (memR_nil _)
 | r :: l, [], _, ha, _, h => absurd ((h r.1).1 ⟨r, by simp, Int.le_refl _, ha.2.1⟩) (memR_nil _)
 | r :: l, s :: m, c, ⟨a1, a2, a3⟩, ⟨b1, b2, b3⟩, h => by
  have hA := fun n => rightFrom_lt a3 n
  have hB := fun n => rightFrom_lt b3 n
  have e1 : r.1 = s.1 := by
   have x := (h r.1).1 ⟨r, by simp, Int.le_refl _, a2⟩;have y := (h s.1).2 ⟨s, by simp, Int.le_refl _, b2⟩;rcases (memR_cons s m _).1 x with x | x <;> rcases (memR_cons r l _).1 y with y | y
   ·omega
   ·have := hA _ y; omega
   ·have := hB _ x; omega
   ·have := hA _ y; have := hB _ x; omega
  have e2 : r.2 = s.2 := by
   rcases Int.lt_trichotomy r.2 s.2 with hlt | hlt | hlt
   ·have y := (h (r.2 + 1)).2 ⟨s, by simp, by omega, by omega⟩;rcases (memR_cons r l _).1 y with y | y
    ·omega
    ·have := hA _ y; omega
   ·exact hlt
   ·have x := (h (s.2 + 1)).1 ⟨r, by simp, by omega, by omega⟩;rcases (memR_cons s m _).1 x with x | x
    ·omega
    ·have := hB _ x; omega
  have e : r = s := Prod.ext e1 e2;subst e;have := rightFrom_ext l m (r.2 + 1) a3 b3 (fun n => by
   constructor
   ·intro hn;have hx := hA n hn;rcases (memR_cons r m n).1 ((h n).1 ((memR_cons r l n).2 (Or.inr hn))) with x | x
    ·omega
    ·exact x
   ·intro hn;have hx := hB n hn;rcases (memR_cons r l n).1 ((h n).2 ((memR_cons r m n).2 (Or.inr hn))) with x | x
    ·omega
    ·exact x)
  rw [this]
theorem rightR_ext (a b : List Rg) (ha : rightR a) (hb : rightR b) (h : ∀ n, memR a n ↔ memR b n) : a = b := by
 cases a with
 | nil =>
  cases b with
  | nil => rfl
  | cons s m => exact absurd ((h s.1).2 ⟨s, by simp, Int.le_refl _, hb.1⟩) (memR_nil _)
 | cons r l =>
  cases b with
  | nil => exact absurd ((h r.1).1 ⟨r, by simp, Int.le_refl _, ha.1⟩) (memR_nil _)
  | cons s m =>
   refine rightFrom_ext _ _ (min (r.1 - 1) (s.1 - 1)) (rightFrom_mono (rightR_from ha) (by omega)) (rightFrom_mono (rightR_from hb) (by omega)) h
def inI64 (l : List Rg) : Prop := ∀ r ∈ l, -9223372036854775808 ≤ r.1 ∧ r.1 ≤ 9223372036854775807 ∧ -9223372036854775808 ≤ r.2 ∧ r.2 ≤ 9223372036854775807
theorem memR_in {l : List Rg} (h : inI64 l) {n : Int} (hn : memR l n) : -9223372036854775808 ≤ n ∧ n ≤ 9223372036854775807 := by
 obtain ⟨r, hr, h1, h2⟩ := hn;have := h r hr;omega
theorem rightR_ext64 (a b : List Rg) (ha : rightR a) (hb : rightR b) (ia : inI64 a) (ib : inI64 b) (h : ∀ n, -9223372036854775808 ≤ n → n ≤ 9223372036854775807 → (memR a n ↔ memR b n)) : a = b :=
 rightR_ext a b ha hb fun n => ⟨fun hn => (h n (memR_in ia hn).1 (memR_in ia hn).2).1 hn, fun hn => (h n (memR_in ib hn).1 (memR_in ib hn).2).2 hn⟩
theorem down_to (b : List Rg) (n lo : Int) (hn : ¬ memR b n) (hlo : lo ≤ n) : ∃ p, lo ≤ p ∧ p ≤ n ∧ (p = lo ∨ ∃ r ∈ b, p = r.2 + 1 ∧ r.2 < n) ∧ ∀ x, p ≤ x → x ≤ n → ¬ memR b x := by
 induction b with
 | nil => exact ⟨lo, by omega, hlo, Or.inl rfl, fun x _ _ => memR_nil x⟩
 | cons r l ih =>
  have h1 : ¬ (r.1 ≤ n ∧ n ≤ r.2) := fun h => hn ((memR_cons r l n).2 (Or.inl h))
  obtain ⟨p, p1, p2, p3, p4⟩ := ih (fun h => hn ((memR_cons r l n).2 (Or.inr h)));by_cases hr : p ≤ r.2 ∧ r.2 < n
  ·refine ⟨r.2 + 1, by omega, by omega, Or.inr ⟨r, by simp, rfl, hr.2⟩, fun x h2 h3 => ?_⟩;rw [memR_cons];rintro (h | h)
   ·omega
   ·exact p4 x (by omega) h3 h
  ·refine ⟨p, p1, p2, ?_, fun x h2 h3 => ?_⟩
   ·rcases p3 with p3 | ⟨s, hs, p3⟩
    ·exact Or.inl p3
    ·exact Or.inr ⟨s, by simp [hs], p3⟩
   ·rw [memR_cons];rintro (h | h)
    ·omega
    ·exact p4 x h2 h3 h
theorem sub_points (a b : List Rg) (h1 : ∀ r ∈ a, r.1 ≤ r.2 → memR b r.1) (h2 : ∀ r ∈ b, ∀ s ∈ a, r.2 < s.2 → memR a (r.2 + 1) → memR b (r.2 + 1)) (n : Int) (hn : memR a n) : memR b n := by
 refine Classical.byContradiction fun hb => ?_
 obtain ⟨r, hr, l1, l2⟩ := hn;obtain ⟨p, p1, p2, p3, p4⟩ := down_to b n r.1 hb l1;rcases p3 with rfl | ⟨s, hs, p3, p5⟩
 ·exact p4 r.1 (by omega) l1 (h1 r hr (by omega))
 ·exact p4 p (by omega) p2 (p3 ▸ h2 s hs r hr (by omega) ⟨r, hr, by omega, by omega⟩)
abbrev St := List UInt8
theorem lessB_irrefl : ∀ a : St, Op.bytesLess a a = false
 | [] => by simp [Op.bytesLess]
 | x :: a => by simp [Op.bytesLess]; exact lessB_irrefl a
theorem lessB_trans : ∀ a b c : St, Op.bytesLess a b = true → Op.bytesLess b c = true → Op.bytesLess a c = true
 | _, _, [], _, h => by cases ‹St› <;> simp [Op.bytesLess] at h
 | [], _, _ :: _, _, _ => by simp [Op.bytesLess]
 | _ :: _, [], _ :: _, h, _ => by simp [Op.bytesLess] at h
 | x :: a, y :: b, z :: c, h, k => by
  simp [Op.bytesLess] at h k ⊢
  rcases h with h | ⟨rfl, h⟩ <;> rcases k with k | ⟨rfl, k⟩
  ·left; rw [UInt8.lt_iff_toNat_lt] at *; omega
  ·exact Or.inl h
  ·exact Or.inl k
  ·exact Or.inr ⟨rfl, lessB_trans a b c h k⟩
theorem lessB_tri : ∀ a b : St, Op.bytesLess a b = true ∨ a = b ∨ Op.bytesLess b a = true
 | [], [] => Or.inr (Or.inl rfl)
 | [], _ :: _ => Or.inl (by simp [Op.bytesLess])
 | _ :: _, [] => Or.inr (Or.inr (by simp [Op.bytesLess]))
 | x :: a, y :: b => by
  simp [Op.bytesLess]
  rcases Nat.lt_trichotomy x.toNat y.toNat with h | h | h
  ·exact Or.inl (Or.inl (UInt8.lt_iff_toNat_lt.2 h))
  ·have e : x = y := UInt8.toNat_inj.1 h;subst e;rcases lessB_tri a b with h | h | h
   ·exact Or.inl (Or.inr ⟨rfl, h⟩)
   ·exact Or.inr (Or.inl ⟨rfl, h⟩)
   ·exact Or.inr (Or.inr (Or.inr ⟨rfl, h⟩))
  ·exact Or.inr (Or.inr (Or.inl (UInt8.lt_iff_toNat_lt.2 h)))
def risesS : List St → Prop
 | [] => True
 | a :: l => (∀ b ∈ l, Op.bytesLess a b = true) ∧ risesS l
theorem risesS_ext : ∀ a b : List St, risesS a → risesS b → (∀ s, s ∈ a ↔ s ∈ b) → a = b
 | [], [], _, _, _ => rfl
 | [], y :: m, _, _, h => by have := (h y).2 (by simp); simp at this
 | x :: l, [], _, _, h => by have := (h x).1 (by simp); simp at this
 | x :: l, y :: m, ⟨a1, a2⟩, ⟨b1, b2⟩, h => by
  have e : x = y := by
   rcases List.mem_cons.1 ((h x).1 (by simp)) with e | hx
   ·exact e
   rcases List.mem_cons.1 ((h y).2 (by simp)) with e | hy
   ·exact e.symm
   have h1 := b1 x hx;have h2 := a1 y hy;have := lessB_trans _ _ _ h1 h2;rw [lessB_irrefl] at this;exact absurd this (by simp)
  subst e;have : l = m := risesS_ext l m a2 b2 (fun s => by
   constructor
   ·intro hs;rcases List.mem_cons.1 ((h s).1 (by simp [hs])) with e | hm
    ·subst e;have := a1 _ hs;rw [lessB_irrefl] at this;exact absurd this (by simp)
    ·exact hm
   ·intro hs;rcases List.mem_cons.1 ((h s).2 (by simp [hs])) with e | hm
    ·subst e;have := b1 _ hs;rw [lessB_irrefl] at this;exact absurd this (by simp)
    ·exact hm)
  rw [this]
def dropS (s : St) : List St → List St
 | [] => []
 | t :: l => if t = s then l else t :: dropS s l
theorem dropS_len (s : St) : ∀ l : List St, s ∈ l → (dropS s l).length + 1 = l.length
 | [], h => by simp at h
 | t :: l, h => by
  unfold dropS;by_cases e : t = s
  ·rw [if_pos e]; simp
  ·rw [if_neg e];rcases List.mem_cons.1 h with h | h
   ·exact absurd h.symm e
   ·have := dropS_len s l h
    simp; omega
theorem dropS_mem (s x : St) (hne : x ≠ s) : ∀ l : List St, x ∈ l → x ∈ dropS s l
 | [], h => h
 | t :: l, h => by
  unfold dropS;by_cases e : t = s
  ·rw [if_pos e];rcases List.mem_cons.1 h with h | h
   ·exact absurd (h.trans e) hne
   ·exact h
  ·rw [if_neg e];rcases List.mem_cons.1 h with h | h
   ·rw [h]; simp
   ·exact List.mem_cons.2 (Or.inr (dropS_mem s x hne l h))
theorem holes (f : Nat → St) (hf : ∀ i j, f i = f j → i = j) : ∀ (n : Nat) (l : List St), (∀ i, i < n → f i ∈ l) → n ≤ l.length
 | 0, l, _ => Nat.zero_le _
 | n + 1, l, h => by
  have h1 := holes f hf n (dropS (f n) l) (fun i hi => dropS_mem _ _ (fun e => by have := hf _ _ e; omega) l (h i (by omega)));have h2 := dropS_len (f n) l (h n (by omega));omega
theorem fresh_out (f : Nat → St) (hf : ∀ i j, f i = f j → i = j) (l : List St) (n : Nat) (hn : l.length < n) : ∃ i, i < n ∧ f i ∉ l := by
 refine Classical.byContradiction fun hno => ?_
 have := holes f hf n l (fun i hi => Classical.byContradiction fun h => hno ⟨i, hi, h⟩);omega
end Go.Proofs.YtlkcjhcmkaddaaaGreat
namespace Go.Proofs.YtlkcjhcmkaddaaaGreat
open Go.RowKit
attribute [local go_sem ↓] Go.wp_at_zero Go.wp_at_succ
def rightB (k n : Int) (s : ByteArray) : Bool :=
 if k = 0 then n == 0 && s.toList.isEmpty else if k = 1 then s.toList.isEmpty else if k = 2 then n == 0 && decide ((s.size : Int) ≤ 8) else false
theorem one_dig (u : Nat) (h : u < 10) : 48 + (u : Int) = ((UInt8.ofNat (48 + u)).toNat : Int) := by
 rw [UInt8.toNat_ofNat']; omega
theorem last_dig (u : Nat) (h : u < 18446744073709551616) : IntKind.u8.wrap (IntKind.u64.wrap (48 + (u : Int).tmod 10)) = ((UInt8.ofNat (48 + u % 10)).toNat : Int) := by
 rw [UInt8.toNat_ofNat', IntKind.wrap_u64, IntKind.wrap_u8, Int.tmod_eq_emod_of_nonneg (by omega)]; omega
theorem dec_short (u : Nat) (h : u < 18446744073709551616) : (Lib.decDigits u).length ≤ 20 := by
 rw [Lib.decDigits_length];by_cases h0 : u = 0
 ·subst h0; rw [Lib.nDigits_small (by omega)]; omega
 ·have := Lib.numDigits_eq u (by omega) h
  split at this <;> omega
end Go.Proofs.YtlkcjhcmkaddaaaGreat
namespace Go.Proofs.YtlkcjhcmkaddaaaGreat
open Go.Deep Go.ChangeShapes Go.WideShapes Go.ChangeAt Go.WideMaps Go.WideElems Go.RowKit Go.Joins
def capOf (a : Option Addr) (n sp : Nat) : Nat := match a with
 | none => 0
 | some _ => n + sp
theorem capOf_of {a : Option Addr} {n c : Nat} (h : n ≤ c) (hn : a = none → c = 0) : ∃ sp, c = capOf a n sp := by
 cases a with
 | none => exact ⟨0, hn rfl⟩
 | some a => exact ⟨c - n, by show c = n + (c - n); omega⟩
theorem capOf_some {a : Option Addr} {n sp : Nat} (h : ∃ b, a = some b) : n ≤ capOf a n sp := by
 obtain ⟨b, rfl⟩ := h;show n ≤ n + sp;omega
def RngsAt (w : World) (v : Value) (l : List Rg) : Prop :=
 inI64 l ∧ l.length ≤ 9223372036854775807 ∧ ∃ (a : Option Addr) (cap : Nat), v = .slice a l.length (capOf a l.length cap) ∧ ∀ i, i < l.length → ∃ (b off : Nat), a = some ⟨b, off, none⟩ ∧ b < w.heap.size ∧
  w.cell? ⟨b, off + i * 2, none⟩ = some (.int .i64 (l.getD i (0, 0)).1) ∧ w.cell? ⟨b, off + i * 2 + 1, none⟩ = some (.int .i64 (l.getD i (0, 0)).2)
def StrsAt (w : World) (v : Value) (l : List ByteArray) : Prop :=
 (∀ s ∈ l, s.size ≤ 9223372036854775807) ∧ l.length ≤ 9223372036854775807 ∧ ∃ (a : Option Addr) (cap : Nat), v = .slice a l.length (capOf a l.length cap) ∧ ∀ i, i < l.length → ∃ (b off : Nat), a = some ⟨b, off, none⟩ ∧ b < w.heap.size ∧
  w.cell? ⟨b, off + i, none⟩ = some (.string (l.getD i ⟨#[]⟩))
structure SetV where
 absent : Bool
 ints : List Rg
 co : Bool
 strs : List ByteArray
def SetAt (w : World) (v : Value) (S : SetV) : Prop := ∃ vi vs, v = .agg #[.bool S.absent, vi, .bool S.co, vs] ∧ RngsAt w vi S.ints ∧ StrsAt w vs S.strs
theorem RngsAt.on {w w' : World} {v : Value} {l : List Rg} (h : RngsAt w v l) (hb : Below w.heap.size w w') : RngsAt w' v l := by
 obtain ⟨h1, h2, a, cap, hv, h⟩ := h;refine ⟨h1, h2, a, cap, hv, fun i hi => ?_⟩;obtain ⟨b, off, ha, hlt, c0, c1⟩ := h i hi;exact ⟨b, off, ha, Nat.lt_of_lt_of_le hlt hb.size, (hb.cell (p := ⟨b, _, none⟩) hlt).trans c0, (hb.cell (p := ⟨b, _, none⟩) hlt).trans c1⟩
theorem StrsAt.on {w w' : World} {v : Value} {l : List ByteArray} (h : StrsAt w v l) (hb : Below w.heap.size w w') : StrsAt w' v l := by
 obtain ⟨h1, h2, a, cap, hv, h⟩ := h;refine ⟨h1, h2, a, cap, hv, fun i hi => ?_⟩;obtain ⟨b, off, ha, hlt, c0⟩ := h i hi;exact ⟨b, off, ha, Nat.lt_of_lt_of_le hlt hb.size, (hb.cell (p := ⟨b, _, none⟩) hlt).trans c0⟩
theorem SetAt.on {w w' : World} {v : Value} {S : SetV} (h : SetAt w v S) (hb : Below w.heap.size w w') : SetAt w' v S := by
 obtain ⟨vi, vs, hv, h1, h2⟩ := h;exact ⟨vi, vs, hv, h1.on hb, h2.on hb⟩
theorem RngsAt.bound {w : World} {v : Value} {l : List Rg} (h : RngsAt w v l) (i : Nat) (hi : i < l.length) : -9223372036854775808 ≤ (l.getD i (0, 0)).1 ∧ (l.getD i (0, 0)).1 ≤ 9223372036854775807 ∧ -9223372036854775808 ≤ (l.getD i (0, 0)).2 ∧ (l.getD i (0, 0)).2 ≤ 9223372036854775807 := by
 refine h.1 _ ?_;rw [List.getD_eq_getElem?_getD, List.getElem?_eq_getElem hi];exact List.getElem_mem _
theorem StrsAt.bound {w : World} {v : Value} {l : List ByteArray} (h : StrsAt w v l) (i : Nat) (hi : i < l.length) : (l.getD i ⟨#[]⟩).size ≤ 9223372036854775807 := by
 refine h.1 _ ?_;rw [List.getD_eq_getElem?_getD, List.getElem?_eq_getElem hi];exact List.getElem_mem _
theorem RngsAt.at {w : World} {a : Option Addr} {n cap : Nat} {l : List Rg} (h : RngsAt w (.slice a n cap) l) : n = l.length ∧ ∀ i, i < l.length → ∃ (b off : Nat), a = some ⟨b, off, none⟩ ∧ b < w.heap.size ∧
  w.cell? ⟨b, off + i * 2, none⟩ = some (.int .i64 (l.getD i (0, 0)).1) ∧ w.cell? ⟨b, off + i * 2 + 1, none⟩ = some (.int .i64 (l.getD i (0, 0)).2) := by
 obtain ⟨h1, h2, a', cap', hv, h⟩ := h
 injection hv with e1 e2 e3
 subst e1 e2;exact ⟨rfl, h⟩
theorem StrsAt.at {w : World} {a : Option Addr} {n cap : Nat} {l : List ByteArray} (h : StrsAt w (.slice a n cap) l) : n = l.length ∧ ∀ i, i < l.length → ∃ (b off : Nat), a = some ⟨b, off, none⟩ ∧ b < w.heap.size ∧
  w.cell? ⟨b, off + i, none⟩ = some (.string (l.getD i ⟨#[]⟩)) := by
 obtain ⟨h1, h2, a', cap', hv, h⟩ := h
 injection hv with e1 e2 e3
 subst e1 e2;exact ⟨rfl, h⟩
theorem RngsAt.form {w : World} {v : Value} {l : List Rg} (h : RngsAt w v l) : ∃ a cap, v = .slice a l.length cap := by
 obtain ⟨_, _, a, cap, hv, _⟩ := h;exact ⟨a, _, hv⟩
theorem RngsAt.room {w : World} {a : Option Addr} {n cap : Nat} {l : List Rg} (h : RngsAt w (.slice a n cap) l) : n ≤ cap ∧ (a = none → n = 0 ∧ cap = 0) := by
 obtain ⟨_, _, a', sp, hv, he⟩ := h
 injection hv with e1 e2 e3
 subst e1 e2 e3;cases a with
 | none =>
  have h0 : l.length = 0 := Classical.byContradiction fun hne => by
   obtain ⟨b, off, e, _⟩ := he 0 (by omega);cases e
  exact ⟨by rw [h0]; exact Nat.zero_le _, fun _ => ⟨h0, rfl⟩⟩
 | some a => exact ⟨capOf_some ⟨a, rfl⟩, fun e => by cases e⟩
theorem StrsAt.form {w : World} {v : Value} {l : List ByteArray} (h : StrsAt w v l) : ∃ a cap, v = .slice a l.length cap := by
 obtain ⟨_, _, a, cap, hv, _⟩ := h;exact ⟨a, _, hv⟩
theorem StrsAt.room {w : World} {a : Option Addr} {n cap : Nat} {l : List ByteArray} (h : StrsAt w (.slice a n cap) l) : n ≤ cap ∧ (a = none → n = 0 ∧ cap = 0) := by
 obtain ⟨_, _, a', sp, hv, he⟩ := h
 injection hv with e1 e2 e3
 subst e1 e2 e3;cases a with
 | none =>
  have h0 : l.length = 0 := Classical.byContradiction fun hne => by
   obtain ⟨b, off, e, _⟩ := he 0 (by omega);cases e
  exact ⟨by rw [h0]; exact Nat.zero_le _, fun _ => ⟨h0, rfl⟩⟩
 | some a => exact ⟨capOf_some ⟨a, rfl⟩, fun e => by cases e⟩
theorem lt_cell {w : World} {a : Addr} {v : Value} (h : w.cell? a = some v) : a.block < w.heap.size := by
 rcases Nat.lt_or_ge a.block w.heap.size with h' | h'
 ·exact h'
 ·exfalso
  simp [World.cell?, Array.getElem?_eq_none h'] at h
theorem cellsRg : Tryz.prog.cellsOf 58 = 2 := by kernel_rfl
theorem cellsI : Tryz.prog.cellsOf 3 = 1 := by kernel_rfl
theorem cellsB : Tryz.prog.cellsOf 4 = 1 := by kernel_rfl
theorem cellsS : Tryz.prog.cellsOf 9 = 1 := by kernel_rfl
theorem cellsRs : Tryz.prog.cellsOf 22 = 1 := by kernel_rfl
theorem cellsSs : Tryz.prog.cellsOf 23 = 1 := by kernel_rfl
theorem cellsSet : Tryz.prog.cellsOf 25 = 4 := by kernel_rfl
theorem getD_map_range {α : Type} (n i : Nat) (f : Nat → α) (d : α) (h : i < n) : ((List.range n).map f).getD i d = f i := by
 simp [List.getD_eq_getElem?_getD, h]
section
variable {H : Type} {enc : TypeId × Value → H} {W : World}
set_option maxRecDepth 100000 in
theorem open_rngs {fuel : Nat} {v : Value} {x : DataW H × List MemPlace} (hf : DataW.trod enc Tryz.prog W 0 (fun _ => true) true fuel 22 [v] = some x) : ∃ l, RngsAt W v l := by
 rcases Go.Deep.open_slice Tryz.underlying22 hf with ⟨h0, _⟩ | ⟨a, len, cap, m, n, D, Pl, h0, hb, hl, hm, hmm, _, hx⟩
 ·simp at h0
  subst h0;exact ⟨[], fun _ h => by simp at h, by simp, none, 0, rfl, fun i hi => by simp at hi⟩
 ·simp at h0
  subst h0
  simp at hmm
  subst hmm;have hspot : 0 < len → a.spot = none := fun hpos => by
   obtain ⟨cs0, z1, _⟩ := hx 0 (by omega);rw [cellsRg] at z1;obtain ⟨_, zl, zc⟩ := World.cells?_some z1;have z0 := zc 0 (by omega);rw [List.getElem?_eq_getElem (by omega)] at z0
   simpa [Addr.add] using World.cell?_spot z0
  have hall : ∀ i, i < len → ∃ r : Rg, (-9223372036854775808 ≤ r.1 ∧ r.1 ≤ 9223372036854775807 ∧ -9223372036854775808 ≤ r.2 ∧ r.2 ≤ 9223372036854775807) ∧ W.cell? ⟨a.block, a.off + i * 2, none⟩ = some (.int .i64 r.1) ∧ W.cell? ⟨a.block, a.off + i * 2 + 1, none⟩ = some (.int .i64 r.2) := fun i hi => by
   obtain ⟨cs', h1, h2⟩ := hx i (by omega);rw [cellsRg] at h1;obtain ⟨_, hlen, hc⟩ := World.cells?_some h1
   match cs', hlen with
   | [c0, c1], _ =>
    obtain ⟨y0, y1, m', _, _, g0, g1⟩ := trod_struct2 Tryz.underlying58 h2;simp only [cellsI] at g0 g1;obtain ⟨k, e0, _, wk⟩ := DataW.trod_int Tryz.underlying3 g0;obtain ⟨l, e1, _, wl⟩ := DataW.trod_int Tryz.underlying3 g1
    simp at e0 e1
    subst e0 e1;have q0 := hc 0 (by omega);have q1 := hc 1 (by omega);obtain ⟨bk, off, spot⟩ := a;have hs : spot = none := hspot (by omega);subst hs;have f0 : ((Addr.mk bk off none).add (i * 2)).add 0 = ⟨bk, off + i * 2, none⟩ := by rw [Go.Deep.add_add, Go.WideShapes.add_plain]; rfl
    have f1 : ((Addr.mk bk off none).add (i * 2)).add 1 = ⟨bk, off + i * 2 + 1, none⟩ := by rw [Go.Deep.add_add, Go.WideShapes.add_plain]; rfl
    rw [f0] at q0;rw [f1] at q1;obtain ⟨k0, k1⟩ := bounds_i64 wk;obtain ⟨l0, l1⟩ := bounds_i64 wl;exact ⟨(k, l), ⟨k0, k1, l0, l1⟩, q0, q1⟩
  obtain ⟨f, hf'⟩ := choose_lt hall;refine ⟨(List.range len).map f, ?_, by simp; unfold maxLen at hm; omega, some a, m - len, by simp [capOf]; omega, fun i hi => ?_⟩
  ·intro r hr;obtain ⟨i, hi, rfl⟩ := List.mem_map.1 hr;exact (hf' i (List.mem_range.1 hi)).1
  ·simp at hi
   rw [getD_map_range len i f _ hi];obtain ⟨_, q0, q1⟩ := hf' i hi;exact ⟨a.block, a.off, by rw [← hspot (by omega)], lt_cell (a := ⟨a.block, _, none⟩) q0, q0, q1⟩
set_option maxRecDepth 100000 in
theorem open_strs {fuel : Nat} {v : Value} {x : DataW H × List MemPlace} (hf : DataW.trod enc Tryz.prog W 0 (fun _ => true) true fuel 23 [v] = some x) : ∃ l, StrsAt W v l := by
 rcases Go.Deep.open_slice1 Tryz.underlying23 cellsS hf with ⟨h0, _⟩ | ⟨a, len, cap, m, n, V, D, Pl, h0, hb, hl, hm, hmm, _, hx⟩
 ·simp at h0
  subst h0;exact ⟨[], fun _ h => by simp at h, by simp, none, 0, rfl, fun i hi => by simp at hi⟩
 ·simp at h0
  subst h0
  simp at hmm
  subst hmm;have hspot : 0 < len → a.spot = none := fun hpos => by
   have := (hx 0 (by omega)).1
   simpa [Addr.add] using World.cell?_spot this
  have hall : ∀ i, i < len → ∃ s : ByteArray, s.size ≤ 9223372036854775807 ∧ W.cell? ⟨a.block, a.off + i, none⟩ = some (.string s) := fun i hi => by
   obtain ⟨h1, h2⟩ := hx i (by omega);obtain ⟨s, e, _, ws⟩ := DataW.trod_string Tryz.underlying9 h2
   simp at e
   rw [e] at h1;refine ⟨s, by unfold maxLen at ws; omega, ?_⟩;obtain ⟨bk, off, spot⟩ := a;have hs : spot = none := hspot (by omega);subst hs;rw [Go.WideShapes.add_plain] at h1;exact h1
  have : Inhabited ByteArray := ⟨⟨#[]⟩⟩
  obtain ⟨f, hf'⟩ := choose_lt hall;refine ⟨(List.range len).map f, ?_, by simp; unfold maxLen at hm; omega, some a, m - len, by simp [capOf]; omega, fun i hi => ?_⟩
  ·intro r hr;obtain ⟨i, hi, rfl⟩ := List.mem_map.1 hr;exact (hf' i (List.mem_range.1 hi)).1
  ·simp at hi
   rw [getD_map_range len i f _ hi];obtain ⟨_, q0⟩ := hf' i hi;exact ⟨a.block, a.off, by rw [← hspot (by omega)], lt_cell (a := ⟨a.block, _, none⟩) q0, q0⟩
theorem trod_struct4 {P : Program} {w : World} {base : Nat} {spare : Nat → Bool} {held : Bool} {t : TypeId} {f0 f1 f2 f3 : Field} {fuel : Nat} {cs : List Value} {x : DataW H × List MemPlace} (ht : P.underlying t = some (.struct #[f0, f1, f2, f3])) (h : DataW.trod enc P w base spare held fuel t cs = some x) :
  ∃ y0 y1 y2 y3 n, DataW.trod enc P w base spare held n f0.type ((cs.drop f0.offset).take (P.cellsOf f0.type)) = some y0 ∧ DataW.trod enc P w base spare held n f1.type ((cs.drop f1.offset).take (P.cellsOf f1.type)) = some y1 ∧
   DataW.trod enc P w base spare held n f2.type ((cs.drop f2.offset).take (P.cellsOf f2.type)) = some y2 ∧ DataW.trod enc P w base spare held n f3.type ((cs.drop f3.offset).take (P.cellsOf f3.type)) = some y3 := by
 obtain ⟨xs, n, _, rfl, hl, hlen, hf⟩ := DataW.trod_struct ht h
 match xs, hlen with
 | [y0, y1, y2, y3], _ => exact ⟨y0, y1, y2, y3, n, by simpa using hf 0 f0 rfl, by simpa using hf 1 f1 rfl, by simpa using hf 2 f2 rfl, by simpa using hf 3 f3 rfl⟩
set_option maxRecDepth 100000 in
theorem open_setc {fuel : Nat} {c0 c1 c2 c3 : Value} {x : DataW H × List MemPlace} (hf : DataW.trod enc Tryz.prog W 0 (fun _ => true) true fuel 25 [c0, c1, c2, c3] = some x) : ∃ S, SetAt W (.agg #[c0, c1, c2, c3]) S := by
 obtain ⟨y0, y1, y2, y3, n, g0, g1, g2, g3⟩ := trod_struct4 Tryz.underlying25 hf;simp only [cellsB, cellsRs, cellsSs] at g0 g1 g2 g3;obtain ⟨b0, e0, _⟩ := DataW.trod_bool Tryz.underlying4 g0;obtain ⟨l, hl⟩ := open_rngs g1;obtain ⟨b2, e2, _⟩ := DataW.trod_bool Tryz.underlying4 g2;obtain ⟨m, hm⟩ := open_strs g3
 simp at e0 e2
 subst e0 e2;exact ⟨⟨b0, l, b2, m⟩, c1, c3, rfl, hl, hm⟩
end
end Go.Proofs.YtlkcjhcmkaddaaaGreat
namespace Go.Proofs.YtlkcjhcmkaddaaaGreat
open Go.RowKit
theorem drop_getD {α : Type} (l : List α) (k : Nat) (d : α) (h : k < l.length) : l.drop k = l.getD k d :: l.drop (k + 1) := by
 rw [List.drop_eq_getElem_cons h, List.getD_eq_getElem?_getD, List.getElem?_eq_getElem h]; rfl
def inIntsB (l : List Rg) (n : Int) : Bool := l.any fun r => decide (r.1 ≤ n) && decide (n ≤ r.2)
def inStrsB (l : List ByteArray) (s : ByteArray) : Bool := l.any fun t => t.toList == s.toList
def hasB (S : SetV) (k n : Int) (s : ByteArray) : Bool := rightB k n s && (if k = 0 then S.absent else if k = 1 then inIntsB S.ints n else (inStrsB S.strs s != S.co))
theorem two_new {w w1 : World} {o1 o2 : Obj} (h : Below ((w.alloc o1).alloc o2).heap.size ((w.alloc o1).alloc o2) w1) : w1.heap[w.heap.size]? = some o1 ∧ w1.heap[w.heap.size + 1]? = some o2 ∧ Below w.heap.size w w1 := by
 have s1 : (w.alloc o1).heap.size = w.heap.size + 1 := by show (w.heap.push _).size = _; simp
 have s2 : ((w.alloc o1).alloc o2).heap.size = w.heap.size + 2 := by show ((w.alloc o1).heap.push _).size = _; rw [Array.size_push, s1]
 refine ⟨?_, ?_, below_alloc (below_alloc h)⟩
 ·rw [h.block _ (by omega)];show ((w.heap.push o1).push o2)[w.heap.size]? = _;rw [Array.getElem?_push, if_neg (by simp), Array.getElem?_push, if_pos rfl]
 ·rw [h.block _ (by omega)];show ((w.heap.push o1).push o2)[w.heap.size + 1]? = _;rw [Array.getElem?_push, if_pos (by simp)]
end Go.Proofs.YtlkcjhcmkaddaaaGreat
namespace Go.Proofs.YtlkcjhcmkaddaaaGreat
open Go.RowKit
def rgB : Option Int → List Rg → Bool
 | _, [] => true
 | none, r :: l => decide (r.1 ≤ r.2) && rgB (some r.2) l
 | some h, r :: l => decide (r.1 ≤ r.2) && (decide (h + 1 < r.1) && rgB (some r.2) l)
def stB : Option ByteArray → List ByteArray → Bool
 | _, [] => true
 | none, s :: l => decide (s.size ≤ 8) && stB (some s) l
 | some p, s :: l => decide (s.size ≤ 8) && (Op.bytesLess p.toList s.toList && stB (some s) l)
def rightSet (S : SetV) : Bool := rgB none S.ints && stB none S.strs
def prevR (l : List Rg) (k : Nat) : Option Int := if k = 0 then none else some (l.getD (k - 1) (0, 0)).2
def prevS (l : List ByteArray) (k : Nat) : Option ByteArray := if k = 0 then none else some (l.getD (k - 1) ⟨#[]⟩)
theorem below_drewN {w w1 : World} (h : Below w.heap.size w w1) (n : Nat) : Below w.heap.size w (w1.drewN n) := ⟨h.os, h.tape, h.output, h.size, h.block⟩
end Go.Proofs.YtlkcjhcmkaddaaaGreat
namespace Go.Proofs.YtlkcjhcmkaddaaaGreat
open Go.RowKit
def rngEqB : List Rg → List Rg → Bool
 | [], [] => true
 | r :: l, s :: m => ((r.1 == s.1) && (r.2 == s.2)) && rngEqB l m
 | _, _ => false
def strEqB : List ByteArray → List ByteArray → Bool
 | [], [] => true
 | r :: l, s :: m => (r.toList == s.toList) && strEqB l m
 | _, _ => false
theorem rngEqB_iff : ∀ a b : List Rg, rngEqB a b = true ↔ a = b
 | [], [] => by simp [rngEqB]
 | [], _ :: _ => by simp [rngEqB]
 | _ :: _, [] => by simp [rngEqB]
 | r :: l, s :: m => by
  simp only [rngEqB, Bool.and_eq_true, beq_iff_eq, rngEqB_iff l m, List.cons.injEq]
  constructor
  ·rintro ⟨⟨h1, h2⟩, h3⟩; exact ⟨Prod.ext h1 h2, h3⟩
  ·rintro ⟨rfl, h⟩; exact ⟨⟨rfl, rfl⟩, h⟩
theorem bytes_eq {a b : ByteArray} : (a.toList == b.toList) = true ↔ a = b := by
 rw [beq_iff_eq, ByteArray.toList_eq, ByteArray.toList_eq]
 constructor
 ·intro h; apply ByteArray.ext; exact Array.toList_inj.1 h
 ·rintro rfl; rfl
theorem strEqB_iff : ∀ a b : List ByteArray, strEqB a b = true ↔ a = b
 | [], [] => by simp [strEqB]
 | [], _ :: _ => by simp [strEqB]
 | _ :: _, [] => by simp [strEqB]
 | r :: l, s :: m => by simp only [strEqB, Bool.and_eq_true, bytes_eq, strEqB_iff l m, List.cons.injEq]
theorem rngEqB_len : ∀ a b : List Rg, a.length ≠ b.length → rngEqB a b = false := fun a b h => by
 cases e : rngEqB a b
 ·rfl
 ·exact absurd (congrArg List.length ((rngEqB_iff a b).1 e)) h
theorem strEqB_len : ∀ a b : List ByteArray, a.length ≠ b.length → strEqB a b = false := fun a b h => by
 cases e : strEqB a b
 ·rfl
 ·exact absurd (congrArg List.length ((strEqB_iff a b).1 e)) h
def sameB (A B : SetV) : Bool := ((A.absent == B.absent) && (A.co == B.co)) && (rngEqB A.ints B.ints && strEqB A.strs B.strs)
theorem sameB_iff (A B : SetV) : sameB A B = true ↔ A = B := by
 obtain ⟨a1, a2, a3, a4⟩ := A;obtain ⟨b1, b2, b3, b4⟩ := B;simp only [sameB, Bool.and_eq_true, beq_iff_eq, rngEqB_iff, strEqB_iff, SetV.mk.injEq]
 constructor
 ·rintro ⟨⟨h1, h2⟩, h3, h4⟩; exact ⟨h1, h3, h2, h4⟩
 ·rintro ⟨h1, h2, h3, h4⟩; exact ⟨⟨h1, h3⟩, h2, h4⟩
theorem two_boxes (w : World) (o1 o2 : Obj) : ((w.alloc o1).alloc o2).heap[w.heap.size]? = some o1 ∧ ((w.alloc o1).alloc o2).heap[w.heap.size + 1]? = some o2 ∧ Below w.heap.size w ((w.alloc o1).alloc o2) := two_new (Below.refl _ _)
end Go.Proofs.YtlkcjhcmkaddaaaGreat
namespace Go.Proofs.YtlkcjhcmkaddaaaGreat
open Go.RowKit
def noSet : SetV := ⟨false, [], false, []⟩
def SetsAt (w : World) (v : Value) (l : List SetV) : Prop :=
 l.length ≤ 9223372036854775807 ∧ ∃ (a : Option Addr) (cap : Nat), v = .slice a l.length cap ∧ ∀ i, i < l.length → ∃ (b off : Nat) (vi vs : Value), a = some ⟨b, off, none⟩ ∧ b < w.heap.size ∧
  w.cell? ⟨b, off + i * 4, none⟩ = some (.bool (l.getD i noSet).absent) ∧ w.cell? ⟨b, off + i * 4 + 1, none⟩ = some vi ∧ w.cell? ⟨b, off + i * 4 + 2, none⟩ = some (.bool (l.getD i noSet).co) ∧ w.cell? ⟨b, off + i * 4 + 3, none⟩ = some vs ∧
  RngsAt w vi (l.getD i noSet).ints ∧ StrsAt w vs (l.getD i noSet).strs
theorem SetsAt.on {w w' : World} {v : Value} {l : List SetV} (h : SetsAt w v l) (hb : Below w.heap.size w w') : SetsAt w' v l := by
 obtain ⟨h2, a, cap, hv, h⟩ := h;refine ⟨h2, a, cap, hv, fun i hi => ?_⟩;obtain ⟨b, off, vi, vs, ha, hlt, c0, c1, c2, c3, h1, h2⟩ := h i hi;exact ⟨b, off, vi, vs, ha, Nat.lt_of_lt_of_le hlt hb.size, (hb.cell (p := ⟨b, _, none⟩) hlt).trans c0, (hb.cell (p := ⟨b, _, none⟩) hlt).trans c1, (hb.cell (p := ⟨b, _, none⟩) hlt).trans c2, (hb.cell (p := ⟨b, _, none⟩) hlt).trans c3, h1.on hb, h2.on hb⟩
theorem SetsAt.at {w : World} {a : Option Addr} {n cap : Nat} {l : List SetV} (h : SetsAt w (.slice a n cap) l) : n = l.length ∧ ∀ i, i < l.length → ∃ (b off : Nat) (vi vs : Value), a = some ⟨b, off, none⟩ ∧ b < w.heap.size ∧
  w.cell? ⟨b, off + i * 4, none⟩ = some (.bool (l.getD i noSet).absent) ∧ w.cell? ⟨b, off + i * 4 + 1, none⟩ = some vi ∧ w.cell? ⟨b, off + i * 4 + 2, none⟩ = some (.bool (l.getD i noSet).co) ∧ w.cell? ⟨b, off + i * 4 + 3, none⟩ = some vs ∧
  RngsAt w vi (l.getD i noSet).ints ∧ StrsAt w vs (l.getD i noSet).strs := by
 obtain ⟨h2, a', cap', hv, h⟩ := h
 injection hv with e1 e2 e3
 subst e1 e2;exact ⟨rfl, h⟩
def fewB (S : SetV) : Bool := (decide (S.ints.length ≤ 40) && decide (S.strs.length ≤ 40)) && S.strs.all fun s => decide (s.size ≤ 100)
end Go.Proofs.YtlkcjhcmkaddaaaGreat
namespace Go.Proofs.YtlkcjhcmkaddaaaGreat
open Go.RowKit
def namedB (l : List SetV) (t : ByteArray) : Bool := l.any fun S => inStrsB S.strs t
def tryS (s : ByteArray) (n : Nat) : ByteArray := s ++ ⟨(Lib.itoa (n : Int)).toArray⟩
theorem itoa_short (n : Nat) (h : n ≤ 100000) : (⟨(Lib.itoa (n : Int)).toArray⟩ : ByteArray).size ≤ 20 := by
 rw [Lib.itoa_nonneg];have := dec_short n (by omega)
 simpa [ByteArray.size] using this
def FreshOut (l : List SetV) (s t : ByteArray) : Prop :=
 (∃ j : Nat, j < 100000 ∧ t = tryS s j ∧ namedB l t = false) ∨ (t = s ∧ ∀ j : Nat, j < 100000 → namedB l (tryS s j) = true)
end Go.Proofs.YtlkcjhcmkaddaaaGreat
namespace Go.Proofs.YtlkcjhcmkaddaaaGreat
open Go.RowKit
abbrev Va := Int × Int × ByteArray
def vaCells (l : List Va) : List Value := l.flatMap fun v => [.int .i64 v.1, .int .i64 v.2.1, .string v.2.2]
theorem vaCells_append (a b : List Va) : vaCells (a ++ b) = vaCells a ++ vaCells b := by unfold vaCells; rw [List.flatMap_append]
theorem vaCells_len : ∀ l : List Va, (vaCells l).length = l.length * 3
 | [] => rfl
 | v :: l => by
  have := vaCells_len l;unfold vaCells at *;rw [List.flatMap_cons, List.length_append, this]
  simp; omega
theorem vaCells_one (l : List Va) : ∀ u ∈ vaCells l, u.oneCell' = true := by
 intro u hu;unfold vaCells at hu;obtain ⟨v, _, hv⟩ := List.mem_flatMap.1 hu
 simp at hv
 rcases hv with rfl | rfl | rfl <;> rfl
theorem infoVal : (Tryz.prog.info? 44).map (fun i => (i.zero, i.size, i.bytes)) = some (some (.agg #[.int .i64 0, .int .i64 0, .string ⟨#[]⟩]), 3, 32) := by kernel_rfl
def OwnV (w : World) (B : Nat) (v : Value) (l : List Va) : Prop := w.ownsRow B 44 3 v l.length (vaCells l)
theorem OwnV.alloc {w : World} {B : Nat} {v : Value} {l : List Va} (h : OwnV w B v l) (o : Obj) : OwnV (w.alloc o) B v l := World.ownsRow.alloc h o
theorem OwnV.grownB {w w' : World} {B : Nat} {v : Value} {l : List Va} (h : OwnV w B v l) (hB : B ≤ w.heap.size) (hg : w.grownBy w' v.ownBlock) : Below B w w' :=
 (Below.refl _ _).grown hg hB (fun k hk => (World.ownsRow.lt h k hk).1)
theorem OwnV.on {w w' : World} {B : Nat} {v : Value} {l : List Va} (h : OwnV w B v l) (hb : Below w.heap.size w w') : OwnV w' B v l :=
 World.ownsRow.kept (row := none) h ⟨hb.os, hb.tape, hb.output, hb.size, fun k hk _ => hb.block k hk⟩ (by cases v.ownBlock <;> simp)
theorem ownV_new (w : World) (cs : Array Value) (l : List Va) (h : cs.toList = vaCells l) (hl : l.length ≤ 1000) : OwnV (w.alloc (.cells cs 44)) w.heap.size (.slice (some ⟨w.heap.size, 0, none⟩) l.length l.length) l := by
 have hs : cs.size = l.length * 3 := by rw [← Array.length_toList, h, vaCells_len]
 refine ⟨vaCells_len l, Or.inr ⟨w.heap.size, l.length, cs, rfl, Nat.le_refl _, heap_top _ _, Nat.le_refl _, by unfold maxLen; omega, hs, ?_⟩⟩;rw [h, List.take_of_length_le (by rw [vaCells_len]; omega)]
structure InR (w0 w : World) (R : Nat) (r : Rg) (o : Value) (l : List Va) : Prop where
 own : OwnV w w0.heap.size o l
 ne : o.ownBlock ≠ some R
 rb : w.heap[R]? = some (.cells #[.int .i64 r.1, .int .i64 r.2] 58 (0, 0))
 below : Below w0.heap.size w0 w
theorem InR.alloc {w0 w : World} {R : Nat} {r : Rg} {o : Value} {l : List Va} (h : InR w0 w R r o l) (x : Obj) : InR w0 (w.alloc x) R r o l :=
 ⟨h.own.alloc x, h.ne, (((Below.refl _ w).alloc (Nat.le_refl _) x).block R (lt_heap h.rb)).trans h.rb, h.below.alloc h.below.size x⟩
theorem InR.cells {w0 w : World} {R : Nat} {r : Rg} {o : Value} {l : List Va} (h : InR w0 w R r o l) : w.cell? ⟨R, 0, none⟩ = some (.int .i64 r.1) ∧ w.cell? ⟨R, 1, none⟩ = some (.int .i64 r.2) := ⟨cell_heap h.rb 0, cell_heap h.rb 1⟩
theorem InR.start {w0 w : World} {r : Rg} {o : Value} {l : List Va} (h : OwnV w w0.heap.size o l) (hb : Below w0.heap.size w0 w) : InR w0 (w.alloc (.cells #[.int .i64 r.1, .int .i64 r.2] 58)) w.heap.size r o l :=
 ⟨h.alloc _, fun e => by have := (World.ownsRow.lt h _ e).2; omega, heap_top _ _, hb.alloc hb.size _⟩
theorem two_at (w : World) (o1 o2 : Obj) : ((w.alloc o1).alloc o2).heap[w.heap.size + 1]? = some o2 := (two_new (Below.refl _ _)).2.1
def noS : ByteArray := ⟨#[]⟩
def ptsR (r : Rg) : List Va := ([(1, r.1, noS), (1, r.2, noS)] ++ if -9223372036854775808 < r.1 then [(1, r.1 - 1, noS)] else []) ++ if r.2 < 9223372036854775807 then [(1, r.2 + 1, noS)] else []
def ptsS (S : SetV) : List Va := S.ints.flatMap ptsR ++ S.strs.map fun s => (2, 0, s)
def pts0 : List Va := [(0, 0, noS), (1, -9223372036854775808, noS), (1, 9223372036854775807, noS), (1, 0, noS)]
def ptsL (l : List SetV) : List Va := pts0 ++ l.flatMap ptsS
theorem ptsR_len (r : Rg) : (ptsR r).length ≤ 4 := by
 unfold ptsR
 split <;> split <;> simp
theorem flat_len {α β : Type} (f : α → List β) (c : Nat) : ∀ l : List α, (∀ x ∈ l, (f x).length ≤ c) → (l.flatMap f).length ≤ l.length * c
 | [], _ => by simp
 | x :: l, h => by
  rw [List.flatMap_cons, List.length_append, List.length_cons, Nat.succ_mul];have := flat_len f c l (fun y hy => h y (by simp [hy]));have := h x (by simp);omega
theorem take_flat {α β : Type} (f : α → List β) (l : List α) (k : Nat) (d : α) (h : k < l.length) : (l.take (k + 1)).flatMap f = (l.take k).flatMap f ++ f (l.getD k d) := by
 rw [List.take_succ_eq_append_getElem h, List.flatMap_append, List.getD_eq_getElem?_getD, List.getElem?_eq_getElem h]
 simp
theorem take_map {α β : Type} (f : α → β) (l : List α) (k : Nat) (d : α) (h : k < l.length) : (l.take (k + 1)).map f = (l.take k).map f ++ [f (l.getD k d)] := by
 rw [List.take_succ_eq_append_getElem h, List.map_append, List.getD_eq_getElem?_getD, List.getElem?_eq_getElem h]
 simp
end Go.Proofs.YtlkcjhcmkaddaaaGreat
namespace Go.Proofs.YtlkcjhcmkaddaaaGreat
open Go.RowKit
theorem two_bx (w : World) (o1 o2 : Obj) : ((w.alloc o1).alloc o2).heap[w.heap.size]? = some o1 ∧ ((w.alloc o1).alloc o2).heap[w.heap.size + 1]? = some o2 ∧ Below w.heap.size w ((w.alloc o1).alloc o2) := two_new (Below.refl _ _)
def noVa : Va := (0, 0, noS)
theorem OwnV.form {w : World} {B : Nat} {v : Value} {l : List Va} (h : OwnV w B v l) (hne : 0 < l.length) : ∃ g cap, v = .slice (some ⟨g, 0, none⟩) l.length cap ∧ B ≤ g ∧ g < w.heap.size := by
 rcases h.2 with ⟨_, h⟩ | ⟨g, cap, cur, h1, h2, h3, _⟩
 ·omega
 ·exact ⟨g, cap, h1, h2, lt_heap h3⟩
theorem vaCells_at : ∀ (l : List Va) (i : Nat), i < l.length → (vaCells l)[i * 3]? = some (.int .i64 (l.getD i noVa).1) ∧ (vaCells l)[i * 3 + 1]? = some (.int .i64 (l.getD i noVa).2.1) ∧ (vaCells l)[i * 3 + 2]? = some (.string (l.getD i noVa).2.2)
 | [], i, h => by simp at h
 | v :: l, 0, _ => by simp [vaCells]
 | v :: l, i + 1, h => by
  have ih := vaCells_at l i (by simpa using h);have e : vaCells (v :: l) = [.int .i64 v.1, .int .i64 v.2.1, .string v.2.2] ++ vaCells l := rfl;rw [e];refine ⟨?_, ?_, ?_⟩
  ·rw [List.getElem?_append_right (by simp; omega)]
   simpa [show (i + 1) * 3 - 3 = i * 3 by omega] using ih.1
  ·rw [List.getElem?_append_right (by simp; omega)]
   simpa [show (i + 1) * 3 + 1 - 3 = i * 3 + 1 by omega] using ih.2.1
  ·rw [List.getElem?_append_right (by simp; omega)]
   simpa [show (i + 1) * 3 + 2 - 3 = i * 3 + 2 by omega] using ih.2.2
theorem OwnV.at {w : World} {B g n cap : Nat} {l : List Va} (h : OwnV w B (.slice (some ⟨g, 0, none⟩) n cap) l) (i : Nat) (hi : i < l.length) : w.cell? ⟨g, i * 3, none⟩ = some (.int .i64 (l.getD i noVa).1) ∧ w.cell? ⟨g, i * 3 + 1, none⟩ = some (.int .i64 (l.getD i noVa).2.1) ∧ w.cell? ⟨g, i * 3 + 2, none⟩ = some (.string (l.getD i noVa).2.2) := by
 obtain ⟨hl, hr⟩ := h;rcases hr with ⟨h0, _⟩ | ⟨g', cap', cur, h1, h2, h3, h4, h5, h6, h7⟩
 ·cases h0
 ·injection h1 with e1 e2 e3
  injection e1 with e1
  injection e1 with e1
  subst e1;have hc : ∀ j, j < l.length * 3 → w.cell? ⟨g, j, none⟩ = (vaCells l)[j]? := fun j hj => by
   rw [cell_heap h3, ← h7, List.getElem?_take, if_pos hj]
   simp
  obtain ⟨a1, a2, a3⟩ := vaCells_at l i hi;exact ⟨(hc _ (by omega)).trans a1, (hc _ (by omega)).trans a2, (hc _ (by omega)).trans a3⟩
def hasP (S : SetV) (p : Va) : Bool := hasB S p.1 p.2.1 p.2.2
def inPts (A B : SetV) (ps : List Va) : Bool := ps.all fun p => !(hasP A p && !(hasP B p))
theorem SetAt.pair {w : World} {v u : Value} {A B : SetV} (hv : SetAt w v A) (hu : SetAt w u B) (n : Nat) (hn : n = w.heap.size) : ∀ vi vs ui us, v = .agg #[.bool A.absent, vi, .bool A.co, vs] → u = .agg #[.bool B.absent, ui, .bool B.co, us] →
  SetsAt (w.alloc (.cells #[.bool A.absent, vi, .bool A.co, vs, .bool B.absent, ui, .bool B.co, us] 25)) (.slice (some ⟨n, 0, none⟩) 2 2) [A, B] := by
 intro vi vs ui us ev eu;subst hn;obtain ⟨vi', vs', ev', hI, hS⟩ := hv;obtain ⟨ui', us', eu', hJ, hT⟩ := hu;rw [ev] at ev';rw [eu] at eu'
 simp at ev' eu'
 obtain ⟨rfl, rfl⟩ := ev';obtain ⟨rfl, rfl⟩ := eu';have hb := (Below.refl _ w).alloc (Nat.le_refl _) (.cells #[.bool A.absent, vi, .bool A.co, vs, .bool B.absent, ui, .bool B.co, us] 25);have hs : w.heap.size < (w.alloc (.cells #[.bool A.absent, vi, .bool A.co, vs, .bool B.absent, ui, .bool B.co, us] 25)).heap.size := by show _ < (w.heap.push _).size; simp
 refine ⟨by simp, _, 2, rfl, fun i hi => ?_⟩;have hc := fun j => cell_heap (heap_new w (.cells #[.bool A.absent, vi, .bool A.co, vs, .bool B.absent, ui, .bool B.co, us] 25)) j
 match i, hi with
 | 0, _ => exact ⟨_, 0, vi, vs, rfl, hs, hc 0, hc 1, hc 2, hc 3, hI.on hb, hS.on hb⟩
 | 1, _ => exact ⟨_, 0, ui, us, rfl, hs, hc 4, hc 5, hc 6, hc 7, hJ.on hb, hT.on hb⟩
theorem ptsR_noS (r : Rg) : ∀ p ∈ ptsR r, p.2.2 = noS := by
 intro p hp;unfold ptsR at hp;rw [List.mem_append, List.mem_append] at hp;rcases hp with (hp | hp) | hp
 ·simp at hp; rcases hp with rfl | rfl <;> rfl
 ·split at hp
  ·simp at hp; rw [hp]
  ·simp at hp
 ·split at hp
  ·simp at hp; rw [hp]
  ·simp at hp
theorem ptsL_size (l : List SetV) (M : Nat) (h : ∀ S ∈ l, ∀ s ∈ S.strs, s.size ≤ M) : ∀ p ∈ ptsL l, p.2.2.size ≤ M := by
 intro p hp;have n0 : noS.size ≤ M := by show (0 : Nat) ≤ M; omega
 unfold ptsL at hp;rcases List.mem_append.1 hp with hp | hp
 ·simp [pts0] at hp
  rcases hp with rfl | rfl | rfl | rfl <;> exact n0
 ·obtain ⟨S, hS, hp⟩ := List.mem_flatMap.1 hp;unfold ptsS at hp;rcases List.mem_append.1 hp with hp | hp
  ·obtain ⟨r, _, hp⟩ := List.mem_flatMap.1 hp;rw [ptsR_noS r p hp]; exact n0
  ·obtain ⟨s, hs, rfl⟩ := List.mem_map.1 hp;exact h S hS s hs
theorem fresh_size {l : List SetV} {t : ByteArray} (h : FreshOut l ⟨#[126]⟩ t) : t.size ≤ 21 := by
 have h1 : (⟨#[126]⟩ : ByteArray).size = 1 := rfl;rcases h with ⟨j, hj, rfl, _⟩ | ⟨rfl, _⟩
 ·unfold tryS;rw [ByteArray.size_append];have := itoa_short j (by omega);omega
 ·omega
end Go.Proofs.YtlkcjhcmkaddaaaGreat
namespace Go.Proofs.YtlkcjhcmkaddaaaGreat
theorem dec_ne_nil (u : Nat) : Lib.decDigits u ≠ [] := by
 rw [Lib.decDigits]; split <;> simp
theorem decDigits_inj (u : Nat) : ∀ v, Lib.decDigits u = Lib.decDigits v → u = v := by
 induction u using Nat.strongRecOn with
 | _ u ih =>
  intro v h;have hu : Lib.decDigits u = if h : u < 10 then [UInt8.ofNat (48 + u)] else Lib.decDigits (u / 10) ++ [UInt8.ofNat (48 + u % 10)] := by rw [Lib.decDigits]
  have hv : Lib.decDigits v = if h : v < 10 then [UInt8.ofNat (48 + v)] else Lib.decDigits (v / 10) ++ [UInt8.ofNat (48 + v % 10)] := by rw [Lib.decDigits]
  have key : ∀ a b : Nat, a < 10 → b < 10 → UInt8.ofNat (48 + a) = UInt8.ofNat (48 + b) → a = b := fun a b ha hb e => by
   have := congrArg UInt8.toNat e;rw [UInt8.toNat_ofNat', UInt8.toNat_ofNat'] at this;omega
  by_cases h1 : u < 10
  ·by_cases h2 : v < 10
   ·rw [hu, hv, dif_pos h1, dif_pos h2] at h;simp only [List.cons.injEq, and_true] at h;exact key u v h1 h2 h
   ·rw [hu, hv, dif_pos h1, dif_neg h2] at h;have e := congrArg List.length h;have e2 := List.length_pos_iff.2 (dec_ne_nil (v / 10));simp only [List.length_append, List.length_cons, List.length_nil] at e;omega
  ·by_cases h2 : v < 10
   ·rw [hu, hv, dif_neg h1, dif_pos h2] at h;have e := congrArg List.length h;have e2 := List.length_pos_iff.2 (dec_ne_nil (u / 10));simp only [List.length_append, List.length_cons, List.length_nil] at e;omega
   ·rw [hu, hv, dif_neg h1, dif_neg h2] at h;obtain ⟨e1, e2⟩ := List.append_inj' h rfl;simp only [List.cons.injEq, and_true] at e2;have a := ih (u / 10) (by omega) (v / 10) e1;have b := key (u % 10) (v % 10) (by omega) (by omega) e2;omega
theorem tryS_inj (s : ByteArray) (i j : Nat) (h : tryS s i = tryS s j) : i = j := by
 have h1 := congrArg (fun b : ByteArray => b.data.toList) h;simp only [tryS, ByteArray.data_append, Array.toList_append, List.toList_toArray, List.append_cancel_left_eq, Lib.itoa_nonneg] at h1;exact decDigits_inj i j h1
theorem inInts_iff (l : List Rg) (n : Int) : inIntsB l n = true ↔ memR l n := by
 unfold inIntsB memR;rw [List.any_eq_true]
 constructor
 ·rintro ⟨r, hr, h⟩
  simp at h
  exact ⟨r, hr, h⟩
 ·rintro ⟨r, hr, h⟩;exact ⟨r, hr, by simpa using h⟩
theorem inStrs_iff (l : List ByteArray) (s : ByteArray) : inStrsB l s = true ↔ s ∈ l := by
 unfold inStrsB;rw [List.any_eq_true]
 constructor
 ·rintro ⟨t, ht, h⟩;rw [← bytes_eq.1 h]; exact ht
 ·intro h;exact ⟨s, h, bytes_eq.2 rfl⟩
theorem named_iff (l : List SetV) (t : ByteArray) : namedB l t = false ↔ ∀ S ∈ l, t ∉ S.strs := by
 unfold namedB;rw [List.any_eq_false]
 constructor
 ·intro h S hS ht;exact h S hS ((inStrs_iff _ _).2 ht)
 ·intro h S hS ht;exact h S hS ((inStrs_iff _ _).1 ht)
theorem fresh_new {l : List SetV} {s t : ByteArray} (h : FreshOut l s t) (hn : (l.flatMap fun S => S.strs).length < 100000) : (∃ j, j < 100000 ∧ t = tryS s j) ∧ ∀ S ∈ l, t ∉ S.strs := by
 rcases h with ⟨j, hj, ht, h⟩ | ⟨rfl, h⟩
 ·exact ⟨⟨j, hj, ht⟩, (named_iff _ _).1 h⟩
 ·exfalso
  obtain ⟨i, hi, hf⟩ := fresh_out (fun i => (tryS t i).data.toList) (fun i j e => tryS_inj t i j (by
   apply ByteArray.ext
   exact Array.toList_inj.1 e)) ((l.flatMap fun S => S.strs).map fun b => b.data.toList) 100000 (by rw [List.length_map]; exact hn)
  have h1 := h i hi;refine hf ?_;cases hx : namedB l (tryS t i)
  ·rw [hx] at h1; exact absurd h1 (by simp)
  ·unfold namedB at hx;rw [List.any_eq_true] at hx;obtain ⟨S, hS, hx⟩ := hx;exact List.mem_map.2 ⟨tryS t i, List.mem_flatMap.2 ⟨S, hS, (inStrs_iff _ _).1 hx⟩, rfl⟩
theorem rgB_some (l : List Rg) : ∀ h : Int, rgB (some h) l = true ↔ rightFrom (h + 1) l := by
 induction l with
 | nil => intro h; simp [rgB, rightFrom]
 | cons r l ih =>
  intro h;simp only [rgB, Bool.and_eq_true, decide_eq_true_eq, ih, rightFrom]
  constructor
  ·rintro ⟨h1, h2, h3⟩; exact ⟨h2, h1, h3⟩
  ·rintro ⟨h1, h2, h3⟩; exact ⟨h2, h1, h3⟩
theorem rgB_none (l : List Rg) : rgB none l = true ↔ rightR l := by
 cases l with
 | nil => simp [rgB, rightR]
 | cons r l => simp only [rgB, Bool.and_eq_true, decide_eq_true_eq, rgB_some, rightR]
def rightS (l : List ByteArray) : Prop := (∀ s ∈ l, s.size ≤ 8) ∧ risesS (l.map fun b => b.toList)
theorem stB_some (l : List ByteArray) : ∀ p : ByteArray, stB (some p) l = true ↔ rightS l ∧ ∀ b ∈ l, Op.bytesLess p.toList b.toList = true := by
 induction l with
 | nil => intro p; simp [stB, rightS, risesS]
 | cons s l ih =>
  intro p;simp only [stB, Bool.and_eq_true, decide_eq_true_eq, ih, rightS, List.map_cons, risesS, List.mem_cons, List.mem_map, forall_eq_or_imp]
  constructor
  ·rintro ⟨h1, h2, ⟨h3, h4⟩, h5⟩;refine ⟨⟨⟨h1, h3⟩, ?_, h4⟩, h2, fun b hb => lessB_trans _ _ _ h2 (h5 b hb)⟩;rintro b ⟨x, hx, rfl⟩;exact h5 x hx
  ·rintro ⟨⟨⟨h1, h3⟩, h6, h4⟩, h2, h5⟩;exact ⟨h1, h2, ⟨h3, h4⟩, fun b hb => h6 _ ⟨b, hb, rfl⟩⟩
theorem stB_none (l : List ByteArray) : stB none l = true ↔ rightS l := by
 cases l with
 | nil => simp [stB, rightS, risesS]
 | cons s l =>
  simp only [stB, Bool.and_eq_true, decide_eq_true_eq, stB_some, rightS, List.map_cons, risesS, List.mem_cons, List.mem_map, forall_eq_or_imp]
  constructor
  ·rintro ⟨h1, ⟨h3, h4⟩, h5⟩;refine ⟨⟨h1, h3⟩, ?_, h4⟩;rintro b ⟨x, hx, rfl⟩;exact h5 x hx
  ·rintro ⟨⟨h1, h3⟩, h6, h4⟩;exact ⟨h1, ⟨h3, h4⟩, fun b hb => h6 _ ⟨b, hb, rfl⟩⟩
theorem rightSet_iff (S : SetV) : rightSet S = true ↔ rightR S.ints ∧ rightS S.strs := by
 unfold rightSet;rw [Bool.and_eq_true, rgB_none, stB_none]
theorem toList_inj {a b : ByteArray} (h : a.toList = b.toList) : a = b := bytes_eq.1 (beq_iff_eq.2 h)
theorem rightS_ext (a b : List ByteArray) (ha : rightS a) (hb : rightS b) (h : ∀ s : ByteArray, s ∈ a ↔ s ∈ b) : a = b := by
 have hm : ∀ l : List ByteArray, ∀ s : ByteArray, s.toList ∈ l.map (fun x => x.toList) ↔ s ∈ l := fun l s => by
  rw [List.mem_map]
  constructor
  ·rintro ⟨x, hx, e⟩; rw [← toList_inj e]; exact hx
  ·intro hs; exact ⟨s, hs, rfl⟩
 have e := risesS_ext (a.map fun x => x.toList) (b.map fun x => x.toList) ha.2 hb.2 (fun s => by
  constructor
  ·intro hs;obtain ⟨x, hx, rfl⟩ := List.mem_map.1 hs;exact (hm b x).2 ((h x).1 hx)
  ·intro hs;obtain ⟨x, hx, rfl⟩ := List.mem_map.1 hs;exact (hm a x).2 ((h x).2 hx))
 exact List.map_inj_right (fun x y e => toList_inj e) |>.1 e
def rightV (p : Va) : Prop := rightB p.1 p.2.1 p.2.2 = true
theorem size_nil {s : ByteArray} (h : s.size = 0) : s = noS := ByteArray.ext (Array.eq_empty_of_size_eq_zero h)
theorem toList_len (s : ByteArray) : s.toList.length = s.size := by rw [ByteArray.toList_eq]; exact (Lib.size_eq s).symm
theorem rightV_cases {p : Va} (h : rightV p) : p = (0, 0, noS) ∨ (∃ n, p = (1, n, noS)) ∨ ∃ s : ByteArray, s.size ≤ 8 ∧ p = (2, 0, s) := by
 obtain ⟨k, n, s⟩ := p;unfold rightV rightB at h;dsimp only at h;have hnil : s.toList.isEmpty = true → s = noS := fun e => size_nil (by rw [← toList_len, List.isEmpty_iff.1 e]; rfl)
 split at h
 ·rename_i hk
  rw [Bool.and_eq_true, beq_iff_eq] at h
  left; rw [hk, h.1, hnil h.2]
 ·split at h
  ·rename_i hk
   right; left; exact ⟨n, by rw [hk, hnil h]⟩
  ·split at h
   ·rename_i hk
    rw [Bool.and_eq_true, beq_iff_eq, decide_eq_true_eq] at h
    right; right; exact ⟨s, by omega, by rw [hk, h.1]⟩
   ·exact absurd h (by simp)
theorem noS_empty : noS.toList.isEmpty = true := by rw [ByteArray.toList_eq]; rfl
theorem rightV_num (n : Int) : rightB 1 n noS = true := by
 unfold rightB;rw [if_neg (by omega), if_pos rfl, noS_empty]
theorem rightV_abs : rightB 0 0 noS = true := by
 unfold rightB;rw [if_pos rfl, noS_empty]; rfl
theorem rightV_str {s : ByteArray} (h : s.size ≤ 8) : rightB 2 0 s = true := by
 have e : decide ((s.size : Int) ≤ 8) = true := decide_eq_true (by omega);unfold rightB;rw [if_neg (by omega), if_neg (by omega), if_pos rfl, e]; rfl
theorem has_abs (S : SetV) : hasP S (0, 0, noS) = S.absent := by unfold hasP hasB; rw [rightV_abs]; rfl
theorem has_num (S : SetV) (n : Int) : hasP S (1, n, noS) = inIntsB S.ints n := by
 unfold hasP hasB;dsimp only;rw [rightV_num, Bool.true_and, if_neg (by omega), if_pos rfl]
theorem has_str (S : SetV) {s : ByteArray} (h : s.size ≤ 8) : hasP S (2, 0, s) = (inStrsB S.strs s != S.co) := by
 unfold hasP hasB;dsimp only;rw [rightV_str h, Bool.true_and, if_neg (by omega), if_neg (by omega)]
theorem has_wrong (S : SetV) {p : Va} (h : ¬ rightV p) : hasP S p = false := by
 unfold rightV at h;unfold hasP hasB;cases e : rightB p.1 p.2.1 p.2.2
 ·rfl
 ·exact absurd e h
def inSet (A B : SetV) : Prop := ∀ p : Va, -9223372036854775808 ≤ p.2.1 → p.2.1 ≤ 9223372036854775807 → hasP A p = true → hasP B p = true
theorem inPts_iff (A B : SetV) (ps : List Va) : inPts A B ps = true ↔ ∀ p ∈ ps, hasP A p = true → hasP B p = true := by
 unfold inPts;rw [List.all_eq_true]
 constructor
 ·intro h p hp ha;have := h p hp;rw [ha] at this
  simpa using this
 ·intro h p hp;cases ha : hasP A p
  ·rfl
  ·rw [h p hp ha]; rfl
theorem fresh_short {j : Nat} (h : j < 100000) : (tryS ⟨#[126]⟩ j).size ≤ 8 := by
 unfold tryS;rw [ByteArray.size_append];have h1 : (⟨#[126]⟩ : ByteArray).size = 1 := rfl;have h2 : (⟨(Lib.itoa (j : Int)).toArray⟩ : ByteArray).size = (Lib.decDigits j).length := by rw [Lib.itoa_nonneg]; simp [ByteArray.size]
 have h3 : (Lib.decDigits j).length ≤ 5 := by
  rw [Lib.decDigits_length];have one : ∀ u : Nat, ∀ c : Nat, (u / 10 < 10 ^ c → Lib.nDigits (u / 10) ≤ c) → 1 ≤ c → u < 10 ^ (c + 1) → Lib.nDigits u ≤ c + 1 := fun u c ih hc hu => by
   by_cases h : u < 10
   ·rw [Lib.nDigits_small h]; omega
   ·rw [Lib.nDigits_big h];have := ih (Nat.div_lt_of_lt_mul (by rw [Nat.mul_comm]; exact (Nat.pow_succ (n := 10) (m := c)) ▸ hu));omega
  refine one j 4 (fun h4 => one _ 3 (fun h3 => one _ 2 (fun h2 => one _ 1 (fun h1 => ?_) (by omega) h2) (by omega) h3) (by omega) h4) (by omega) (by omega);rw [Lib.nDigits_small (by omega)]; omega
 omega
theorem ptsR_bound (r : Rg) (b : -9223372036854775808 ≤ r.1 ∧ r.1 ≤ 9223372036854775807 ∧ -9223372036854775808 ≤ r.2 ∧ r.2 ≤ 9223372036854775807) : ∀ p ∈ ptsR r, -9223372036854775808 ≤ p.2.1 ∧ p.2.1 ≤ 9223372036854775807 := by
 intro p hp;unfold ptsR at hp;rw [List.mem_append, List.mem_append] at hp;rcases hp with (hp | hp) | hp
 ·simp at hp; rcases hp with rfl | rfl <;> (dsimp only; omega)
 ·split at hp
  ·simp at hp; rw [hp]; dsimp only; omega
  ·simp at hp
 ·split at hp
  ·simp at hp; rw [hp]; dsimp only; omega
  ·simp at hp
theorem ptsL_bound (l : List SetV) (h : ∀ S ∈ l, inI64 S.ints) : ∀ p ∈ ptsL l, -9223372036854775808 ≤ p.2.1 ∧ p.2.1 ≤ 9223372036854775807 := by
 intro p hp;unfold ptsL at hp;rcases List.mem_append.1 hp with hp | hp
 ·simp [pts0] at hp
  rcases hp with rfl | rfl | rfl | rfl <;> (dsimp only; omega)
 ·obtain ⟨S, hS, hp⟩ := List.mem_flatMap.1 hp;unfold ptsS at hp;rcases List.mem_append.1 hp with hp | hp
  ·obtain ⟨r, hr, hp⟩ := List.mem_flatMap.1 hp;exact ptsR_bound r (h S hS r hr) p hp
  ·obtain ⟨s, hs, rfl⟩ := List.mem_map.1 hp;dsimp only; omega
theorem inPts_inSet (A B : SetV) (t : ByteArray) (ht : FreshOut [A, B] ⟨#[126]⟩ t) (rA : rightSet A = true) (rB : rightSet B = true) (iA : inI64 A.ints) (iB : inI64 B.ints) (fA : A.strs.length ≤ 400) (fB : B.strs.length ≤ 400) :
  inPts A B (ptsL [A, B] ++ [(2, 0, t)]) = true ↔ inSet A B := by
 obtain ⟨⟨j, hj, hjt⟩, hnew⟩ := fresh_new ht (by simp; omega);have ht8 : t.size ≤ 8 := by rw [hjt]; exact fresh_short hj
 obtain ⟨rAi, rAs⟩ := (rightSet_iff A).1 rA;obtain ⟨rBi, rBs⟩ := (rightSet_iff B).1 rB;rw [inPts_iff]
 constructor
 ·intro h p b0 b1 ha;have hp : rightV p := Classical.byContradiction fun hp => by rw [has_wrong A hp] at ha; simp at ha
  have mem : ∀ q, q ∈ ptsL [A, B] → hasP A q = true → hasP B q = true := fun q hq => h q (List.mem_append_left _ hq)
  have memS : ∀ S, S ∈ [A, B] → ∀ q ∈ ptsS S, hasP A q = true → hasP B q = true := fun S hS q hq => mem q (List.mem_append_right _ (List.mem_flatMap.2 ⟨S, hS, hq⟩))
  have memR' : ∀ S, S ∈ [A, B] → ∀ r ∈ S.ints, ∀ q ∈ ptsR r, hasP A q = true → hasP B q = true := fun S hS r hr q hq => memS S hS q (List.mem_append_left _ (List.mem_flatMap.2 ⟨r, hr, hq⟩))
  have memT : ∀ S, S ∈ [A, B] → ∀ s ∈ S.strs, hasP A (2, 0, s) = true → hasP B (2, 0, s) = true := fun S hS s hs => memS S hS _ (List.mem_append_right _ (List.mem_map.2 ⟨s, hs, rfl⟩))
  rcases rightV_cases hp with rfl | ⟨n, rfl⟩ | ⟨s, hs, rfl⟩
  ·exact mem _ (List.mem_append_left _ (by simp [pts0])) ha
  ·rw [has_num] at ha ⊢;rw [inInts_iff] at ha ⊢;refine sub_points A.ints B.ints (fun r hr hle => ?_) (fun r hr s hs hlt hm => ?_) n ha
   ·have := memR' A (by simp) r hr (1, r.1, noS) (by unfold ptsR; simp);rw [has_num, has_num, inInts_iff, inInts_iff] at this;exact this ⟨r, hr, Int.le_refl _, hle⟩
   ·have bs := iA s hs;have := memR' B (by simp) r hr (1, r.2 + 1, noS) (by unfold ptsR; rw [if_pos (show r.2 < 9223372036854775807 by omega)]; simp);rw [has_num, has_num, inInts_iff, inInts_iff] at this;exact this hm
  ·by_cases h1 : s ∈ A.strs
   ·exact memT A (by simp) s h1 ha
   ·by_cases h2 : s ∈ B.strs
    ·exact memT B (by simp) s h2 ha
    ·have hf := h (2, 0, t) (List.mem_append_right _ (by simp));rw [has_str A ht8, has_str B ht8] at hf;rw [has_str A hs] at ha;rw [has_str B hs];have n1 : inStrsB A.strs s = false := by cases e : inStrsB A.strs s; rfl; exact absurd ((inStrs_iff _ _).1 e) h1
     have n2 : inStrsB B.strs s = false := by cases e : inStrsB B.strs s; rfl; exact absurd ((inStrs_iff _ _).1 e) h2
     have n3 : inStrsB A.strs t = false := by cases e : inStrsB A.strs t; rfl; exact absurd ((inStrs_iff _ _).1 e) (hnew A (by simp))
     have n4 : inStrsB B.strs t = false := by cases e : inStrsB B.strs t; rfl; exact absurd ((inStrs_iff _ _).1 e) (hnew B (by simp))
     rw [n3, n4] at hf;rw [n1] at ha;rw [n2];exact hf ha
 ·intro h p hp ha;have hb : -9223372036854775808 ≤ p.2.1 ∧ p.2.1 ≤ 9223372036854775807 := by
   rcases List.mem_append.1 hp with hp | hp
   ·refine ptsL_bound [A, B] (fun S hS => ?_) p hp;rcases List.mem_cons.1 hS with rfl | hS
    ·exact iA
    ·rcases List.mem_cons.1 hS with rfl | hS
     ·exact iB
     ·simp at hS
   ·simp at hp
    rw [hp]; dsimp only; omega
  exact h p hb.1 hb.2 ha
end Go.Proofs.YtlkcjhcmkaddaaaGreat
namespace Go.Proofs.YtlkcjhcmkaddaaaGreat
theorem inStrs_not {l : List ByteArray} {s : ByteArray} (h : s ∉ l) : inStrsB l s = false := by
 cases e : inStrsB l s
 ·rfl
 ·exact absurd ((inStrs_iff _ _).1 e) h
theorem some_fresh (a b : List ByteArray) (h : a.length + b.length < 100000) : ∃ t : ByteArray, t.size ≤ 8 ∧ t ∉ a ∧ t ∉ b := by
 obtain ⟨i, hi, hf⟩ := fresh_out (fun i => (tryS ⟨#[126]⟩ i).data.toList) (fun i j e => tryS_inj _ i j (by
  apply ByteArray.ext
  exact Array.toList_inj.1 e)) ((a ++ b).map fun x => x.data.toList) 100000 (by rw [List.length_map, List.length_append]; exact h)
 refine ⟨tryS ⟨#[126]⟩ i, fresh_short hi, fun hm => hf ?_, fun hm => hf ?_⟩
 ·exact List.mem_map.2 ⟨_, List.mem_append_left _ hm, rfl⟩
 ·exact List.mem_map.2 ⟨_, List.mem_append_right _ hm, rfl⟩
theorem set_ext (A B : SetV) (rA : rightSet A = true) (rB : rightSet B = true) (iA : inI64 A.ints) (iB : inI64 B.ints) (hn : A.strs.length + B.strs.length < 100000)
  (h : ∀ p : Va, -9223372036854775808 ≤ p.2.1 → p.2.1 ≤ 9223372036854775807 → hasP A p = hasP B p) : A = B := by
 obtain ⟨rAi, rAs⟩ := (rightSet_iff A).1 rA;obtain ⟨rBi, rBs⟩ := (rightSet_iff B).1 rB;have e1 : A.absent = B.absent := by
  have := h (0, 0, noS) (by dsimp only; omega) (by dsimp only; omega)
  rwa [has_abs, has_abs] at this
 have e2 : A.ints = B.ints := by
  refine rightR_ext64 _ _ rAi rBi iA iB fun n h0 h1 => ?_
  have := h (1, n, noS) h0 h1;rw [has_num, has_num] at this;rw [← inInts_iff, ← inInts_iff, this]
 have e3 : A.co = B.co := by
  obtain ⟨t, t8, ta, tb⟩ := some_fresh A.strs B.strs hn;have := h (2, 0, t) (by dsimp only; omega) (by dsimp only; omega);rw [has_str A t8, has_str B t8, inStrs_not ta, inStrs_not tb] at this
  revert this
  cases A.co <;> cases B.co <;> simp
 have e4 : A.strs = B.strs := by
  refine rightS_ext _ _ rAs rBs fun s => ?_
  by_cases s8 : s.size ≤ 8
  ·have := h (2, 0, s) (by dsimp only; omega) (by dsimp only; omega);rw [has_str A s8, has_str B s8, e3] at this;rw [← inStrs_iff, ← inStrs_iff]
   revert this
   cases inStrsB A.strs s <;> cases inStrsB B.strs s <;> cases B.co <;> simp
  ·exact ⟨fun hs => absurd (rAs.1 s hs) s8, fun hs => absurd (rBs.1 s hs) s8⟩
 obtain ⟨a1, a2, a3, a4⟩ := A;obtain ⟨b1, b2, b3, b4⟩ := B;dsimp only at *;subst e1 e2 e3 e4
 rfl
end Go.Proofs.YtlkcjhcmkaddaaaGreat
namespace Go.Proofs.YtlkcjhcmkaddaaaGreat
def lastH (o : List Rg) : Option Int := o.getLast?.map (·.2)
theorem lastH_nil : lastH [] = none := rfl
theorem lastH_concat (o : List Rg) (q : Rg) : lastH (o ++ [q]) = some q.2 := by simp [lastH]
theorem rightFrom_concat : ∀ (o : List Rg) (b : Int) (r : Rg), rightFrom b o → r.1 ≤ r.2 → (o = [] → b < r.1) → (∀ h, lastH o = some h → h + 1 < r.1) → rightFrom b (o ++ [r])
 | [], b, r, _, h1, h2, _ => ⟨h2 rfl, h1, trivial⟩
 | q :: o, b, r, ⟨a1, a2, a3⟩, h1, h2, h3 => by
  refine ⟨a1, a2, rightFrom_concat o (q.2 + 1) r a3 h1 (fun e => ?_) (fun h e => h3 h ?_)⟩
  ·subst e; exact h3 q.2 rfl
  ·cases o with
   | nil => cases e
   | cons x o => simpa [lastH] using e
theorem rightR_concat (o : List Rg) (r : Rg) (ho : rightR o) (h1 : r.1 ≤ r.2) (h3 : ∀ h, lastH o = some h → h + 1 < r.1) : rightR (o ++ [r]) := by
 cases o with
 | nil => exact ⟨h1, trivial⟩
 | cons q o =>
  refine ⟨ho.1, rightFrom_concat o (q.2 + 1) r ho.2 h1 (fun e => ?_) (fun h e => h3 h ?_)⟩
  ·subst e; exact h3 q.2 rfl
  ·cases o with
   | nil => cases e
   | cons x o => simpa [lastH] using e
theorem memR_one (r : Rg) (n : Int) : memR [r] n ↔ r.1 ≤ n ∧ n ≤ r.2 := by rw [memR_cons]; simp [memR_nil]
end Go.Proofs.YtlkcjhcmkaddaaaGreat
namespace Go.Proofs.YtlkcjhcmkaddaaaGreat
open Go.RowKit
def rgCells (l : List Rg) : List Value := l.flatMap fun v => [.int .i64 v.1, .int .i64 v.2]
theorem rgCells_append (a b : List Rg) : rgCells (a ++ b) = rgCells a ++ rgCells b := by unfold rgCells; rw [List.flatMap_append]
theorem rgCells_len : ∀ l : List Rg, (rgCells l).length = l.length * 2
 | [] => rfl
 | v :: l => by
  have := rgCells_len l;unfold rgCells at *;rw [List.flatMap_cons, List.length_append, this]
  simp; omega
theorem rgCells_one (l : List Rg) : ∀ u ∈ rgCells l, u.oneCell' = true := by
 intro u hu;unfold rgCells at hu;obtain ⟨v, _, hv⟩ := List.mem_flatMap.1 hu
 simp at hv
 rcases hv with rfl | rfl <;> rfl
theorem infoRg : (Tryz.prog.info? 58).map (fun i => (i.zero, i.size, i.bytes)) = some (some (.agg #[.int .i64 0, .int .i64 0]), 2, 16) := by kernel_rfl
def OwnR (w : World) (B : Nat) (v : Value) (l : List Rg) : Prop := w.ownsRow B 58 2 v l.length (rgCells l)
theorem OwnR.alloc {w : World} {B : Nat} {v : Value} {l : List Rg} (h : OwnR w B v l) (o : Obj) : OwnR (w.alloc o) B v l := World.ownsRow.alloc h o
theorem OwnR.drewN {w : World} {B : Nat} {v : Value} {l : List Rg} (h : OwnR w B v l) (n : Nat) : OwnR (w.drewN n) B v l := h
theorem OwnR.grownB {w w' : World} {B : Nat} {v : Value} {l : List Rg} (h : OwnR w B v l) (hB : B ≤ w.heap.size) (hg : w.grownBy w' v.ownBlock) : Below B w w' :=
 (Below.refl _ _).grown hg hB (fun k hk => (World.ownsRow.lt h k hk).1)
theorem OwnR.on {w w' : World} {B : Nat} {v : Value} {l : List Rg} (h : OwnR w B v l) (hb : Below w.heap.size w w') : OwnR w' B v l :=
 World.ownsRow.kept (row := none) h ⟨hb.os, hb.tape, hb.output, hb.size, fun k hk _ => hb.block k hk⟩ (by cases v.ownBlock <;> simp)
theorem ownR_none (w : World) (B : Nat) : OwnR w B (.slice none 0 0) [] := ⟨rfl, Or.inl ⟨rfl, rfl⟩⟩
theorem wpList_appR {ops : Array Oper} {rest : List Oper} {o : Oper} {a : Act} {Q : Exit → Act → World → Prop} (w : World) (hgd : o.guard = none) (s x : Operand)
  (ho : o.op = .call { callee := .builtin .append, args := #[s, x], argTypes := #[22, 22] })
  (B : Nat) (v : Value) (l : List Rg) (hs : a.eval s = v) (hown : OwnR w B v l) (g m c : Nat) (cs : Array Value) (news : List Rg) (hm : news.length = m)
  (hx : a.eval x = .slice (some ⟨g, 0, none⟩) m c) (hb : w.heap[g]? = some (.cells cs 58 (0, 0))) (hcs : cs.toList = rgCells news) (hlen : l.length + m ≤ 1000000) (hB : B ≤ w.heap.size)
  (h : ∀ v' w', OwnR w' B v' (l ++ news) → Below B w w' → wpList Tryz.prog ops Q rest (a.put o.dst v') w') : wpList Tryz.prog ops Q (o :: rest) a w := by
 obtain ⟨i0, hi, hz0, hz1, hz2⟩ := info_parts infoRg;refine wpList_append_own w hgd s x 22 ho B 58 i0 _ 2 16 Tryz.underlying22 hi hz0 hz1 hz2 rfl (by decide) v l.length (rgCells l) hs hown ⟨g, 0, none⟩ m c (rgCells news) hx (by rw [rgCells_len, hm]) ?_ (rgCells_one _) (by unfold maxLen; omega) (by omega) hB ?_
 ·rw [← hcs]; exact World.news_of_block hb
 ·intro v' w' h1 h2 _;refine h v' w' ?_ (OwnR.grownB hown hB h2);unfold OwnR;rw [List.length_append, hm, rgCells_append];exact h1
theorem rgCells_at : ∀ (l : List Rg) (i : Nat), i < l.length → (rgCells l)[i * 2]? = some (.int .i64 (l.getD i (0, 0)).1) ∧ (rgCells l)[i * 2 + 1]? = some (.int .i64 (l.getD i (0, 0)).2)
 | [], i, h => by simp at h
 | v :: l, 0, _ => by simp [rgCells]
 | v :: l, i + 1, h => by
  have ih := rgCells_at l i (by simpa using h);have e : rgCells (v :: l) = [.int .i64 v.1, .int .i64 v.2] ++ rgCells l := rfl;rw [e];refine ⟨?_, ?_⟩
  ·rw [List.getElem?_append_right (by simp; omega)]
   simpa [show (i + 1) * 2 - 2 = i * 2 by omega] using ih.1
  ·rw [List.getElem?_append_right (by simp; omega)]
   simpa [show (i + 1) * 2 + 1 - 2 = i * 2 + 1 by omega] using ih.2
theorem OwnR.at {w : World} {B g n cap : Nat} {l : List Rg} (h : OwnR w B (.slice (some ⟨g, 0, none⟩) n cap) l) (i : Nat) (hi : i < l.length) : w.cell? ⟨g, i * 2, none⟩ = some (.int .i64 (l.getD i (0, 0)).1) ∧ w.cell? ⟨g, i * 2 + 1, none⟩ = some (.int .i64 (l.getD i (0, 0)).2) := by
 obtain ⟨hl, hr⟩ := h;rcases hr with ⟨h0, _⟩ | ⟨g', cap', cur, h1, h2, h3, h4, h5, h6, h7⟩
 ·cases h0
 ·injection h1 with e1 e2 e3
  injection e1 with e1
  injection e1 with e1
  subst e1;have hc : ∀ j, j < l.length * 2 → w.cell? ⟨g, j, none⟩ = (rgCells l)[j]? := fun j hj => by
   rw [cell_heap h3, ← h7, List.getElem?_take, if_pos hj]
   simp
  obtain ⟨a1, a2⟩ := rgCells_at l i hi;exact ⟨(hc _ (by omega)).trans a1, (hc _ (by omega)).trans a2⟩
end Go.Proofs.YtlkcjhcmkaddaaaGreat
namespace Go.Proofs.YtlkcjhcmkaddaaaGreat
open Go.RowKit
theorem below_field {B : Nat} {w w1 : World} (h : Below B w w1) (n : Nat) : Below B w (w1.drewN n) := ⟨h.os, h.tape, h.output, h.size, h.block⟩
end Go.Proofs.YtlkcjhcmkaddaaaGreat
namespace Go.Proofs.YtlkcjhcmkaddaaaGreat
def notR (from_ : Int) : List Rg → List Rg
 | [] => if from_ ≤ 9223372036854775807 then [(from_, 9223372036854775807)] else []
 | r :: l => if from_ < r.1 then (from_, r.1 - 1) :: notR (r.2 + 1) l else notR (r.2 + 1) l
theorem notR_mem : ∀ (l : List Rg) (f : Int), rightFrom (f - 1) l → inI64 l → ∀ n, memR (notR f l) n ↔ (f ≤ n ∧ n ≤ 9223372036854775807 ∧ ¬ memR l n)
 | [], f, _, _, n => by
  unfold notR
  split
  ·rw [memR_cons]; simp [memR_nil]
  ·simp [memR_nil]; omega
 | r :: l, f, ⟨h1, h2, h3⟩, hi, n => by
  have hr := hi r (by simp);have ih := notR_mem l (r.2 + 1) (rightFrom_mono h3 (by omega)) (fun x hx => hi x (by simp [hx])) n;have hgt := fun hm => rightFrom_lt h3 n hm
  unfold notR;rw [memR_cons]
  split
  ·rw [memR_cons, ih];dsimp only
   constructor
   ·rintro (h | ⟨a, b, c⟩)
    ·refine ⟨h.1, by omega, ?_⟩;rintro (h' | h')
     ·omega
     ·have := hgt h'; omega
    ·refine ⟨by omega, b, ?_⟩;rintro (h' | h')
     ·omega
     ·exact c h'
   ·rintro ⟨a, b, c⟩;by_cases hn : n < r.1
    ·left; omega
    ·right
     refine ⟨?_, b, fun h' => c (Or.inr h')⟩;by_cases hn2 : n ≤ r.2
     ·exact absurd (Or.inl ⟨by omega, hn2⟩) c
     ·omega
  ·rw [ih]
   constructor
   ·rintro ⟨a, b, c⟩;refine ⟨by omega, b, ?_⟩;rintro (h' | h')
    ·omega
    ·exact c h'
   ·rintro ⟨a, b, c⟩;refine ⟨?_, b, fun h' => c (Or.inr h')⟩;by_cases hn2 : n ≤ r.2
    ·exact absurd (Or.inl ⟨by omega, hn2⟩) c
    ·omega
theorem notR_right : ∀ (l : List Rg) (f : Int), rightFrom (f - 1) l → inI64 l → -9223372036854775808 ≤ f → (∀ b, b < f → rightFrom b (notR f l)) ∧ inI64 (notR f l) ∧ (notR f l).length ≤ l.length + 1
 | [], f, _, _, h => by
  unfold notR
  split
  ·refine ⟨fun b hb => ⟨hb, by dsimp only; omega, trivial⟩, fun x hx => ?_, by simp⟩
   simp at hx; rw [hx]; dsimp only; omega
  ·exact ⟨fun b hb => trivial, fun x hx => by simp at hx, by simp⟩
 | r :: l, f, ⟨h1, h2, h3⟩, hi, h => by
  have hr := hi r (by simp);obtain ⟨i1, i2, i3⟩ := notR_right l (r.2 + 1) (rightFrom_mono h3 (by omega)) (fun x hx => hi x (by simp [hx])) (by omega);unfold notR
  split
  ·refine ⟨fun b hb => ⟨hb, by dsimp only; omega, ?_⟩, fun x hx => ?_, by simp; omega⟩
   ·have := i1 r.1 (by omega);dsimp only;rw [show r.1 - 1 + 1 = r.1 by omega]; exact this
   ·rcases List.mem_cons.1 hx with rfl | hx
    ·dsimp only; omega
    ·exact i2 x hx
  ·exact ⟨fun b hb => i1 b (by omega), i2, by simp; omega⟩
def insR (r : Rg) : List Rg → List Rg
 | [] => [r]
 | q :: l => if r.2 + 1 < q.1 then r :: q :: l else if q.2 + 1 < r.1 then q :: insR r l else insR (min r.1 q.1, max r.2 q.2) l
theorem insR_mem : ∀ (l : List Rg) (r : Rg), r.1 ≤ r.2 → rightR l → ∀ n, memR (insR r l) n ↔ (r.1 ≤ n ∧ n ≤ r.2) ∨ memR l n
 | [], r, _, _, n => by unfold insR; rw [memR_cons]
 | q :: l, r, h, ⟨h1, h2⟩, n => by
  unfold insR
  split
  ·rw [memR_cons]
  ·split
   ·rw [memR_cons, insR_mem l r h (rightFrom_right h2) n, memR_cons]
    constructor
    ·rintro (a | a | a)
     ·exact Or.inr (Or.inl a)
     ·exact Or.inl a
     ·exact Or.inr (Or.inr a)
    ·rintro (a | a | a)
     ·exact Or.inr (Or.inl a)
     ·exact Or.inl a
     ·exact Or.inr (Or.inr a)
   ·rw [insR_mem l _ (by dsimp only; omega) (rightFrom_right h2) n, memR_cons];dsimp only
    constructor
    ·rintro (a | a)
     ·by_cases x : r.1 ≤ n ∧ n ≤ r.2
      ·exact Or.inl x
      ·right; left; omega
     ·exact Or.inr (Or.inr a)
    ·rintro (a | a | a)
     ·left; omega
     ·left; omega
     ·exact Or.inr a
theorem insR_right : ∀ (l : List Rg) (r : Rg) (b : Int), r.1 ≤ r.2 → b < r.1 → rightFrom b l → rightFrom b (insR r l)
 | [], r, b, h, hb, _ => ⟨hb, h, trivial⟩
 | q :: l, r, b, h, hb, ⟨h0, h1, h2⟩ => by
  unfold insR
  split
  ·exact ⟨hb, h, by omega, h1, h2⟩
  ·split
   ·exact ⟨h0, h1, insR_right l r (q.2 + 1) h (by omega) h2⟩
   ·exact insR_right l _ b (by dsimp only; omega) (by dsimp only; omega) (rightFrom_mono h2 (by omega))
theorem insR_i64 : ∀ (l : List Rg) (r : Rg), (-9223372036854775808 ≤ r.1 ∧ r.1 ≤ 9223372036854775807 ∧ -9223372036854775808 ≤ r.2 ∧ r.2 ≤ 9223372036854775807) → inI64 l → inI64 (insR r l)
 | [], r, h, _ => fun x hx => by unfold insR at hx; simp at hx; rw [hx]; exact h
 | q :: l, r, h, hl => by
  have hq := hl q (by simp);have hl' : inI64 l := fun x hx => hl x (by simp [hx])
  unfold insR
  split
  ·intro x hx;rcases List.mem_cons.1 hx with rfl | hx
   ·exact h
   ·exact hl x hx
  ·split
   ·intro x hx;rcases List.mem_cons.1 hx with rfl | hx
    ·exact hq
    ·exact insR_i64 l r h hl' x hx
   ·exact insR_i64 l _ (by dsimp only; omega) hl'
theorem insR_len : ∀ (l : List Rg) (r : Rg), (insR r l).length ≤ l.length + 1
 | [], r => by simp [insR]
 | q :: l, r => by
  unfold insR
  split
  ·simp
  ·split
   ·have := insR_len l r; simp; omega
   ·have := insR_len l (min r.1 q.1, max r.2 q.2); simp; omega
def orR : List Rg → List Rg → List Rg
 | [], b => b
 | r :: a, b => insR r (orR a b)
theorem rightR_lt {l : List Rg} (h : rightR l) : ∃ b, rightFrom b l := by
 cases l with
 | nil => exact ⟨0, trivial⟩
 | cons r l => exact ⟨r.1 - 1, rightR_from h⟩
theorem orR_all : ∀ (a b : List Rg), (∀ r ∈ a, r.1 ≤ r.2) → inI64 a → rightR b → inI64 b → rightR (orR a b) ∧ inI64 (orR a b) ∧ (orR a b).length ≤ a.length + b.length ∧ ∀ n, memR (orR a b) n ↔ memR a n ∨ memR b n
 | [], b, _, _, hb, ib => ⟨hb, ib, by simp [orR], fun n => by simp [orR, memR_nil]⟩
 | r :: a, b, ha, ia, hb, ib => by
  obtain ⟨h1, h2, h3, h4⟩ := orR_all a b (fun x hx => ha x (by simp [hx])) (fun x hx => ia x (by simp [hx])) hb ib;have hr := ha r (by simp);refine ⟨?_, insR_i64 _ r (ia r (by simp)) h2, ?_, fun n => ?_⟩
  ·obtain ⟨c, hc⟩ := rightR_lt h1;exact rightFrom_right (insR_right (orR a b) r (min c (r.1 - 1)) hr (by omega) (rightFrom_mono hc (by omega)))
  ·have := insR_len (orR a b) r;show (insR r (orR a b)).length ≤ _
   simp; omega
  ·show memR (insR r (orR a b)) n ↔ _;rw [insR_mem _ r hr h1 n, h4 n, memR_cons, or_assoc]
theorem rightR_le {l : List Rg} (h : rightR l) : ∀ r ∈ l, r.1 ≤ r.2 := by
 have aux : ∀ (l : List Rg) (b : Int), rightFrom b l → ∀ r ∈ l, r.1 ≤ r.2 := by
  intro l
  induction l with
  | nil => intro b _ r hr; simp at hr
  | cons q l ih =>
   intro b ⟨_, h1, h2⟩ r hr;rcases List.mem_cons.1 hr with rfl | hr
   ·exact h1
   ·exact ih _ h2 r hr
 obtain ⟨b, hb⟩ := rightR_lt h;exact aux l b hb
def insS (s : ByteArray) : List ByteArray → List ByteArray
 | [] => [s]
 | t :: l => if Op.bytesLess s.toList t.toList then s :: t :: l else if Op.bytesLess t.toList s.toList then t :: insS s l else t :: l
def orS : List ByteArray → List ByteArray → List ByteArray
 | [], b => b
 | s :: a, b => insS s (orS a b)
theorem insS_mem : ∀ (l : List ByteArray) (s x : ByteArray), x ∈ insS s l ↔ x = s ∨ x ∈ l
 | [], s, x => by simp [insS]
 | t :: l, s, x => by
  unfold insS
  split
  ·simp
  ·split
   ·rw [List.mem_cons, insS_mem l s x, List.mem_cons]
    constructor
    ·rintro (a | a | a) <;> simp [a]
    ·rintro (a | a | a) <;> simp [a]
   ·rename_i h1 h2
    have e : s = t := by
     rcases lessB_tri s.toList t.toList with h | h | h
     ·exact absurd h h1
     ·exact toList_inj h
     ·exact absurd h h2
    rw [List.mem_cons]
    constructor
    ·exact fun h => Or.inr h
    ·rintro (h | h)
     ·left; rw [h, e]
     ·exact h
theorem insS_rises : ∀ (l : List ByteArray) (s : ByteArray), risesS (l.map fun b => b.toList) → risesS ((insS s l).map fun b => b.toList)
 | [], s, _ => by simp [insS, risesS]
 | t :: l, s, ⟨h1, h2⟩ => by
  unfold insS
  split
  ·rename_i h
   refine ⟨fun b hb => ?_, h1, h2⟩;rcases List.mem_cons.1 hb with rfl | hb
   ·exact h
   ·exact lessB_trans _ _ _ h (h1 b hb)
  ·split
   ·rename_i h
    refine ⟨fun b hb => ?_, insS_rises l s h2⟩;obtain ⟨x, hx, rfl⟩ := List.mem_map.1 hb;rcases (insS_mem l s x).1 hx with rfl | hx
    ·exact h
    ·exact h1 _ (List.mem_map.2 ⟨x, hx, rfl⟩)
   ·exact ⟨h1, h2⟩
theorem insS_len : ∀ (l : List ByteArray) (s : ByteArray), (insS s l).length ≤ l.length + 1
 | [], s => by simp [insS]
 | t :: l, s => by
  unfold insS
  split
  ·simp
  ·split
   ·have := insS_len l s; simp; omega
   ·simp
theorem orS_all : ∀ (a b : List ByteArray), (∀ s ∈ a, s.size ≤ 8) → rightS b → rightS (orS a b) ∧ (orS a b).length ≤ a.length + b.length ∧ ∀ x, x ∈ orS a b ↔ x ∈ a ∨ x ∈ b
 | [], b, _, hb => ⟨hb, by simp [orS], fun x => by simp [orS]⟩
 | s :: a, b, ha, hb => by
  obtain ⟨h1, h2, h3⟩ := orS_all a b (fun x hx => ha x (by simp [hx])) hb;have hm : ∀ x, x ∈ orS (s :: a) b ↔ x ∈ s :: a ∨ x ∈ b := fun x => by
   show x ∈ insS s (orS a b) ↔ _;rw [insS_mem, h3, List.mem_cons, or_assoc]
  refine ⟨⟨fun x hx => ?_, insS_rises _ s h1.2⟩, ?_, hm⟩
  ·rcases (hm x).1 hx with hx | hx
   ·exact ha x hx
   ·exact hb.1 x hx
  ·have := insS_len (orS a b) s;show (insS s (orS a b)).length ≤ _
   simp; omega
theorem filter_rises : ∀ (l : List ByteArray) (p : ByteArray → Bool), risesS (l.map fun b => b.toList) → risesS ((l.filter p).map fun b => b.toList)
 | [], p, _ => by simp [risesS]
 | t :: l, p, ⟨h1, h2⟩ => by
  rw [List.filter_cons]
  split
  ·refine ⟨fun b hb => ?_, filter_rises l p h2⟩;obtain ⟨x, hx, rfl⟩ := List.mem_map.1 hb;exact h1 _ (List.mem_map.2 ⟨x, (List.mem_filter.1 hx).1, rfl⟩)
  ·exact filter_rises l p h2
theorem filter_right (l : List ByteArray) (p : ByteArray → Bool) (h : rightS l) : rightS (l.filter p) := ⟨fun s hs => h.1 s (List.mem_filter.1 hs).1, filter_rises l p h.2⟩
def allV : SetV := ⟨true, [(-9223372036854775808, 9223372036854775807)], true, []⟩
def notV (S : SetV) : SetV := ⟨!S.absent, notR (-9223372036854775808) S.ints, !S.co, S.strs⟩
def orStr (A B : SetV) : List ByteArray :=
 if A.co then (if B.co then A.strs.filter (fun s => inStrsB B.strs s) else A.strs.filter (fun s => !inStrsB B.strs s))
 else (if B.co then B.strs.filter (fun s => !inStrsB A.strs s) else orS A.strs B.strs)
def orV (A B : SetV) : SetV := ⟨A.absent || B.absent, orR A.ints B.ints, A.co || B.co, orStr A B⟩
def andV (A B : SetV) : SetV := notV (orV (notV A) (notV B))
structure Good (S : SetV) : Prop where
 r : rightSet S = true
 i : inI64 S.ints
theorem Good.ri {S : SetV} (h : Good S) : rightR S.ints := ((rightSet_iff S).1 h.r).1
theorem Good.rs {S : SetV} (h : Good S) : rightS S.strs := ((rightSet_iff S).1 h.r).2
theorem rightR_low {l : List Rg} (h : rightR l) (hi : inI64 l) : rightFrom (-9223372036854775808 - 1) l := by
 cases l with
 | nil => trivial
 | cons r l => exact ⟨by have := hi r (by simp); omega, h.1, h.2⟩
theorem notV_good {S : SetV} (h : Good S) : Good (notV S) := by
 obtain ⟨h1, h2, _⟩ := notR_right S.ints (-9223372036854775808) (rightR_low h.ri h.i) h.i (by omega);exact ⟨(rightSet_iff _).2 ⟨rightFrom_right (h1 (-9223372036854775809) (by omega)), h.rs⟩, h2⟩
theorem notV_len (S : SetV) (h : Good S) : (notV S).ints.length ≤ S.ints.length + 1 ∧ (notV S).strs.length = S.strs.length :=
 ⟨(notR_right S.ints (-9223372036854775808) (rightR_low h.ri h.i) h.i (by omega)).2.2, rfl⟩
theorem bool_of_iff {a b : Bool} (h : a = true ↔ b = true) : a = b := by
 cases a <;> cases b <;> simp at h ⊢
theorem notV_has {S : SetV} (h : Good S) (p : Va) (b0 : -9223372036854775808 ≤ p.2.1) (b1 : p.2.1 ≤ 9223372036854775807) : hasP (notV S) p = (rightB p.1 p.2.1 p.2.2 && !hasP S p) := by
 by_cases hp : rightV p
 ·have hp' : rightB p.1 p.2.1 p.2.2 = true := hp;rw [hp', Bool.true_and];rcases rightV_cases hp with rfl | ⟨n, rfl⟩ | ⟨s, hs, rfl⟩
  ·rw [has_abs, has_abs]; rfl
  ·rw [has_num, has_num];refine bool_of_iff ?_;rw [inInts_iff];show memR (notR _ S.ints) n ↔ _;rw [notR_mem S.ints _ (rightR_low h.ri h.i) h.i n, ← inInts_iff];dsimp only at b0 b1
   simp [b0, b1]
  ·rw [has_str _ hs, has_str _ hs];show (inStrsB S.strs s != !S.co) = !(inStrsB S.strs s != S.co);cases inStrsB S.strs s <;> cases S.co <;> rfl
 ·rw [has_wrong _ hp, has_wrong _ hp];have : rightB p.1 p.2.1 p.2.2 = false := by
   cases e : rightB p.1 p.2.1 p.2.2
   ·rfl
   ·exact absurd e hp
  rw [this]; rfl
theorem orV_good {A B : SetV} (hA : Good A) (hB : Good B) : Good (orV A B) := by
 obtain ⟨h1, h2, _, _⟩ := orR_all A.ints B.ints (rightR_le hA.ri) hA.i hB.ri hB.i;refine ⟨(rightSet_iff _).2 ⟨h1, ?_⟩, h2⟩;show rightS (orStr A B);unfold orStr
 split
 ·split
  ·exact filter_right _ _ hA.rs
  ·exact filter_right _ _ hA.rs
 ·split
  ·exact filter_right _ _ hB.rs
  ·exact (orS_all A.strs B.strs hA.rs.1 hB.rs).1
theorem orV_len {A B : SetV} (hA : Good A) (hB : Good B) : (orV A B).ints.length ≤ A.ints.length + B.ints.length ∧ (orV A B).strs.length ≤ A.strs.length + B.strs.length := by
 refine ⟨(orR_all A.ints B.ints (rightR_le hA.ri) hA.i hB.ri hB.i).2.2.1, ?_⟩;show (orStr A B).length ≤ _;unfold orStr
 split
 ·split
  ·exact Nat.le_trans (List.length_filter_le _ _) (by omega)
  ·exact Nat.le_trans (List.length_filter_le _ _) (by omega)
 ·split
  ·exact Nat.le_trans (List.length_filter_le _ _) (by omega)
  ·exact (orS_all A.strs B.strs hA.rs.1 hB.rs).2.1
theorem inStrs_filter (l : List ByteArray) (p : ByteArray → Bool) (s : ByteArray) : inStrsB (l.filter p) s = (inStrsB l s && p s) := by
 refine bool_of_iff ?_;rw [inStrs_iff, List.mem_filter, Bool.and_eq_true, inStrs_iff]
theorem orV_has {A B : SetV} (hA : Good A) (hB : Good B) (p : Va) : hasP (orV A B) p = (hasP A p || hasP B p) := by
 by_cases hp : rightV p
 ·rcases rightV_cases hp with rfl | ⟨n, rfl⟩ | ⟨s, hs, rfl⟩
  ·rw [has_abs, has_abs, has_abs]; rfl
  ·rw [has_num, has_num, has_num];refine bool_of_iff ?_;rw [inInts_iff, Bool.or_eq_true, inInts_iff, inInts_iff];exact (orR_all A.ints B.ints (rightR_le hA.ri) hA.i hB.ri hB.i).2.2.2 n
  ·rw [has_str _ hs, has_str _ hs, has_str _ hs];show (inStrsB (orStr A B) s != (A.co || B.co)) = _;have hor : inStrsB (orS A.strs B.strs) s = (inStrsB A.strs s || inStrsB B.strs s) := by
    refine bool_of_iff ?_;rw [inStrs_iff, Bool.or_eq_true, inStrs_iff, inStrs_iff];exact (orS_all A.strs B.strs hA.rs.1 hB.rs).2.2 s
   unfold orStr;cases hAc : A.co <;> cases hBc : B.co <;> simp only [if_true, if_false, Bool.false_eq_true, hor, inStrs_filter] <;> cases inStrsB A.strs s <;> cases inStrsB B.strs s <;> rfl
 ·rw [has_wrong _ hp, has_wrong _ hp, has_wrong _ hp]; rfl
theorem andV_good {A B : SetV} (hA : Good A) (hB : Good B) : Good (andV A B) := notV_good (orV_good (notV_good hA) (notV_good hB))
theorem andV_len {A B : SetV} (hA : Good A) (hB : Good B) : (andV A B).ints.length ≤ A.ints.length + B.ints.length + 3 ∧ (andV A B).strs.length ≤ A.strs.length + B.strs.length := by
 have h1 := notV_len A hA;have h2 := notV_len B hB;have h3 := orV_len (notV_good hA) (notV_good hB);have h4 := notV_len _ (orV_good (notV_good hA) (notV_good hB));unfold andV;omega
theorem andV_has {A B : SetV} (hA : Good A) (hB : Good B) (p : Va) (b0 : -9223372036854775808 ≤ p.2.1) (b1 : p.2.1 ≤ 9223372036854775807) : hasP (andV A B) p = (hasP A p && hasP B p) := by
 unfold andV;rw [notV_has (orV_good (notV_good hA) (notV_good hB)) p b0 b1, orV_has (notV_good hA) (notV_good hB), notV_has hA p b0 b1, notV_has hB p b0 b1];by_cases hp : rightV p
 ·have hp' : rightB p.1 p.2.1 p.2.2 = true := hp;rw [hp'];cases hasP A p <;> cases hasP B p <;> rfl
 ·rw [has_wrong A hp, has_wrong B hp];cases rightB p.1 p.2.1 p.2.2 <;> rfl
theorem allV_good : Good allV := ⟨by rfl, fun r hr => by simp [allV] at hr; rw [hr]; dsimp only; omega⟩
end Go.Proofs.YtlkcjhcmkaddaaaGreat
namespace Go.Proofs.YtlkcjhcmkaddaaaGreat
open Go.RowKit
def emptyB (S : SetV) : Bool := ((!S.absent && S.ints.isEmpty) && !S.co) && S.strs.isEmpty
def inB (A B : SetV) : Bool := sameB (andV A B) A
structure Fit (S : SetV) : Prop where
 good : Good S
 ni : S.ints.length ≤ 1000
 ns : S.strs.length ≤ 1000
structure SetProg : Prop where
 all : ∀ w : World, Calls Tryz.prog 68 #[] w fun r w' => (∃ u, r = .returned u ∧ SetAt w' u allV) ∧ Below w.heap.size w w'
 not : ∀ (v : Value) (S : SetV) (w : World), SetAt w v S → Fit S → Calls Tryz.prog 67 #[v] w fun r w' => (∃ u, r = .returned u ∧ SetAt w' u (notV S)) ∧ Below w.heap.size w w'
 and : ∀ (v u : Value) (A B : SetV) (w : World), SetAt w v A → SetAt w u B → Fit A → Fit B → Calls Tryz.prog 91 #[v, u] w fun r w' => (∃ x, r = .returned x ∧ SetAt w' x (andV A B)) ∧ Below w.heap.size w w'
 in_ : ∀ (v u : Value) (A B : SetV) (w : World), SetAt w v A → SetAt w u B → Fit A → Fit B → Calls Tryz.prog 101 #[v, u] w fun r w' => r = .returned (.bool (inB A B)) ∧ Below w.heap.size w w'
 empty : ∀ (v : Value) (S : SetV) (w : World), SetAt w v S → Fit S → Calls Tryz.prog 84 #[v] w fun r w' => r = .returned (.bool (emptyB S)) ∧ Below w.heap.size w w'
 same : ∀ (v u : Value) (A B : SetV) (w : World), SetAt w v A → SetAt w u B → Fit A → Fit B → Calls Tryz.prog 83 #[v, u] w fun r w' => r = .returned (.bool (sameB A B)) ∧ Below w.heap.size w w'
 has : ∀ (v : Value) (S : SetV) (k n : Int) (s : ByteArray) (w : World), SetAt w v S → Fit S → -9223372036854775808 ≤ n → n ≤ 9223372036854775807 → s.size ≤ maxLen → Calls Tryz.prog 55 #[v, .agg #[.int .i64 k, .int .i64 n, .string s]] w fun r w' => r = .returned (.bool (hasB S k n s)) ∧ Below w.heap.size w w'
theorem rngs_none (w : World) : RngsAt w (.slice none 0 0) [] := ⟨fun _ h => by simp at h, by simp, none, 0, rfl, fun i hi => by simp at hi⟩
theorem strs_none (w : World) : StrsAt w (.slice none 0 0) [] := ⟨fun _ h => by simp at h, by simp, none, 0, rfl, fun i hi => by simp at hi⟩
theorem rngs_new (w : World) (cs : Array Value) (l : List Rg) (h : cs.toList = rgCells l) (hi : inI64 l) (hl : l.length ≤ 1000) (n : Nat) (hn : n = w.heap.size) (k c : Nat) (hk : k = l.length) (hkc : k ≤ c := by omega) : RngsAt (w.alloc (.cells cs 58)) (.slice (some ⟨n, 0, none⟩) k c) l := by
 subst hn hk;obtain ⟨sp, rfl⟩ := capOf_of (a := some ⟨w.heap.size, 0, none⟩) hkc (fun e => by cases e);refine ⟨hi, by omega, _, sp, rfl, fun i hi' => ⟨_, 0, rfl, by show _ < (w.heap.push _).size; simp, ?_, ?_⟩⟩
 ·rw [cell_heap (heap_new w _), ← (rgCells_at l i hi').1, ← h]; simp
 ·rw [cell_heap (heap_new w _), ← (rgCells_at l i hi').2, ← h]; simp
theorem OwnR.rngs {w : World} {B : Nat} {v : Value} {l : List Rg} (h : OwnR w B v l) (hi : inI64 l) (hl : l.length ≤ 9223372036854775807) : RngsAt w v l := by
 refine ⟨hi, hl, ?_⟩;rcases h.2 with ⟨e, h0⟩ | ⟨g, cap, cur, e, _, hg, hc, _⟩
 ·exact ⟨none, 0, by rw [e, h0]; rfl, fun i hi' => by omega⟩
 ·obtain ⟨sp, hsp⟩ := capOf_of (a := some ⟨g, 0, none⟩) hc (fun e => by cases e);subst e;refine ⟨_, sp, by rw [← hsp], fun i hi' => ⟨g, 0, rfl, lt_heap hg, ?_, ?_⟩⟩
  ·rw [Nat.zero_add]; exact (h.at i hi').1
  ·rw [Nat.zero_add]; exact (h.at i hi').2
theorem noSet_at (w : World) : SetAt w (.agg #[.bool false, .slice none 0 0, .bool false, .slice none 0 0]) noSet := ⟨_, _, rfl, rngs_none w, strs_none w⟩
theorem noSet_good : Good noSet := ⟨rfl, fun _ h => by simp [noSet] at h⟩
end Go.Proofs.YtlkcjhcmkaddaaaGreat
namespace Go.Proofs.YtlkcjhcmkaddaaaGreat
theorem good_ext {A B : SetV} (hA : Good A) (hB : Good B) (hn : A.strs.length + B.strs.length < 100000)
  (h : ∀ p : Va, -9223372036854775808 ≤ p.2.1 → p.2.1 ≤ 9223372036854775807 → hasP A p = hasP B p) : A = B := set_ext A B hA.r hB.r hA.i hB.i hn h
theorem has_right {S : SetV} {p : Va} (h : hasP S p = true) : rightB p.1 p.2.1 p.2.2 = true := by
 cases e : rightB p.1 p.2.1 p.2.2
 ·have : ¬ rightV p := fun hp => by
   have hp' : rightB p.1 p.2.1 p.2.2 = true := hp;rw [e] at hp'; simp at hp'
  rw [has_wrong S this] at h; simp at h
 ·rfl
theorem inB_iff {A B : SetV} (hA : Good A) (hB : Good B) (hn : A.strs.length + A.strs.length + B.strs.length < 100000) : inB A B = true ↔ inSet A B := by
 unfold inB;rw [sameB_iff]
 constructor
 ·intro h p b0 b1 ha;have e := andV_has hA hB p b0 b1;rw [h, ha] at e
  simpa using e.symm
 ·intro h;have l := (andV_len hA hB).2;refine good_ext (andV_good hA hB) hA (by omega) fun p b0 b1 => ?_
  rw [andV_has hA hB p b0 b1];cases e : hasP A p
  ·rfl
  ·rw [h p b0 b1 e]; rfl
end Go.Proofs.YtlkcjhcmkaddaaaGreat
namespace Go.Proofs.YtlkcjhcmkaddaaaGreat
open Go.RowKit
theorem ownR_empty (w : World) : OwnR (w.alloc (.cells #[] 58)) w.heap.size (.slice (some ⟨w.heap.size, 0, none⟩) 0 0) [] :=
 ⟨rfl, Or.inr ⟨w.heap.size, 0, #[], rfl, Nat.le_refl _, heap_top _ _, Nat.le_refl _, by unfold maxLen; omega, rfl, rfl⟩⟩
theorem wpList_appRow {ops : Array Oper} {rest : List Oper} {o : Oper} {a : Act} {Q : Exit → Act → World → Prop} (w : World) (hgd : o.guard = none) (s x : Operand)
  (ho : o.op = .call { callee := .builtin .append, args := #[s, x], argTypes := #[22, 22] })
  (B : Nat) (v u : Value) (l m : List Rg) (hs : a.eval s = v) (hown : OwnR w B v l) (hu : a.eval x = u) (hx : RngsAt w u m) (hnil : ∀ n c, u = .slice none n c → u = .slice none 0 0) (hlen : l.length + m.length ≤ 1000000) (hB : B ≤ w.heap.size)
  (h : ∀ v' w', OwnR w' B v' (l ++ m) → Below B w w' → wpList Tryz.prog ops Q rest (a.put o.dst v') w') : wpList Tryz.prog ops Q (o :: rest) a w := by
 obtain ⟨i0, hi, hz0, hz1, hz2⟩ := info_parts infoRg;obtain ⟨_, _, ad, cap, rfl, hel⟩ := hx;cases ad with
 | none =>
  have hm : m = [] := by
   cases m with
   | nil => rfl
   | cons r m =>
    obtain ⟨b, off, e, _⟩ := hel 0 (by simp);cases e
  subst hm;refine wpList_append_own_none hgd s x 22 ho B 58 i0 2 Tryz.underlying22 hi v l.length (rgCells l) hs hown (hu.trans (hnil _ _ rfl)) ?_;refine h v w ?_ (Below.refl _ _);rw [List.append_nil]; exact hown
 | some ad =>
  refine wpList_append_own w hgd s x 22 ho B 58 i0 _ 2 16 Tryz.underlying22 hi hz0 hz1 hz2 rfl (by decide) v l.length (rgCells l) hs hown ad m.length _ (rgCells m) hu (by rw [rgCells_len]) ?_ (rgCells_one _) (by unfold maxLen; omega) (by omega) hB ?_
  ·intro j u hj;have hjl : j < m.length * 2 := by
    have := (List.getElem?_eq_some_iff.1 hj).1
    rwa [rgCells_len] at this
   obtain ⟨b, off, e, _, c0, c1⟩ := hel (j / 2) (by omega);obtain ⟨a0, a1⟩ := rgCells_at m (j / 2) (by omega)
   simp at e
   subst e;rw [Go.WideShapes.add_plain];rcases Nat.mod_two_eq_zero_or_one j with hm | hm
   ·rw [show off + j = off + j / 2 * 2 by omega, c0, ← a0, ← hj];exact congrArg (fun k => (rgCells m)[k]?) (by omega)
   ·rw [show off + j = off + j / 2 * 2 + 1 by omega, c1, ← a1, ← hj];exact congrArg (fun k => (rgCells m)[k]?) (by omega)
  ·intro v' w' h1 h2 _;refine h v' w' ?_ (OwnR.grownB hown hB h2);unfold OwnR;rw [List.length_append, rgCells_append];exact h1
end Go.Proofs.YtlkcjhcmkaddaaaGreat
namespace Go.Proofs.YtlkcjhcmkaddaaaGreat
open Go.RowKit
structure Two (w0 w : World) (o1 o2 : Obj) : Prop where
 e1 : w.heap[w0.heap.size]? = some o1
 e2 : w.heap[w0.heap.size + 1]? = some o2
 b : Below w0.heap.size w0 w
theorem Two.on {w0 w w' : World} {o1 o2 : Obj} (h : Two w0 w o1 o2) (hb : Below w.heap.size w w') : Two w0 w' o1 o2 :=
 ⟨(hb.block _ (lt_heap h.e1)).trans h.e1, (hb.block _ (lt_heap h.e2)).trans h.e2, h.b.trans (hb.mono h.b.size)⟩
theorem Two.start (w : World) (o1 o2 : Obj) : Two w ((w.alloc o1).alloc o2) o1 o2 := ⟨(two_bx w o1 o2).1, (two_bx w o1 o2).2.1, (two_bx w o1 o2).2.2⟩
theorem Two.al {w0 w : World} {o1 o2 : Obj} (h : Two w0 w o1 o2) (x : Obj) : Two w0 (w.alloc x) o1 o2 := h.on ((Below.refl _ w).alloc (Nat.le_refl _) x)
theorem sets_one {w : World} {A : SetV} {vi vs : Value} (hv : SetAt w (.agg #[.bool A.absent, vi, .bool A.co, vs]) A) (n : Nat) (hn : n = w.heap.size) :
  SetsAt (w.alloc (.cells #[.bool A.absent, vi, .bool A.co, vs] 25)) (.slice (some ⟨n, 0, none⟩) 1 1) [A] := by
 subst hn;obtain ⟨vi', vs', ev', hI, hS⟩ := hv
 simp at ev'
 obtain ⟨rfl, rfl⟩ := ev';have hb := (Below.refl _ w).alloc (Nat.le_refl _) (.cells #[.bool A.absent, vi, .bool A.co, vs] 25);have hs : w.heap.size < (w.alloc (.cells #[.bool A.absent, vi, .bool A.co, vs] 25)).heap.size := by show _ < (w.heap.push _).size; simp
 refine ⟨by simp, _, 1, rfl, fun i hi => ?_⟩;have hc := fun j => cell_heap (heap_new w (.cells #[.bool A.absent, vi, .bool A.co, vs] 25)) j
 match i, hi with
 | 0, _ => exact ⟨_, 0, vi, vs, rfl, hs, hc 0, hc 1, hc 2, hc 3, hI.on hb, hS.on hb⟩
theorem setCells {w : World} {b : Nat} {x0 x1 x2 x3 : Value} {t : TypeId} (h : w.heap[b]? = some (.cells #[x0, x1, x2, x3] t (0, 0))) : w.cell? ⟨b, 0, none⟩ = some x0 ∧ w.cell? ⟨b, 1, none⟩ = some x1 ∧ w.cell? ⟨b, 2, none⟩ = some x2 ∧ w.cell? ⟨b, 3, none⟩ = some x3 :=
 ⟨cell_heap h 0, cell_heap h 1, cell_heap h 2, cell_heap h 3⟩
end Go.Proofs.YtlkcjhcmkaddaaaGreat
namespace Go.Proofs.YtlkcjhcmkaddaaaGreat
structure BoxV where
 s0 : SetV
 s1 : SetV
 s2 : SetV
 s3 : SetV
structure EvV where
 v0 : Va
 v1 : Va
 v2 : Va
 v3 : Va
def BoxV.get (b : BoxV) : Nat → SetV
 | 0 => b.s0
 | 1 => b.s1
 | 2 => b.s2
 | _ => b.s3
def EvV.get (e : EvV) : Nat → Va
 | 0 => e.v0
 | 1 => e.v1
 | 2 => e.v2
 | _ => e.v3
def BoxV.put (b : BoxV) (i : Nat) (s : SetV) : BoxV := match i with
 | 0 => { b with s0 := s }
 | 1 => { b with s1 := s }
 | 2 => { b with s2 := s }
 | 3 => { b with s3 := s }
 | _ => b
def EvV.put (e : EvV) (i : Nat) (p : Va) : EvV := match i with
 | 0 => { e with v0 := p }
 | 1 => { e with v1 := p }
 | 2 => { e with v2 := p }
 | 3 => { e with v3 := p }
 | _ => e
theorem BoxV.get_put (b : BoxV) (i j : Nat) (s : SetV) (hi : i < 4) (hj : j < 4) : (b.put i s).get j = if j = i then s else b.get j := by
 match i, hi, j, hj with
 | 0, _, 0, _ => rfl
 | 0, _, 1, _ => rfl
 | 0, _, 2, _ => rfl
 | 0, _, 3, _ => rfl
 | 1, _, 0, _ => rfl
 | 1, _, 1, _ => rfl
 | 1, _, 2, _ => rfl
 | 1, _, 3, _ => rfl
 | 2, _, 0, _ => rfl
 | 2, _, 1, _ => rfl
 | 2, _, 2, _ => rfl
 | 2, _, 3, _ => rfl
 | 3, _, 0, _ => rfl
 | 3, _, 1, _ => rfl
 | 3, _, 2, _ => rfl
 | 3, _, 3, _ => rfl
theorem EvV.get_put (e : EvV) (i j : Nat) (p : Va) (hi : i < 4) (hj : j < 4) : (e.put i p).get j = if j = i then p else e.get j := by
 match i, hi, j, hj with
 | 0, _, 0, _ => rfl
 | 0, _, 1, _ => rfl
 | 0, _, 2, _ => rfl
 | 0, _, 3, _ => rfl
 | 1, _, 0, _ => rfl
 | 1, _, 1, _ => rfl
 | 1, _, 2, _ => rfl
 | 1, _, 3, _ => rfl
 | 2, _, 0, _ => rfl
 | 2, _, 1, _ => rfl
 | 2, _, 2, _ => rfl
 | 2, _, 3, _ => rfl
 | 3, _, 0, _ => rfl
 | 3, _, 1, _ => rfl
 | 3, _, 2, _ => rfl
 | 3, _, 3, _ => rfl
def all4 (f : Nat → Bool) : Bool := ((f 0 && f 1) && f 2) && f 3
theorem all4_iff (f : Nat → Bool) : all4 f = true ↔ ∀ i, i < 4 → f i = true := by
 unfold all4;rw [Bool.and_eq_true, Bool.and_eq_true, Bool.and_eq_true]
 constructor
 ·rintro ⟨⟨⟨h0, h1⟩, h2⟩, h3⟩ i hi
  match i, hi with
  | 0, _ => exact h0
  | 1, _ => exact h1
  | 2, _ => exact h2
  | 3, _ => exact h3
 ·intro h;exact ⟨⟨⟨h 0 (by omega), h 1 (by omega)⟩, h 2 (by omega)⟩, h 3 (by omega)⟩
structure GoodB (b : BoxV) : Prop where
 g : ∀ i, i < 4 → Good (b.get i)
 l : ∀ i, i < 4 → (b.get i).strs.length ≤ 1000
def inE (e : EvV) : Prop := ∀ i, i < 4 → -9223372036854775808 ≤ (e.get i).2.1 ∧ (e.get i).2.1 ≤ 9223372036854775807
def hasE (b : BoxV) (e : EvV) : Bool := all4 fun i => hasP (b.get i) (e.get i)
def emptyBx (b : BoxV) : Bool := !all4 fun i => !emptyB (b.get i)
def inBx (a b : BoxV) : Bool := emptyBx a || all4 fun i => inB (a.get i) (b.get i)
def sameBx (a b : BoxV) : Bool := all4 fun i => sameB (a.get i) (b.get i)
def andBx (a b : BoxV) : BoxV := ⟨andV a.s0 b.s0, andV a.s1 b.s1, andV a.s2 b.s2, andV a.s3 b.s3⟩
def allBx : BoxV := ⟨allV, allV, allV, allV⟩
theorem andBx_get (a b : BoxV) (i : Nat) (hi : i < 4) : (andBx a b).get i = andV (a.get i) (b.get i) := by
 match i, hi with
 | 0, _ => rfl
 | 1, _ => rfl
 | 2, _ => rfl
 | 3, _ => rfl
theorem allBx_get (i : Nat) : allBx.get i = allV := by
 match i with
 | 0 => rfl
 | 1 => rfl
 | 2 => rfl
 | _ + 3 => rfl
theorem hasE_iff (b : BoxV) (e : EvV) : hasE b e = true ↔ ∀ i, i < 4 → hasP (b.get i) (e.get i) = true := all4_iff _
theorem emptyBx_iff (b : BoxV) : emptyBx b = false ↔ ∀ i, i < 4 → emptyB (b.get i) = false := by
 unfold emptyBx;rw [Bool.not_eq_false', all4_iff]
 constructor
 ·intro h i hi; simpa using h i hi
 ·intro h i hi; simpa using h i hi
theorem noSet_has (p : Va) : hasP noSet p = false := by
 cases hn : hasP noSet p
 ·rfl
 ·exfalso
  rcases rightV_cases (has_right hn) with e | ⟨n, e⟩ | ⟨s, hs, e⟩
  ·rw [e, has_abs] at hn; exact absurd hn (by simp [noSet])
  ·rw [e, has_num] at hn; exact absurd hn (by simp [noSet, inIntsB])
  ·rw [e, has_str _ hs] at hn; exact absurd hn (by simp [noSet, inStrsB])
theorem empty_iff (S : SetV) : emptyB S = true ↔ S = noSet := by
 rw [← sameB_iff];obtain ⟨xa, xi, xc, xs⟩ := S;cases xa <;> cases xi <;> cases xc <;> cases xs <;> simp [emptyB, sameB, noSet, rngEqB, strEqB]
theorem some_has {S : SetV} (h : Good S) (l : S.strs.length ≤ 1000) (hne : emptyB S = false) : ∃ p : Va, -9223372036854775808 ≤ p.2.1 ∧ p.2.1 ≤ 9223372036854775807 ∧ hasP S p = true := by
 refine Classical.byContradiction fun hno => ?_
 have : S = noSet := good_ext h noSet_good (by simp [noSet]; omega) (fun p b0 b1 => by
  rw [noSet_has];cases hp : hasP S p
  ·rfl
  ·exact absurd ⟨p, b0, b1, hp⟩ hno)
 rw [(empty_iff S).2 this] at hne;cases hne
theorem inB_has {A B : SetV} (hA : Good A) (hB : Good B) (lA : A.strs.length ≤ 1000) (lB : B.strs.length ≤ 1000) : inB A B = true ↔ ∀ p : Va, -9223372036854775808 ≤ p.2.1 → p.2.1 ≤ 9223372036854775807 → hasP A p = true → hasP B p = true :=
 inB_iff hA hB (by omega)
theorem inBx_iff {a b : BoxV} (ha : GoodB a) (hb : GoodB b) : inBx a b = true ↔ ∀ e, inE e → hasE a e = true → hasE b e = true := by
 unfold inBx;cases he : emptyBx a
 ·rw [Bool.false_or, all4_iff];have hne := (emptyBx_iff a).1 he
  constructor
  ·intro h e hr hh;rw [hasE_iff] at hh ⊢;exact fun i hi => (inB_has (ha.g i hi) (hb.g i hi) (ha.l i hi) (hb.l i hi)).1 (h i hi) _ (hr i hi).1 (hr i hi).2 (hh i hi)
  ·intro h i hi;refine (inB_has (ha.g i hi) (hb.g i hi) (ha.l i hi) (hb.l i hi)).2 fun p p0 p1 hp => ?_
   obtain ⟨q0, x0, y0, z0⟩ := some_has (ha.g 0 (by omega)) (ha.l 0 (by omega)) (hne 0 (by omega));obtain ⟨q1, x1, y1, z1⟩ := some_has (ha.g 1 (by omega)) (ha.l 1 (by omega)) (hne 1 (by omega));obtain ⟨q2, x2, y2, z2⟩ := some_has (ha.g 2 (by omega)) (ha.l 2 (by omega)) (hne 2 (by omega));obtain ⟨q3, x3, y3, z3⟩ := some_has (ha.g 3 (by omega)) (ha.l 3 (by omega)) (hne 3 (by omega));have hq : ∀ j, j < 4 → (-9223372036854775808 ≤ ((⟨q0, q1, q2, q3⟩ : EvV).get j).2.1 ∧ ((⟨q0, q1, q2, q3⟩ : EvV).get j).2.1 ≤ 9223372036854775807) ∧ hasP (a.get j) ((⟨q0, q1, q2, q3⟩ : EvV).get j) = true := fun j hj => by
    match j, hj with
    | 0, _ => exact ⟨⟨x0, y0⟩, z0⟩
    | 1, _ => exact ⟨⟨x1, y1⟩, z1⟩
    | 2, _ => exact ⟨⟨x2, y2⟩, z2⟩
    | 3, _ => exact ⟨⟨x3, y3⟩, z3⟩
   generalize (⟨q0, q1, q2, q3⟩ : EvV) = e at hq;have h1 := h (e.put i p) (fun j hj => by
    rw [EvV.get_put e i j p hi hj]
    split
    ·exact ⟨p0, p1⟩
    ·exact (hq j hj).1) ((hasE_iff _ _).2 fun j hj => by
    rw [EvV.get_put e i j p hi hj]
    split
    ·rename_i e'; subst e'; exact hp
    ·exact (hq j hj).2)
   have h2 := (hasE_iff _ _).1 h1 i hi;rw [EvV.get_put e i i p hi hi, if_pos rfl] at h2;exact h2
 ·rw [Bool.true_or];refine ⟨fun _ e hr hh => ?_, fun _ => rfl⟩
  exfalso
  have : ¬ emptyBx a = false := by rw [he]; simp
  refine this ((emptyBx_iff a).2 fun i hi => ?_);cases hx : emptyB (a.get i)
  ·rfl
  ·have h1 := (hasE_iff _ _).1 hh i hi;rw [(empty_iff _).1 hx, noSet_has] at h1;cases h1
theorem andBx_good {a b : BoxV} (ha : GoodB a) (hb : GoodB b) (la : ∀ i, i < 4 → (a.get i).strs.length ≤ 400) (lb : ∀ i, i < 4 → (b.get i).strs.length ≤ 400) : GoodB (andBx a b) := by
 refine ⟨fun i hi => ?_, fun i hi => ?_⟩
 ·rw [andBx_get a b i hi]; exact andV_good (ha.g i hi) (hb.g i hi)
 ·rw [andBx_get a b i hi];have := (andV_len (ha.g i hi) (hb.g i hi)).2;have := la i hi;have := lb i hi;omega
theorem put_good {a : BoxV} (ha : GoodB a) {i : Nat} (hi : i < 4) {s : SetV} (hs : Good s) (ls : s.strs.length ≤ 1000) : GoodB (a.put i s) := by
 refine ⟨fun j hj => ?_, fun j hj => ?_⟩
 ·rw [BoxV.get_put _ _ _ _ hi hj]; split
  ·exact hs
  ·exact ha.g j hj
 ·rw [BoxV.get_put _ _ _ _ hi hj]; split
  ·exact ls
  ·exact ha.l j hj
theorem all_good : GoodB allBx := ⟨fun i _ => by rw [allBx_get]; exact allV_good, fun i _ => by rw [allBx_get]; simp [allV]⟩
theorem inBx_refl {a : BoxV} (ha : GoodB a) : inBx a a = true := (inBx_iff ha ha).2 fun _ _ h => h
theorem inBx_trans {a b c : BoxV} (ha : GoodB a) (hb : GoodB b) (hc : GoodB c) (h1 : inBx a b = true) (h2 : inBx b c = true) : inBx a c = true :=
 (inBx_iff ha hc).2 fun e he h => (inBx_iff hb hc).1 h2 e he ((inBx_iff ha hb).1 h1 e he h)
theorem sameBx_refl (a : BoxV) : sameBx a a = true := (all4_iff _).2 fun i _ => (sameB_iff _ _).2 rfl
end Go.Proofs.YtlkcjhcmkaddaaaGreat
namespace Go.Proofs.YtlkcjhcmkaddaaaGreat
open Go.RowKit
attribute [local go_sem ↓] Go.wp_at_zero Go.wp_at_succ
set_option maxHeartbeats 400000 in
theorem refRight_any (k n : Int) (s : ByteArray) (w : World) (_hs : s.size ≤ maxLen) :
  Calls Tryz.prog 112 #[.agg #[.int .i64 k, .int .i64 n, .string s]] w fun e w' => e = .returned (.bool (rightB k n s)) ∧ Below w.heap.size w w' := by
 unfold maxLen at _hs;by_cases k0 : k = 0
 ·subst k0;by_cases hn : n = 0
  ·subst hn;go_enter Tryz.func112, Tryz.ntmps112
   go_wp2
   go_ret
   exact ⟨ret_bool (by simp [rightB]), (Below.refl _ _).alloc (Nat.le_refl _) _⟩
  ·have hn' : (n == 0) = false := by simp [hn]
   go_enter Tryz.func112, Tryz.ntmps112
   go_wp2
   go_ret
   exact ⟨ret_bool (by simp [rightB, hn]), (Below.refl _ _).alloc (Nat.le_refl _) _⟩
 have k0' : (k == 0) = false := by simp [k0]
 by_cases k1 : k = 1
 ·subst k1;go_enter Tryz.func112, Tryz.ntmps112
  go_wp2
  go_ret
  exact ⟨ret_bool (by simp [rightB]), (Below.refl _ _).alloc (Nat.le_refl _) _⟩
 have k1' : (k == 1) = false := by simp [k1]
 by_cases k2 : k = 2
 ·subst k2;by_cases hn : n = 0
  ·subst hn;go_enter Tryz.func112, Tryz.ntmps112
   go_wp2
   go_ret
   exact ⟨ret_bool (by simp [rightB]), (Below.refl _ _).alloc (Nat.le_refl _) _⟩
  ·have hn' : (n == 0) = false := by simp [hn]
   go_enter Tryz.func112, Tryz.ntmps112
   go_wp2
   go_ret
   exact ⟨ret_bool (by simp [rightB, hn]), (Below.refl _ _).alloc (Nat.le_refl _) _⟩
 have k2' : (k == 2) = false := by simp [k2]
 go_enter Tryz.func112, Tryz.ntmps112
 go_wp2
 go_ret
 exact ⟨ret_bool (by simp [rightB, k0, k1, k2]), (Below.refl _ _).alloc (Nat.le_refl _) _⟩
end Go.Proofs.YtlkcjhcmkaddaaaGreat
namespace Go.Proofs.YtlkcjhcmkaddaaaGreat
open Go.RowKit
set_option maxHeartbeats 1000000 in
set_option maxRecDepth 100000 in
theorem inInts_any (v : Value) (l : List Rg) (n : Int) (w : World) (hv : RngsAt w v l) :
  Calls Tryz.prog 113 #[v, .int .i64 n] w fun r w' => r = .returned (.bool (inIntsB l n)) ∧ w' = w := by
 have HV := hide hv;obtain ⟨_, hlen, a, cap, rfl, hel⟩ := hv;have HE := hide hel;clear hel;generalize hB : inIntsB l n = B;have HB : Hid ((l.drop 0).any (fun r => decide (r.1 ≤ n) && decide (n ≤ r.2)) = B) := hide (by rw [List.drop_zero]; exact hB);clear hB;obtain ⟨N, hN⟩ : ∃ N : Nat, N = l.length := ⟨_, rfl⟩
 rw [← hN] at hlen ⊢;have HN := hide hN;clear hN;go_enter Tryz.func113, Tryz.ntmps113
 go_wp2
 go_loopw [5] (fun i wr => ∃ k : Nat, i = .int .i64 k ∧ k ≤ N ∧ wr = w ∧ Hid ((l.drop k).any (fun r => decide (r.1 ≤ n) && decide (n ≤ r.2)) = B)) (fun i _ => N - (intOf i).toNat)
 case atStart => exact ⟨0, rfl, by omega, rfl, HB⟩
 case round =>
  obtain ⟨k, rfl, hk, rfl, HD⟩ := hrel;clear HB;by_cases hlt : k < N
  ·obtain ⟨b, off, rfl, hb, c0, c1⟩ := HE.out k (by rw [← HN.out]; exact hlt);have D0 := HD.out;rw [drop_getD l k (0, 0) (by rw [← HN.out]; exact hlt), List.any_cons] at D0;generalize l.getD k (0, 0) = q at *;have HD0 := hide D0;clear D0 HD;by_cases h1 : q.1 ≤ n
   ·by_cases h2 : n ≤ q.2
    ·go_wp2
     go_ret
     exact ⟨ret_bool (by rw [← HD0.out]; simp [h1, h2]), rfl⟩
    ·go_wp2
     exact ⟨⟨k + 1, by go_num, by omega, trivial, hide (by rw [← HD0.out]; simp [h1]; omega)⟩, by simp [intOf]; omega⟩
   ·go_wp2
    exact ⟨⟨k + 1, by go_num, by omega, trivial, hide (by rw [← HD0.out]; simp; omega)⟩, by simp [intOf]; omega⟩
  ·have hge : (N : Int) ≤ (k : Int) := by omega
   have E : Hid (B = false) := hide (by rw [← HD.out, List.drop_eq_nil_of_le (by have := HN.out; omega)]; rfl)
   go_wp2
   go_ret
   exact ⟨ret_bool E.out.symm, rfl⟩
set_option maxHeartbeats 1000000 in
set_option maxRecDepth 100000 in
theorem inStrs_any (v : Value) (l : List ByteArray) (s : ByteArray) (w : World) (hv : StrsAt w v l) :
  Calls Tryz.prog 96 #[v, .string s] w fun r w' => r = .returned (.bool (inStrsB l s)) ∧ w' = w := by
 obtain ⟨_, hlen, a, cap, rfl, hel⟩ := hv;have HE := hide hel;clear hel;generalize hB : inStrsB l s = B;have HB : Hid ((l.drop 0).any (fun t => t.toList == s.toList) = B) := hide (by rw [List.drop_zero]; exact hB);clear hB;obtain ⟨N, hN⟩ : ∃ N : Nat, N = l.length := ⟨_, rfl⟩
 rw [← hN] at hlen ⊢;have HN := hide hN;clear hN;go_enter Tryz.func96, Tryz.ntmps96
 go_wp2
 go_loopw [5] (fun i wr => ∃ k : Nat, i = .int .i64 k ∧ k ≤ N ∧ wr = w ∧ Hid ((l.drop k).any (fun t => t.toList == s.toList) = B)) (fun i _ => N - (intOf i).toNat)
 case atStart => exact ⟨0, rfl, by omega, rfl, HB⟩
 case round =>
  obtain ⟨k, rfl, hk, rfl, HD⟩ := hrel;clear HB;by_cases hlt : k < N
  ·obtain ⟨b, off, rfl, hb, c0⟩ := HE.out k (by rw [← HN.out]; exact hlt);have D0 := HD.out;rw [drop_getD l k ⟨#[]⟩ (by rw [← HN.out]; exact hlt), List.any_cons] at D0;generalize l.getD k ⟨#[]⟩ = q at *;have HD0 := hide D0;clear D0 HD;cases h1 : (q.toList == s.toList)
   ·go_wp2
    exact ⟨⟨k + 1, by go_num, by omega, trivial, hide (by rw [← HD0.out, h1]; rfl)⟩, by simp [intOf]; omega⟩
   ·go_wp2
    go_ret
    exact ⟨ret_bool (by rw [← HD0.out, h1]; rfl), rfl⟩
  ·have hge : (N : Int) ≤ (k : Int) := by omega
   have E : Hid (B = false) := hide (by rw [← HD.out, List.drop_eq_nil_of_le (by have := HN.out; omega)]; rfl)
   go_wp2
   go_ret
   exact ⟨ret_bool E.out.symm, rfl⟩
set_option maxHeartbeats 2000000 in
set_option maxRecDepth 100000 in
theorem refHas_any (v : Value) (S : SetV) (k n : Int) (s : ByteArray) (w : World) (hv : SetAt w v S) (hs : s.size ≤ maxLen) :
  Calls Tryz.prog 106 #[v, .agg #[.int .i64 k, .int .i64 n, .string s]] w fun r w' => r = .returned (.bool (hasB S k n s)) ∧ Below w.heap.size w w' := by
 obtain ⟨vi, vs, rfl, hI, hS⟩ := hv;obtain ⟨ai, ci, rfl⟩ := hI.form;obtain ⟨aq, cq, rfl⟩ := hS.form;obtain ⟨sa, si, sc, ss⟩ := S;dsimp only at *;have HI := hide hI;have HS := hide hS;have HR := fun (W : World) => hide (refRight_any k n s W hs)
 generalize hH : hasB ⟨sa, si, sc, ss⟩ k n s = B;have HH := hide hH;have R2 : rightB k n s = true → k ≠ 0 → k ≠ 1 → k = 2 := fun h h0 h1 => by
  unfold rightB at h;rw [if_neg h0, if_neg h1] at h
  split at h
  ·assumption
  ·simp at h
 have HR2 := hide R2;clear hI hS hH R2;generalize si.length = nI at *;generalize ss.length = nS at *;cases hr : rightB k n s
 ·rw [hr] at HR;have E : Hid (B = false) := hide (by rw [← HH.out]; unfold hasB; rw [hr]; rfl);clear HH hr;go_enter Tryz.func106, Tryz.ntmps106
  go_wp2_with fail
  refine (unhide (HR _)).mono ?_;rintro r w1 ⟨rfl, b1⟩;have B1 := hide b1;clear b1
  go_wp2
  go_ret
  exact ⟨ret_bool E.out.symm, (two_new B1.out).2.2⟩
 ·rw [hr] at HR;have hB := HH.out;unfold hasB at hB;rw [hr, Bool.true_and] at hB;have HB := hide hB;have k2 := HR2.out hr;have K2 := hide k2;clear HH hr hB k2 HR2;go_enter Tryz.func106, Tryz.ntmps106
  go_wp2_with fail
  refine (unhide (HR _)).mono ?_;rintro r w1 ⟨rfl, b1⟩;obtain ⟨e1, e2, b2⟩ := two_new b1;have c0 := cell_heap e1 0;have c1 := cell_heap e1 1;have c2 := cell_heap e1 2;have c3 := cell_heap e1 3;have d0 := cell_heap e2 0;have d1 := cell_heap e2 1;have d2 := cell_heap e2 2;simp only [List.getElem?_toArray, List.getElem?_cons_zero, List.getElem?_cons_succ] at c0 c1 c2 c3 d0 d1 d2;have B2 := hide b2;have I1 := hide (HI.out.on b2);have S1 := hide (HS.out.on b2);clear b1 b2 e1 e2 HR HI HS;by_cases k0 : k = 0
  ·subst k0;have E : Hid (B = sa) := hide (by rw [← HB.out, if_pos rfl]);clear HB
   go_wp2
   go_ret
   exact ⟨ret_bool E.out.symm, B2.out⟩
  ·have kb : (k == 0) = false := beq_eq_false_iff_ne.2 k0;by_cases k1 : k = 1
   ·subst k1;have E : Hid (B = inIntsB si n) := hide (by rw [← HB.out, if_neg (by omega), if_pos rfl]);have X := hide (inInts_any _ _ n _ I1.out);clear HB I1 S1
    go_wp2_with fail
    refine (unhide X).mono ?_;rintro r w2 ⟨rfl, rfl⟩
    go_wp2
    go_ret
    exact ⟨ret_bool E.out.symm, B2.out⟩
   ·have kb1 : (k == 1) = false := beq_eq_false_iff_ne.2 k1;have E : Hid (B = (inStrsB ss s != sc)) := hide (by rw [← HB.out, if_neg k0, if_neg k1]);have X := fun (d : Nat) (os : Array Obj) => hide (Calls.regrown_of ((inStrs_any _ _ s (Sort.grow (redrawn w1 d) os) (S1.out.on (below_regrown w1 d os))).mono (by rintro r w2 ⟨rfl, rfl⟩; exact ⟨rfl, Below.refl _ _⟩)))
    generalize inStrsB ss s = IB at *;have p0 := cell_regrown c2;have p1 := cell_regrown c3;have p2 := cell_regrown d2;have p3 := cell_regrown d0;have p4 := cell_regrown d1;clear HB I1 S1
    go_wp2
    clear c0 c1 c2 c3 d0 d1 d2;refine wp_region_quiet_below mixed (by kernel_rfl) ?_
    repeat (first | go_big_quiet_step (exact unhide (X _ _)) | quiet_step (exact unhide (X _ _)))
    refine wpQuiet_nil ?_;intro _ hw';obtain ⟨⟨dq, osq⟩, hw''⟩ := hw';subst hw''
    go_wp2
    go_ret
    refine ⟨ret_bool (by rw [E.out]; cases IB <;> cases sc <;> rfl), B2.out.trans ((below_regrown w1 dq osq).mono B2.out.size)⟩
end Go.Proofs.YtlkcjhcmkaddaaaGreat
namespace Go.Proofs.YtlkcjhcmkaddaaaGreat
open Go.RowKit
set_option maxHeartbeats 4000000 in
set_option maxRecDepth 100000 in
theorem refRightSet_any (v : Value) (S : SetV) (w : World) (hv : SetAt w v S) :
  Calls Tryz.prog 71 #[v] w fun r w' => r = .returned (.bool (rightSet S)) ∧ Below w.heap.size w w' := by
 obtain ⟨vi, vs, rfl, hI, hS⟩ := hv;obtain ⟨ai, ci, rfl⟩ := hI.form;obtain ⟨aq, cq, rfl⟩ := hS.form;obtain ⟨sa, si, sc, ss⟩ := S;dsimp only at *;have HI := hide hI;have HS := hide hS;have nIle := hI.2.1;have nSle := hS.2.1;clear hI hS;unfold rightSet;dsimp only;obtain ⟨nI, hnI⟩ : ∃ n : Nat, n = si.length := ⟨_, rfl⟩
 obtain ⟨nS, hnS⟩ : ∃ n : Nat, n = ss.length := ⟨_, rfl⟩
 rw [← hnI] at nIle ⊢;rw [← hnS] at nSle ⊢;have HnI := hide hnI;have HnS := hide hnS;clear hnI hnS;go_enter Tryz.func71, Tryz.ntmps71
 go_wp2
 go_loopw [3] (fun i wr => ∃ k : Nat, i = .int .i64 k ∧ k ≤ nI ∧ Hid (rgB (prevR si k) (si.drop k) = rgB none si) ∧ Hid (wr.heap[w.heap.size]? = some (.cells #[.bool sa, .slice ai nI ci, .bool sc, .slice aq nS cq] 25 (0, 0))) ∧ Hid (Below w.heap.size w wr)) (fun i _ => nI - (intOf i).toNat)
 case atStart => exact ⟨0, rfl, by omega, hide rfl, hide (heap_new _ _), hide ((Below.refl _ _).alloc (Nat.le_refl _) _)⟩
 case round =>
  obtain ⟨k, rfl, hk, HG, HH, HB⟩ := hrel;have c0 := cell_heap HH.out 0;have c1 := cell_heap HH.out 1;have c2 := cell_heap HH.out 2;have c3 := cell_heap HH.out 3;simp only [List.getElem?_toArray, List.getElem?_cons_zero, List.getElem?_cons_succ] at c0 c1 c2 c3;have ltB := lt_heap HH.out;by_cases hlt : k < nI
  ·have IW := HI.out.on HB.out;have hk' : k < si.length := by rw [← HnI.out]; exact hlt
   obtain ⟨b, off, rfl, hb, d0, d1⟩ := IW.at.2 k hk';obtain ⟨q0, q1, q2, q3⟩ := IW.bound k hk';have G0 := HG.out;rw [drop_getD si k (0, 0) hk'] at G0;have prv : k ≠ 0 → ∃ h : Int, prevR si k = some h ∧ wr.cell? ⟨b, off + (k - 1) * 2 + 1, none⟩ = some (.int .i64 h) ∧ -9223372036854775808 ≤ h ∧ h ≤ 9223372036854775807 := fun h0 => by
    obtain ⟨b', off', ha, _, _, e1⟩ := IW.at.2 (k - 1) (by omega);obtain ⟨_, _, r2, r3⟩ := IW.bound (k - 1) (by omega)
    simp at ha
    obtain ⟨rfl, rfl⟩ := ha;exact ⟨_, by unfold prevR; rw [if_neg h0], e1, r2, r3⟩
   have PRV := hide prv;have nxt : prevR si (k + 1) = some (si.getD k (0, 0)).2 := by unfold prevR; rw [if_neg (by omega)]; rfl
   have NXT := hide nxt;generalize si.getD k (0, 0) = r at *;clear IW prv nxt;have G1 := hide G0;clear G0 HG;have hb5 := fun (o : Obj) => (Below.refl _ wr).alloc (Nat.le_refl _) o
   clear c0 c2 c3;by_cases h1 : r.1 ≤ r.2
   ·by_cases k0 : k = 0
    ·have dk : decide (0 < k) = false := decide_eq_false (by omega);have G2 : Hid (rgB (prevR si (k + 1)) (si.drop (k + 1)) = rgB none si) := hide (by
      have := G1.out;rw [show prevR si k = none by unfold prevR; rw [if_pos k0]] at this;rw [← this, NXT.out]
      simp [rgB, h1])
     clear G1 k0 PRV NXT
     go_wp2
     have HH5 := (hb5 (Obj.cells #[Value.int IntKind.i64 r.1, Value.int IntKind.i64 r.2] 58)).block _ ltB;rw [HH.out] at HH5;have N5 := heap_new wr (Obj.cells #[Value.int IntKind.i64 r.1, Value.int IntKind.i64 r.2] 58);have B5 := hide (HB.out.alloc HB.out.size (Obj.cells #[Value.int IntKind.i64 r.1, Value.int IntKind.i64 r.2] 58));clear c1;generalize wr.alloc (Obj.cells #[Value.int IntKind.i64 r.1, Value.int IntKind.i64 r.2] 58) = w5 at *;have c1 := cell_heap HH5 1;have n0 := cell_heap N5 0;simp only [List.getElem?_toArray, List.getElem?_cons_zero, List.getElem?_cons_succ] at c1 n0;have H5 := hide HH5;clear HH5 N5 hb5 HH HB d0 d1
     go_quiet (fail)
     go_wp2
     exact ⟨⟨k + 1, by go_num, by omega, G2, H5, hide (below_drewN B5.out _)⟩, by simp [intOf]; omega⟩
    ·obtain ⟨h, hp, pc, p0, p1⟩ := PRV.out k0;have dk : decide (0 < k) = true := decide_eq_true (by omega);have k1 : 1 ≤ k := by omega
     have G1' := G1.out;rw [hp] at G1';clear PRV hp k0 G1;by_cases h2 : r.1 ≤ h
     ·have e2 : decide (r.1 ≤ h) = true := decide_eq_true h2;have G2 : Hid (rgB none si = false) := hide (by rw [← G1']; simp [rgB]; intro _ h3; omega);clear G1' NXT
      go_wp2
      have HH5 := (hb5 (Obj.cells #[Value.int IntKind.i64 r.1, Value.int IntKind.i64 r.2] 58)).block _ ltB;rw [HH.out] at HH5;have N5 := heap_new wr (Obj.cells #[Value.int IntKind.i64 r.1, Value.int IntKind.i64 r.2] 58);have B5 := hide (HB.out.alloc HB.out.size (Obj.cells #[Value.int IntKind.i64 r.1, Value.int IntKind.i64 r.2] 58));have pc5 := (hb5 (Obj.cells #[Value.int IntKind.i64 r.1, Value.int IntKind.i64 r.2] 58)).cell (p := ⟨b, off + (k - 1) * 2 + 1, none⟩) hb;rw [pc] at pc5;clear c1 pc;generalize wr.alloc (Obj.cells #[Value.int IntKind.i64 r.1, Value.int IntKind.i64 r.2] 58) = w5 at *;have c1 := cell_heap HH5 1;have n0 := cell_heap N5 0;simp only [List.getElem?_toArray, List.getElem?_cons_zero, List.getElem?_cons_succ] at c1 n0;have H5 := hide HH5;clear HH5 N5 hb5 HH HB d0 d1
      go_quiet (fail)
      go_wp2
      go_ret
      exact ⟨ret_bool (by rw [G2.out]; rfl), below_drewN B5.out _⟩
     ·have e2 : decide (r.1 ≤ h) = false := decide_eq_false h2;by_cases h3 : r.1 ≤ h + 1
      ·have e3 : decide (r.1 ≤ h + 1) = true := decide_eq_true h3;have G2 : Hid (rgB none si = false) := hide (by rw [← G1']; simp [rgB]; intro _ h3; omega);clear G1' NXT
       go_wp2
       have HH5 := (hb5 (Obj.cells #[Value.int IntKind.i64 r.1, Value.int IntKind.i64 r.2] 58)).block _ ltB;rw [HH.out] at HH5;have N5 := heap_new wr (Obj.cells #[Value.int IntKind.i64 r.1, Value.int IntKind.i64 r.2] 58);have B5 := hide (HB.out.alloc HB.out.size (Obj.cells #[Value.int IntKind.i64 r.1, Value.int IntKind.i64 r.2] 58));have pc5 := (hb5 (Obj.cells #[Value.int IntKind.i64 r.1, Value.int IntKind.i64 r.2] 58)).cell (p := ⟨b, off + (k - 1) * 2 + 1, none⟩) hb;rw [pc] at pc5;clear c1 pc;generalize wr.alloc (Obj.cells #[Value.int IntKind.i64 r.1, Value.int IntKind.i64 r.2] 58) = w5 at *;have c1 := cell_heap HH5 1;have n0 := cell_heap N5 0;simp only [List.getElem?_toArray, List.getElem?_cons_zero, List.getElem?_cons_succ] at c1 n0;have H5 := hide HH5;clear HH5 N5 hb5 HH HB d0 d1
       go_quiet (fail)
       go_wp2
       go_ret
       exact ⟨ret_bool (by rw [G2.out]; rfl), below_drewN B5.out _⟩
      ·have e3 : decide (r.1 ≤ h + 1) = false := decide_eq_false h3;have G2 : Hid (rgB (prevR si (k + 1)) (si.drop (k + 1)) = rgB none si) := hide (by
        rw [← G1', NXT.out];have h4 : h + 1 < r.1 := by omega
        simp [rgB, h1, h4])
       clear G1' NXT
       go_wp2
       have HH5 := (hb5 (Obj.cells #[Value.int IntKind.i64 r.1, Value.int IntKind.i64 r.2] 58)).block _ ltB;rw [HH.out] at HH5;have N5 := heap_new wr (Obj.cells #[Value.int IntKind.i64 r.1, Value.int IntKind.i64 r.2] 58);have B5 := hide (HB.out.alloc HB.out.size (Obj.cells #[Value.int IntKind.i64 r.1, Value.int IntKind.i64 r.2] 58));have pc5 := (hb5 (Obj.cells #[Value.int IntKind.i64 r.1, Value.int IntKind.i64 r.2] 58)).cell (p := ⟨b, off + (k - 1) * 2 + 1, none⟩) hb;rw [pc] at pc5;clear c1 pc;generalize wr.alloc (Obj.cells #[Value.int IntKind.i64 r.1, Value.int IntKind.i64 r.2] 58) = w5 at *;have c1 := cell_heap HH5 1;have n0 := cell_heap N5 0;simp only [List.getElem?_toArray, List.getElem?_cons_zero, List.getElem?_cons_succ] at c1 n0;have H5 := hide HH5;clear HH5 N5 hb5 HH HB d0 d1
       go_quiet (fail)
       go_wp2
       exact ⟨⟨k + 1, by go_num, by omega, G2, H5, hide (below_drewN B5.out _)⟩, by simp [intOf]; omega⟩
   ·have G2 : Hid (rgB none si = false) := hide (by
     rw [← G1.out];cases prevR si k <;> simp [rgB, h1])
    have B5 := fun (o : Obj) => hide (HB.out.alloc HB.out.size o)
    clear G1 PRV NXT
    go_wp2
    go_ret
    exact ⟨ret_bool (by rw [G2.out]; rfl), (B5 _).out⟩
  ·have hge : (nI : Int) ≤ (k : Int) := by omega
   have G2 : Hid (rgB none si = true) := hide (by
    rw [← HG.out, List.drop_eq_nil_of_le (by have := HnI.out; omega)];cases prevR si k <;> rfl)
   clear HG
   go_wp2
   go_loopw [5] (fun i wr => ∃ k : Nat, i = .int .i64 k ∧ k ≤ nS ∧ Hid (stB (prevS ss k) (ss.drop k) = stB none ss) ∧ Hid (wr.heap[w.heap.size]? = some (.cells #[.bool sa, .slice ai nI ci, .bool sc, .slice aq nS cq] 25 (0, 0))) ∧ Hid (Below w.heap.size w wr)) (fun i _ => nS - (intOf i).toNat)
   case atStart => exact ⟨0, rfl, by omega, hide rfl, HH, HB⟩
   case round =>
    clear HH HB c0 c1 c2 c3 ltB hge hlt hk;obtain ⟨j, rfl, hj, HG, HH, HB⟩ := hrel;have c0 := cell_heap HH.out 0;have c1 := cell_heap HH.out 1;have c2 := cell_heap HH.out 2;have c3 := cell_heap HH.out 3;simp only [List.getElem?_toArray, List.getElem?_cons_zero, List.getElem?_cons_succ] at c0 c1 c2 c3;have ltB := lt_heap HH.out;by_cases hlt : j < nS
    ·have IW := HS.out.on HB.out;have hj' : j < ss.length := by rw [← HnS.out]; exact hlt
     obtain ⟨b, off, rfl, hb, d0⟩ := IW.at.2 j hj';have q0 := IW.bound j hj';have G0 := HG.out;rw [drop_getD ss j ⟨#[]⟩ hj'] at G0;have prv : j ≠ 0 → ∃ h : ByteArray, prevS ss j = some h ∧ wr.cell? ⟨b, off + (j - 1), none⟩ = some (.string h) := fun h0 => by
      obtain ⟨b', off', ha, _, e1⟩ := IW.at.2 (j - 1) (by omega)
      simp at ha
      obtain ⟨rfl, rfl⟩ := ha;exact ⟨_, by unfold prevS; rw [if_neg h0], e1⟩
     have PRV := hide prv;have nxt : prevS ss (j + 1) = some (ss.getD j ⟨#[]⟩) := by unfold prevS; rw [if_neg (by omega)]; rfl
     have NXT := hide nxt;generalize ss.getD j ⟨#[]⟩ = r at *;clear IW prv nxt;have G1 := hide G0;clear G0 HG;by_cases h1 : r.size ≤ 8
     ·have e1 : decide (8 < r.size) = false := decide_eq_false (by omega);have e1' : decide ((8 : Int) < (r.size : Int)) = false := decide_eq_false (by omega);by_cases j0 : j = 0
      ·have dj : decide (0 < j) = false := decide_eq_false (by omega);have G3 : Hid (stB (prevS ss (j + 1)) (ss.drop (j + 1)) = stB none ss) := hide (by
        have := G1.out;rw [show prevS ss j = none by unfold prevS; rw [if_pos j0]] at this;rw [← this, NXT.out]
        simp [stB, h1])
       clear G1 j0 PRV NXT
       go_wp2
       go_quiet (fail)
       go_wp2
       exact ⟨⟨j + 1, by go_num, by omega, G3, HH, hide (below_drewN HB.out _)⟩, by simp [intOf]; omega⟩
      ·obtain ⟨h, hp, pc⟩ := PRV.out j0;have dj : decide (0 < j) = true := decide_eq_true (by omega);have j1 : 1 ≤ j := by omega
       have G1' := G1.out;rw [hp] at G1';clear PRV hp j0 G1;cases h2 : Op.bytesLess h.toList r.toList
       ·have G3 : Hid (stB none ss = false) := hide (by rw [← G1']; simp [stB, h2]);clear G1' NXT
        go_wp2
        go_quiet (fail)
        go_wp2
        go_ret
        exact ⟨ret_bool (by rw [G3.out]; cases rgB none si <;> rfl), below_drewN HB.out _⟩
       ·have G3 : Hid (stB (prevS ss (j + 1)) (ss.drop (j + 1)) = stB none ss) := hide (by rw [← G1', NXT.out]; simp [stB, h1, h2]);clear G1' NXT
        go_wp2
        go_quiet (fail)
        go_wp2
        exact ⟨⟨j + 1, by go_num, by omega, G3, HH, hide (below_drewN HB.out _)⟩, by simp [intOf]; omega⟩
     ·have e1 : decide (8 < r.size) = true := decide_eq_true (by omega);have e1' : decide ((8 : Int) < (r.size : Int)) = true := decide_eq_true (by omega);have G3 : Hid (stB none ss = false) := hide (by
       rw [← G1.out];cases prevS ss j <;> simp [stB, h1])
      clear G1 PRV NXT
      go_wp2
      go_quiet (fail)
      go_wp2
      go_ret
      exact ⟨ret_bool (by rw [G3.out]; cases rgB none si <;> rfl), below_drewN HB.out _⟩
    ·have hge : (nS : Int) ≤ (j : Int) := by omega
     have G3 : Hid (stB none ss = true) := hide (by
      rw [← HG.out, List.drop_eq_nil_of_le (by have := HnS.out; omega)];cases prevS ss j <;> rfl)
     clear HG
     go_wp2
     go_ret
     exact ⟨ret_bool (by rw [G2.out, G3.out]; rfl), HB.out⟩
end Go.Proofs.YtlkcjhcmkaddaaaGreat
namespace Go.Proofs.YtlkcjhcmkaddaaaGreat
open Go.RowKit
def BoxAt (w : World) (v : Value) (b : BoxV) : Prop := ∃ (pi0 ps0 pi1 ps1 pi2 ps2 pi3 ps3 : Option Addr) (ci0 cs0 ci1 cs1 ci2 cs2 ci3 cs3 : Nat),
 v = .agg #[.bool b.s0.absent, .slice pi0 b.s0.ints.length ci0, .bool b.s0.co, .slice ps0 b.s0.strs.length cs0, .bool b.s1.absent, .slice pi1 b.s1.ints.length ci1, .bool b.s1.co, .slice ps1 b.s1.strs.length cs1, .bool b.s2.absent, .slice pi2 b.s2.ints.length ci2, .bool b.s2.co, .slice ps2 b.s2.strs.length cs2, .bool b.s3.absent, .slice pi3 b.s3.ints.length ci3, .bool b.s3.co, .slice ps3 b.s3.strs.length cs3] ∧
 SetAt w (.agg #[.bool b.s0.absent, .slice pi0 b.s0.ints.length ci0, .bool b.s0.co, .slice ps0 b.s0.strs.length cs0]) b.s0 ∧ SetAt w (.agg #[.bool b.s1.absent, .slice pi1 b.s1.ints.length ci1, .bool b.s1.co, .slice ps1 b.s1.strs.length cs1]) b.s1 ∧ SetAt w (.agg #[.bool b.s2.absent, .slice pi2 b.s2.ints.length ci2, .bool b.s2.co, .slice ps2 b.s2.strs.length cs2]) b.s2 ∧ SetAt w (.agg #[.bool b.s3.absent, .slice pi3 b.s3.ints.length ci3, .bool b.s3.co, .slice ps3 b.s3.strs.length cs3]) b.s3
theorem BoxAt.on {w w' : World} {v : Value} {b : BoxV} (h : BoxAt w v b) (hb : Below w.heap.size w w') : BoxAt w' v b := by
 obtain ⟨pi0, ps0, pi1, ps1, pi2, ps2, pi3, ps3, ci0, cs0, ci1, cs1, ci2, cs2, ci3, cs3, hv, h0, h1, h2, h3⟩ := h;exact ⟨pi0, ps0, pi1, ps1, pi2, ps2, pi3, ps3, ci0, cs0, ci1, cs1, ci2, cs2, ci3, cs3, hv, h0.on hb, h1.on hb, h2.on hb, h3.on hb⟩
def rightBx (b : BoxV) : Bool := all4 fun i => rightSet (b.get i)
set_option maxHeartbeats 4000000 in
set_option maxRecDepth 100000 in
theorem refRightBx_any (v : Value) (b : BoxV) (w : World) (hv : BoxAt w v b) :
  Calls Tryz.prog 47 #[v] w fun r w' => r = .returned (.bool (rightBx b)) ∧ Below w.heap.size w w' := by
 obtain ⟨pi0, ps0, pi1, ps1, pi2, ps2, pi3, ps3, ci0, cs0, ci1, cs1, ci2, cs2, ci3, cs3, rfl, h0, h1, h2, h3⟩ := hv;have HR : Hid (rightBx b = (((rightSet b.s0 && rightSet b.s1) && rightSet b.s2) && rightSet b.s3)) := hide rfl;have ba := (Below.refl _ w).alloc (Nat.le_refl _) (Obj.cells #[.bool b.s0.absent, .slice pi0 b.s0.ints.length ci0, .bool b.s0.co, .slice ps0 b.s0.strs.length cs0, .bool b.s1.absent, .slice pi1 b.s1.ints.length ci1, .bool b.s1.co, .slice ps1 b.s1.strs.length cs1, .bool b.s2.absent, .slice pi2 b.s2.ints.length ci2, .bool b.s2.co, .slice ps2 b.s2.strs.length cs2, .bool b.s3.absent, .slice pi3 b.s3.ints.length ci3, .bool b.s3.co, .slice ps3 b.s3.strs.length cs3] 54);have R0 := fun (W : World) (hb : Below w.heap.size w W) => hide (refRightSet_any _ b.s0 W (h0.on hb))
 have R1 := fun (W : World) (hb : Below w.heap.size w W) => hide (refRightSet_any _ b.s1 W (h1.on hb))
 have R2 := fun (W : World) (hb : Below w.heap.size w W) => hide (refRightSet_any _ b.s2 W (h2.on hb))
 have R3 := fun (W : World) (hb : Below w.heap.size w W) => hide (refRightSet_any _ b.s3 W (h3.on hb))
 have B0 := hide ba;have E0 := hide (heap_new w (Obj.cells #[.bool b.s0.absent, .slice pi0 b.s0.ints.length ci0, .bool b.s0.co, .slice ps0 b.s0.strs.length cs0, .bool b.s1.absent, .slice pi1 b.s1.ints.length ci1, .bool b.s1.co, .slice ps1 b.s1.strs.length cs1, .bool b.s2.absent, .slice pi2 b.s2.ints.length ci2, .bool b.s2.co, .slice ps2 b.s2.strs.length cs2, .bool b.s3.absent, .slice pi3 b.s3.ints.length ci3, .bool b.s3.co, .slice ps3 b.s3.strs.length cs3] 54));clear h0 h1 h2 h3 ba;go_enter Tryz.func47, Tryz.ntmps47
 go_wp2
 go_loopw [3] (fun i wr => ∃ k : Int, i = .int .i64 k ∧ (k = 0 ∨ (k = 1 ∧ Hid (rightSet b.s0 = true)) ∨ (k = 2 ∧ Hid (rightSet b.s0 = true ∧ rightSet b.s1 = true)) ∨ (k = 3 ∧ Hid (rightSet b.s0 = true ∧ rightSet b.s1 = true ∧ rightSet b.s2 = true)) ∨ (k = 4 ∧ Hid (rightBx b = true))) ∧ Hid (wr.heap[w.heap.size]? = some (.cells #[.bool b.s0.absent, .slice pi0 b.s0.ints.length ci0, .bool b.s0.co, .slice ps0 b.s0.strs.length cs0, .bool b.s1.absent, .slice pi1 b.s1.ints.length ci1, .bool b.s1.co, .slice ps1 b.s1.strs.length cs1, .bool b.s2.absent, .slice pi2 b.s2.ints.length ci2, .bool b.s2.co, .slice ps2 b.s2.strs.length cs2, .bool b.s3.absent, .slice pi3 b.s3.ints.length ci3, .bool b.s3.co, .slice ps3 b.s3.strs.length cs3] 54 (0, 0))) ∧ Hid (Below w.heap.size w wr)) (fun i _ => 4 - (intOf i).toNat)
 case atStart => exact ⟨0, rfl, Or.inl rfl, E0, B0⟩
 case round =>
  clear E0 B0;obtain ⟨k, rfl, hk, HE, HB⟩ := hrel;have c0 := cell_heap HE.out 0;have c1 := cell_heap HE.out 1;have c2 := cell_heap HE.out 2;have c3 := cell_heap HE.out 3;have c4 := cell_heap HE.out 4;have c5 := cell_heap HE.out 5;have c6 := cell_heap HE.out 6;have c7 := cell_heap HE.out 7;have c8 := cell_heap HE.out 8;have c9 := cell_heap HE.out 9;have c10 := cell_heap HE.out 10;have c11 := cell_heap HE.out 11;have c12 := cell_heap HE.out 12;have c13 := cell_heap HE.out 13;have c14 := cell_heap HE.out 14;have c15 := cell_heap HE.out 15;simp only [List.getElem?_toArray, List.getElem?_cons_zero, List.getElem?_cons_succ] at c0 c1 c2 c3 c4 c5 c6 c7 c8 c9 c10 c11 c12 c13 c14 c15;rcases hk with rfl | ⟨rfl, HP⟩ | ⟨rfl, HP⟩ | ⟨rfl, HP⟩ | ⟨rfl, HP⟩
  ·have X := R0 _ HB.out
   go_wp2_with fail
   refine (unhide X).mono ?_;rintro r w2 ⟨rfl, b2⟩;have HE2 := hide ((b2.block _ (lt_heap HE.out)).trans HE.out);have HB2 := hide (HB.out.trans (b2.mono HB.out.size));clear X R0 R1 R2 R3 b2;cases hr : rightSet b.s0
   ·have HF : Hid (rightBx b = false) := hide (by rw [HR.out, hr]; simp)
    go_wp2
    go_ret
    exact ⟨ret_bool HF.out.symm, HB2.out⟩
   ·go_wp2
    exact ⟨⟨1, rfl, Or.inr (Or.inl ⟨rfl, hide hr⟩), HE2, HB2⟩, by simp [intOf]⟩
  ·have X := R1 _ HB.out
   go_wp2_with fail
   refine (unhide X).mono ?_;rintro r w2 ⟨rfl, b2⟩;have HE2 := hide ((b2.block _ (lt_heap HE.out)).trans HE.out);have HB2 := hide (HB.out.trans (b2.mono HB.out.size));clear X R0 R1 R2 R3 b2;cases hr : rightSet b.s1
   ·have HF : Hid (rightBx b = false) := hide (by rw [HR.out, hr]; simp)
    go_wp2
    go_ret
    exact ⟨ret_bool HF.out.symm, HB2.out⟩
   ·go_wp2
    exact ⟨⟨2, rfl, Or.inr (Or.inr (Or.inl ⟨rfl, hide ⟨HP.out, hr⟩⟩)), HE2, HB2⟩, by simp [intOf]⟩
  ·have X := R2 _ HB.out
   go_wp2_with fail
   refine (unhide X).mono ?_;rintro r w2 ⟨rfl, b2⟩;have HE2 := hide ((b2.block _ (lt_heap HE.out)).trans HE.out);have HB2 := hide (HB.out.trans (b2.mono HB.out.size));clear X R0 R1 R2 R3 b2;cases hr : rightSet b.s2
   ·have HF : Hid (rightBx b = false) := hide (by rw [HR.out, hr]; simp)
    go_wp2
    go_ret
    exact ⟨ret_bool HF.out.symm, HB2.out⟩
   ·go_wp2
    exact ⟨⟨3, rfl, Or.inr (Or.inr (Or.inr (Or.inl ⟨rfl, hide ⟨HP.out.1, HP.out.2, hr⟩⟩))), HE2, HB2⟩, by simp [intOf]⟩
  ·have X := R3 _ HB.out
   go_wp2_with fail
   refine (unhide X).mono ?_;rintro r w2 ⟨rfl, b2⟩;have HE2 := hide ((b2.block _ (lt_heap HE.out)).trans HE.out);have HB2 := hide (HB.out.trans (b2.mono HB.out.size));clear X R0 R1 R2 R3 b2;cases hr : rightSet b.s3
   ·have HF : Hid (rightBx b = false) := hide (by rw [HR.out, hr]; simp)
    go_wp2
    go_ret
    exact ⟨ret_bool HF.out.symm, HB2.out⟩
   ·go_wp2
    exact ⟨⟨4, rfl, Or.inr (Or.inr (Or.inr (Or.inr ⟨rfl, hide (by rw [HR.out, HP.out.1, HP.out.2.1, HP.out.2.2, hr]; rfl)⟩))), HE2, HB2⟩, by simp [intOf]⟩
  ·go_wp2
   go_ret
   exact ⟨ret_bool HP.out.symm, HB.out⟩
end Go.Proofs.YtlkcjhcmkaddaaaGreat
namespace Go.Proofs.YtlkcjhcmkaddaaaGreat
open Go.RowKit
def evVal (e : EvV) : Value := .agg #[.int .i64 e.v0.1, .int .i64 e.v0.2.1, .string e.v0.2.2, .int .i64 e.v1.1, .int .i64 e.v1.2.1, .string e.v1.2.2, .int .i64 e.v2.1, .int .i64 e.v2.2.1, .string e.v2.2.2, .int .i64 e.v3.1, .int .i64 e.v3.2.1, .string e.v3.2.2]
def evFit (e : EvV) : Prop := e.v0.2.2.size ≤ maxLen ∧ e.v1.2.2.size ≤ maxLen ∧ e.v2.2.2.size ≤ maxLen ∧ e.v3.2.2.size ≤ maxLen
theorem evCells {w : World} {g : Nat} {t : TypeId} {x0 x1 x2 x3 x4 x5 x6 x7 x8 x9 x10 x11 : Value} (h : w.heap[g]? = some (.cells #[x0, x1, x2, x3, x4, x5, x6, x7, x8, x9, x10, x11] t (0, 0))) : w.cell? ⟨g, 0, none⟩ = some x0 ∧ w.cell? ⟨g, 1, none⟩ = some x1 ∧ w.cell? ⟨g, 2, none⟩ = some x2 ∧ w.cell? ⟨g, 3, none⟩ = some x3 ∧ w.cell? ⟨g, 4, none⟩ = some x4 ∧ w.cell? ⟨g, 5, none⟩ = some x5 ∧ w.cell? ⟨g, 6, none⟩ = some x6 ∧ w.cell? ⟨g, 7, none⟩ = some x7 ∧ w.cell? ⟨g, 8, none⟩ = some x8 ∧ w.cell? ⟨g, 9, none⟩ = some x9 ∧ w.cell? ⟨g, 10, none⟩ = some x10 ∧ w.cell? ⟨g, 11, none⟩ = some x11 :=
 ⟨cell_heap h 0, cell_heap h 1, cell_heap h 2, cell_heap h 3, cell_heap h 4, cell_heap h 5, cell_heap h 6, cell_heap h 7, cell_heap h 8, cell_heap h 9, cell_heap h 10, cell_heap h 11⟩
def EvIn (w : World) (g : Nat) (e : EvV) : Prop := w.heap[g]? = some (.cells #[.int .i64 e.v0.1, .int .i64 e.v0.2.1, .string e.v0.2.2, .int .i64 e.v1.1, .int .i64 e.v1.2.1, .string e.v1.2.2, .int .i64 e.v2.1, .int .i64 e.v2.2.1, .string e.v2.2.2, .int .i64 e.v3.1, .int .i64 e.v3.2.1, .string e.v3.2.2] 46 (0, 0))
theorem EvIn.on {w w' : World} {g : Nat} {e : EvV} (h : EvIn w g e) (hb : Below w.heap.size w w') : EvIn w' g e := (hb.block _ (lt_heap h)).trans h
end Go.Proofs.YtlkcjhcmkaddaaaGreat
namespace Go.Proofs.YtlkcjhcmkaddaaaGreat
open Go.RowKit
theorem bxCells {w : World} {g : Nat} {t : TypeId} {x0 x1 x2 x3 x4 x5 x6 x7 x8 x9 x10 x11 x12 x13 x14 x15 : Value} (h : w.heap[g]? = some (.cells #[x0, x1, x2, x3, x4, x5, x6, x7, x8, x9, x10, x11, x12, x13, x14, x15] t (0, 0))) : w.cell? ⟨g, 0, none⟩ = some x0 ∧ w.cell? ⟨g, 1, none⟩ = some x1 ∧ w.cell? ⟨g, 2, none⟩ = some x2 ∧ w.cell? ⟨g, 3, none⟩ = some x3 ∧ w.cell? ⟨g, 4, none⟩ = some x4 ∧ w.cell? ⟨g, 5, none⟩ = some x5 ∧ w.cell? ⟨g, 6, none⟩ = some x6 ∧ w.cell? ⟨g, 7, none⟩ = some x7 ∧ w.cell? ⟨g, 8, none⟩ = some x8 ∧ w.cell? ⟨g, 9, none⟩ = some x9 ∧ w.cell? ⟨g, 10, none⟩ = some x10 ∧ w.cell? ⟨g, 11, none⟩ = some x11 ∧ w.cell? ⟨g, 12, none⟩ = some x12 ∧ w.cell? ⟨g, 13, none⟩ = some x13 ∧ w.cell? ⟨g, 14, none⟩ = some x14 ∧ w.cell? ⟨g, 15, none⟩ = some x15 :=
 ⟨cell_heap h 0, cell_heap h 1, cell_heap h 2, cell_heap h 3, cell_heap h 4, cell_heap h 5, cell_heap h 6, cell_heap h 7, cell_heap h 8, cell_heap h 9, cell_heap h 10, cell_heap h 11, cell_heap h 12, cell_heap h 13, cell_heap h 14, cell_heap h 15⟩
end Go.Proofs.YtlkcjhcmkaddaaaGreat
namespace Go.Proofs.YtlkcjhcmkaddaaaGreat
open Go.RowKit
set_option maxHeartbeats 2000000 in
set_option maxRecDepth 100000 in
theorem refFew_any (v : Value) (l : List SetV) (w : World) (hv : SetsAt w v l) :
  Calls Tryz.prog 29 #[v] w fun r w' => r = .returned (.bool (l.all fewB)) ∧ w' = w := by
 obtain ⟨hlen, a, cap, rfl, hel⟩ := hv;have HE := hide hel;clear hel;generalize hB : l.all fewB = B;have HB : Hid ((l.drop 0).all fewB = B) := hide (by rw [List.drop_zero]; exact hB);clear hB;obtain ⟨N, hN⟩ : ∃ N : Nat, N = l.length := ⟨_, rfl⟩
 rw [← hN] at hlen ⊢;have HN := hide hN;clear hN;go_enter Tryz.func29, Tryz.ntmps29
 go_wp2
 go_loopw [3] (fun i wr => ∃ k : Nat, i = .int .i64 k ∧ k ≤ N ∧ wr = w ∧ Hid ((l.drop k).all fewB = B)) (fun i _ => N - (intOf i).toNat)
 case atStart => exact ⟨0, rfl, by omega, rfl, HB⟩
 case round =>
  obtain ⟨k, rfl, hk, rfl, HD⟩ := hrel;clear HB;by_cases hlt : k < N
  ·obtain ⟨b, off, vi, vs, rfl, hb, c0, c1, c2, c3, hI, hS⟩ := HE.out k (by rw [← HN.out]; exact hlt);have D0 := HD.out;rw [drop_getD l k noSet (by rw [← HN.out]; exact hlt), List.all_cons] at D0;generalize l.getD k noSet = S at *;obtain ⟨ai, ci, rfl⟩ := hI.form;obtain ⟨aq, cq, rfl⟩ := hS.form;obtain ⟨sa, si, sc, ss⟩ := S;dsimp only at *;have nIle := hI.2.1;have nSle := hS.2.1;have HS := hide hS;have HD0 := hide D0;clear D0 HD hI hS;have few1 : ¬ (si.length ≤ 40 ∧ ss.length ≤ 40) → fewB ⟨sa, si, sc, ss⟩ = false := fun h => by
    unfold fewB;dsimp only;rw [Bool.and_eq_false_iff]
    left
    rw [Bool.and_eq_false_iff, decide_eq_false_iff_not, decide_eq_false_iff_not];omega
   have few2 : si.length ≤ 40 ∧ ss.length ≤ 40 → fewB ⟨sa, si, sc, ss⟩ = (ss.all fun s => decide (s.size ≤ 100)) := fun h => by
    unfold fewB;dsimp only;rw [decide_eq_true h.1, decide_eq_true h.2]; rfl
   obtain ⟨nI, hnI⟩ : ∃ n : Nat, n = si.length := ⟨_, rfl⟩
   obtain ⟨nS, hnS⟩ : ∃ n : Nat, n = ss.length := ⟨_, rfl⟩
   rw [← hnI] at nIle few1 few2 c1;rw [← hnS] at nSle few1 few2 c3;have HnS := hide hnS;have F1 := hide few1;have F2 := hide few2;clear hnI hnS few1 few2;by_cases big : nI ≤ 40 ∧ nS ≤ 40
   ·have g1 : ¬ (40 : Int) < (nI : Int) := by omega
    have g2 : ¬ (40 : Int) < (nS : Int) := by omega
    have F3 := hide (F2.out big);clear F1 F2 big
    go_wp2
    go_loopw [4] (fun i wr' => ∃ j : Nat, i = .int .i64 j ∧ j ≤ nS ∧ wr' = wr ∧ Hid ((ss.drop j).all (fun s => decide (s.size ≤ 100)) = ss.all fun s => decide (s.size ≤ 100))) (fun i _ => nS - (intOf i).toNat)
    case atStart => exact ⟨0, rfl, by omega, rfl, hide rfl⟩
    case round =>
     obtain ⟨j, rfl, hj, rfl, HG⟩ := hrel;by_cases hjt : j < nS
     ·obtain ⟨b', off', rfl, hb', d0⟩ := HS.out.at.2 j (by rw [← HnS.out]; exact hjt);have q0 := HS.out.bound j (by rw [← HnS.out]; exact hjt);have G0 := HG.out;rw [drop_getD ss j ⟨#[]⟩ (by rw [← HnS.out]; exact hjt), List.all_cons] at G0;generalize ss.getD j ⟨#[]⟩ = q at *;have G1 := hide G0;clear G0 HG;by_cases hq : q.size ≤ 100
      ·have G2 : Hid ((ss.drop (j + 1)).all (fun s => decide (s.size ≤ 100)) = ss.all fun s => decide (s.size ≤ 100)) := hide (by rw [← G1.out, decide_eq_true hq]; rfl);have hq' : ¬ (100 : Int) < (q.size : Int) := by omega
       clear G1
       go_wp2
       exact ⟨⟨j + 1, by go_num, by omega, trivial, G2⟩, by simp [intOf]; omega⟩
      ·have G2 : Hid (B = false) := hide (by rw [← HD0.out, F3.out, ← G1.out, decide_eq_false hq]; rfl);have hq' : (100 : Int) < (q.size : Int) := by omega
       clear G1
       go_wp2
       go_ret
       exact ⟨ret_bool G2.out.symm, rfl⟩
     ·have hge : (nS : Int) ≤ (j : Int) := by omega
      have G2 : Hid ((l.drop (k + 1)).all fewB = B) := hide (by
       rw [← HD0.out, F3.out, ← HG.out, List.drop_eq_nil_of_le (show ss.length ≤ j by have := HnS.out; omega)]; rfl)
      go_wp2
      exact ⟨⟨k + 1, by go_num, by omega, trivial, G2⟩, by simp [intOf]; omega⟩
   ·have G2 : Hid (B = false) := hide (by rw [← HD0.out, F1.out big]; rfl);have gg : (40 : Int) < (nI : Int) ∨ (¬ (40 : Int) < (nI : Int) ∧ (40 : Int) < (nS : Int)) := by omega
    clear big F1 F2;rcases gg with g1 | ⟨g1, g2⟩
    all_goals
     go_wp2
     go_ret
     exact ⟨ret_bool G2.out.symm, rfl⟩
  ·have hge : (N : Int) ≤ (k : Int) := by omega
   have E : Hid (B = true) := hide (by rw [← HD.out, List.drop_eq_nil_of_le (by have := HN.out; omega)]; rfl)
   go_wp2
   go_ret
   exact ⟨ret_bool E.out.symm, rfl⟩
end Go.Proofs.YtlkcjhcmkaddaaaGreat
namespace Go.Proofs.YtlkcjhcmkaddaaaGreat
open Go.RowKit
def fewBx (b : BoxV) : Bool := [b.s0, b.s1, b.s2, b.s3].all fewB
end Go.Proofs.YtlkcjhcmkaddaaaGreat
namespace Go.Proofs.YtlkcjhcmkaddaaaGreat
open Go.RowKit
structure FitBx (b : BoxV) : Prop where
 good : GoodB b
 ni : ∀ i, i < 4 → (b.get i).ints.length ≤ 400
 ns : ∀ i, i < 4 → (b.get i).strs.length ≤ 400
def withBx (b : BoxV) (x : Int) (s : SetV) : BoxV := if 0 ≤ x ∧ x < 4 then b.put x.toNat s else b
structure BoxProg : Prop where
 all : ∀ w : World, Calls Tryz.prog 36 #[] w fun r w' => (∃ u, r = .returned u ∧ BoxAt w' u allBx) ∧ Below w.heap.size w w'
 atom : ∀ (x : Int) (v : Value) (s : SetV) (w : World), -9223372036854775808 ≤ x → x ≤ 9223372036854775807 → SetAt w v s → Fit s → Calls Tryz.prog 66 #[.int .i64 x, v] w fun r w' => (∃ u, r = .returned u ∧ BoxAt w' u (withBx allBx x s)) ∧ Below w.heap.size w w'
 with_ : ∀ (v : Value) (b : BoxV) (x : Int) (u : Value) (s : SetV) (w : World), -9223372036854775808 ≤ x → x ≤ 9223372036854775807 → BoxAt w v b → FitBx b → SetAt w u s → Fit s → Calls Tryz.prog 89 #[v, .int .i64 x, u] w fun r w' => (∃ y, r = .returned y ∧ BoxAt w' y (withBx b x s)) ∧ Below w.heap.size w w'
 and : ∀ (v u : Value) (a b : BoxV) (w : World), BoxAt w v a → BoxAt w u b → FitBx a → FitBx b → Calls Tryz.prog 69 #[v, u] w fun r w' => (∃ y, r = .returned y ∧ BoxAt w' y (andBx a b)) ∧ Below w.heap.size w w'
 in_ : ∀ (v u : Value) (a b : BoxV) (w : World), BoxAt w v a → BoxAt w u b → FitBx a → FitBx b → Calls Tryz.prog 65 #[v, u] w fun r w' => r = .returned (.bool (inBx a b)) ∧ Below w.heap.size w w'
 empty : ∀ (v : Value) (b : BoxV) (w : World), BoxAt w v b → FitBx b → Calls Tryz.prog 61 #[v] w fun r w' => r = .returned (.bool (emptyBx b)) ∧ Below w.heap.size w w'
 has : ∀ (v : Value) (b : BoxV) (e : EvV) (w : World), BoxAt w v b → FitBx b → evFit e → inE e → Calls Tryz.prog 28 #[v, evVal e] w fun r w' => r = .returned (.bool (hasE b e)) ∧ Below w.heap.size w w'
end Go.Proofs.YtlkcjhcmkaddaaaGreat
namespace Go.Proofs.YtlkcjhcmkaddaaaGreat
open Go.RowKit
structure SC where
 a : Bool
 p : Option Addr
 n : Nat
 c : Nat
 d : Bool
 q : Option Addr
 m : Nat
 e : Nat
def SC.val (s : SC) : Value := .agg #[.bool s.a, .slice s.p s.n s.c, .bool s.d, .slice s.q s.m s.e]
def SC.zero : SC := ⟨false, none, 0, 0, false, none, 0, 0⟩
theorem SetAt.sc {w : World} {v : Value} {S : SetV} (h : SetAt w v S) : ∃ s : SC, v = s.val := by
 obtain ⟨vi, vs, rfl, hI, hS⟩ := h;obtain ⟨ai, ci, rfl⟩ := hI.form;obtain ⟨aq, cq, rfl⟩ := hS.form;exact ⟨⟨_, _, _, _, _, _, _, _⟩, rfl⟩
theorem SetAt.scForm {w : World} {s : SC} {S : SetV} (h : SetAt w s.val S) : s.a = S.absent ∧ s.n = S.ints.length ∧ s.d = S.co ∧ s.m = S.strs.length := by
 obtain ⟨vi, vs, e, hI, hS⟩ := h;obtain ⟨ai, ci, rfl⟩ := hI.form;obtain ⟨aq, cq, rfl⟩ := hS.form;unfold SC.val at e
 simp at e
 obtain ⟨e1, ⟨e2, e3, e4⟩, e5, e6, e7, e8⟩ := e;exact ⟨e1, e3, e5, e7⟩
def StIn (w : World) (g : Nat) (s : SC) : Prop := w.heap[g]? = some (.cells #[.bool s.a, .slice s.p s.n s.c, .bool s.d, .slice s.q s.m s.e] 25 (0, 0))
theorem StIn.on {w w' : World} {g : Nat} {s : SC} (h : StIn w g s) (hb : Below w.heap.size w w') : StIn w' g s := (hb.block _ (lt_heap h)).trans h
end Go.Proofs.YtlkcjhcmkaddaaaGreat
namespace Go.Proofs.YtlkcjhcmkaddaaaGreat
open Go.RowKit
def bxVal (s0 s1 s2 s3 : SC) : Value := .agg #[.bool s0.a, .slice s0.p s0.n s0.c, .bool s0.d, .slice s0.q s0.m s0.e, .bool s1.a, .slice s1.p s1.n s1.c, .bool s1.d, .slice s1.q s1.m s1.e, .bool s2.a, .slice s2.p s2.n s2.c, .bool s2.d, .slice s2.q s2.m s2.e, .bool s3.a, .slice s3.p s3.n s3.c, .bool s3.d, .slice s3.q s3.m s3.e]
theorem BoxAt.scs {w : World} {v : Value} {b : BoxV} (h : BoxAt w v b) : ∃ s0 s1 s2 s3 : SC, v = bxVal s0 s1 s2 s3 ∧ SetAt w s0.val b.s0 ∧ SetAt w s1.val b.s1 ∧ SetAt w s2.val b.s2 ∧ SetAt w s3.val b.s3 := by
 obtain ⟨pi0, ps0, pi1, ps1, pi2, ps2, pi3, ps3, ci0, cs0, ci1, cs1, ci2, cs2, ci3, cs3, rfl, h0, h1, h2, h3⟩ := h;exact ⟨⟨_, _, _, _, _, _, _, _⟩, ⟨_, _, _, _, _, _, _, _⟩, ⟨_, _, _, _, _, _, _, _⟩, ⟨_, _, _, _, _, _, _, _⟩, rfl, h0, h1, h2, h3⟩
theorem boxAt_of {w : World} {s0 s1 s2 s3 : SC} {b : BoxV} (h0 : SetAt w s0.val b.s0) (h1 : SetAt w s1.val b.s1) (h2 : SetAt w s2.val b.s2) (h3 : SetAt w s3.val b.s3) : BoxAt w (bxVal s0 s1 s2 s3) b := by
 obtain ⟨a0, p0, n0, c0, d0, q0, m0, e0⟩ := s0;obtain ⟨a1, p1, n1, c1, d1, q1, m1, e1⟩ := s1;obtain ⟨a2, p2, n2, c2, d2, q2, m2, e2⟩ := s2;obtain ⟨a3, p3, n3, c3, d3, q3, m3, e3⟩ := s3;obtain ⟨x0, y0, z0, t0⟩ := h0.scForm;obtain ⟨x1, y1, z1, t1⟩ := h1.scForm;obtain ⟨x2, y2, z2, t2⟩ := h2.scForm;obtain ⟨x3, y3, z3, t3⟩ := h3.scForm;dsimp only at x0 y0 z0 t0 x1 y1 z1 t1 x2 y2 z2 t2 x3 y3 z3 t3;subst x0 y0 z0 t0 x1 y1 z1 t1 x2 y2 z2 t2 x3 y3 z3 t3;exact ⟨p0, q0, p1, q1, p2, q2, p3, q3, c0, e0, c1, e1, c2, e2, c3, e3, rfl, h0, h1, h2, h3⟩
theorem RngsAt.besides {w w' : World} {v : Value} {l : List Rg} {p : Nat} {cs : Array Value} {t : TypeId} {fz : Nat × Nat} (h : RngsAt w v l) (hp : w.heap[p]? = some (.cells cs t fz)) (hn : ∀ (j : Nat) k n, cs[j]? ≠ some (Value.int k n)) (hs : w.heap.size ≤ w'.heap.size) (hk : ∀ k, k ≠ p → w'.heap[k]? = w.heap[k]?) : RngsAt w' v l := by
 obtain ⟨h1, h2, a, cap, hv, h⟩ := h;refine ⟨h1, h2, a, cap, hv, fun i hi => ?_⟩;obtain ⟨b, off, ha, hlt, c0, c1⟩ := h i hi;have hb : b ≠ p := by
  rintro rfl;rw [cell_heap hp] at c0;exact hn _ _ _ c0
 have hc : ∀ o, w'.cell? ⟨b, o, none⟩ = w.cell? ⟨b, o, none⟩ := fun o => by unfold World.cell?; simp only [hk b hb]
 exact ⟨b, off, ha, Nat.lt_of_lt_of_le hlt hs, (hc _).trans c0, (hc _).trans c1⟩
theorem StrsAt.besides {w w' : World} {v : Value} {l : List ByteArray} {p : Nat} {cs : Array Value} {t : TypeId} {fz : Nat × Nat} (h : StrsAt w v l) (hp : w.heap[p]? = some (.cells cs t fz)) (hn : ∀ (j : Nat) s, cs[j]? ≠ some (Value.string s)) (hs : w.heap.size ≤ w'.heap.size) (hk : ∀ k, k ≠ p → w'.heap[k]? = w.heap[k]?) : StrsAt w' v l := by
 obtain ⟨h1, h2, a, cap, hv, h⟩ := h;refine ⟨h1, h2, a, cap, hv, fun i hi => ?_⟩;obtain ⟨b, off, ha, hlt, c0⟩ := h i hi;have hb : b ≠ p := by
  rintro rfl;rw [cell_heap hp] at c0;exact hn _ _ c0
 have hc : ∀ o, w'.cell? ⟨b, o, none⟩ = w.cell? ⟨b, o, none⟩ := fun o => by unfold World.cell?; simp only [hk b hb]
 exact ⟨b, off, ha, Nat.lt_of_lt_of_le hlt hs, (hc _).trans c0⟩
def BxIn (w : World) (q : Nat) (s0 s1 s2 s3 : SC) : Prop := w.heap[q]? = some (.cells #[.bool s0.a, .slice s0.p s0.n s0.c, .bool s0.d, .slice s0.q s0.m s0.e, .bool s1.a, .slice s1.p s1.n s1.c, .bool s1.d, .slice s1.q s1.m s1.e, .bool s2.a, .slice s2.p s2.n s2.c, .bool s2.d, .slice s2.q s2.m s2.e, .bool s3.a, .slice s3.p s3.n s3.c, .bool s3.d, .slice s3.q s3.m s3.e] 54 (0, 0))
theorem BxIn.on {w w' : World} {q : Nat} {s0 s1 s2 s3 : SC} (h : BxIn w q s0 s1 s2 s3) (hb : Below w.heap.size w w') : BxIn w' q s0 s1 s2 s3 := (hb.block _ (lt_heap h)).trans h
theorem BxIn.cells {w : World} {q : Nat} {s0 s1 s2 s3 : SC} (h : BxIn w q s0 s1 s2 s3) : w.cell? ⟨q, 0, none⟩ = some (.bool s0.a) ∧ w.cell? ⟨q, 1, none⟩ = some (.slice s0.p s0.n s0.c) ∧ w.cell? ⟨q, 2, none⟩ = some (.bool s0.d) ∧ w.cell? ⟨q, 3, none⟩ = some (.slice s0.q s0.m s0.e) ∧ w.cell? ⟨q, 4, none⟩ = some (.bool s1.a) ∧ w.cell? ⟨q, 5, none⟩ = some (.slice s1.p s1.n s1.c) ∧ w.cell? ⟨q, 6, none⟩ = some (.bool s1.d) ∧ w.cell? ⟨q, 7, none⟩ = some (.slice s1.q s1.m s1.e) ∧ w.cell? ⟨q, 8, none⟩ = some (.bool s2.a) ∧ w.cell? ⟨q, 9, none⟩ = some (.slice s2.p s2.n s2.c) ∧ w.cell? ⟨q, 10, none⟩ = some (.bool s2.d) ∧ w.cell? ⟨q, 11, none⟩ = some (.slice s2.q s2.m s2.e) ∧ w.cell? ⟨q, 12, none⟩ = some (.bool s3.a) ∧ w.cell? ⟨q, 13, none⟩ = some (.slice s3.p s3.n s3.c) ∧ w.cell? ⟨q, 14, none⟩ = some (.bool s3.d) ∧ w.cell? ⟨q, 15, none⟩ = some (.slice s3.q s3.m s3.e) := bxCells h
theorem BxIn.soft {w : World} {q : Nat} {s0 s1 s2 s3 : SC} (h : BxIn w q s0 s1 s2 s3) (i : Nat) : w.frozen? ⟨q, i, none⟩ = false := frozen_heap h i
theorem SetAt.besides {w w' : World} {v : Value} {S : SetV} {q : Nat} {s0 s1 s2 s3 : SC} (h : SetAt w v S) (hp : BxIn w q s0 s1 s2 s3) (hs : w.heap.size ≤ w'.heap.size) (hk : ∀ k, k ≠ q → w'.heap[k]? = w.heap[k]?) : SetAt w' v S := by
 obtain ⟨vi, vs, hv, h1, h2⟩ := h;refine ⟨vi, vs, hv, h1.besides hp ?_ hs hk, h2.besides hp ?_ hs hk⟩
 ·intro j k n
  match j with
  | 0 => simp
  | 1 => simp
  | 2 => simp
  | 3 => simp
  | 4 => simp
  | 5 => simp
  | 6 => simp
  | 7 => simp
  | 8 => simp
  | 9 => simp
  | 10 => simp
  | 11 => simp
  | 12 => simp
  | 13 => simp
  | 14 => simp
  | 15 => simp
  | j + 16 => simp
 ·intro j k
  match j with
  | 0 => simp
  | 1 => simp
  | 2 => simp
  | 3 => simp
  | 4 => simp
  | 5 => simp
  | 6 => simp
  | 7 => simp
  | 8 => simp
  | 9 => simp
  | 10 => simp
  | 11 => simp
  | 12 => simp
  | 13 => simp
  | 14 => simp
  | 15 => simp
  | j + 16 => simp
structure In1 (w W : World) (q : Nat) : Prop where
 size : W.heap.size = w.heap.size
 other : ∀ k, k ≠ q → W.heap[k]? = w.heap[k]?
 below : ∀ (B : Nat) (w0 : World), B ≤ q → Below B w0 w → Below B w0 W
theorem In1.set {w W : World} {q : Nat} {s0 s1 s2 s3 : SC} (h : In1 w W q) (hp : BxIn w q s0 s1 s2 s3) {v : Value} {S : SetV} (hs : SetAt w v S) : SetAt W v S := hs.besides hp (Nat.le_of_eq h.size.symm) h.other
theorem In1.box {w W : World} {q p : Nat} (h : In1 w W q) {s0 s1 s2 s3 : SC} (hp : BxIn w p s0 s1 s2 s3) (hne : p ≠ q) : BxIn W p s0 s1 s2 s3 := (h.other p hne).trans hp
theorem in1_setCell (w : World) (q i : Nat) (v : Value) : In1 w (w.setCell ⟨q, i, none⟩ v) q := by
 refine ⟨by simp [World.setCell], fun k hk => ?_, fun B w0 hB hb => hb.setCell (p := ⟨q, i, none⟩) hB _⟩;have hk' : q ≠ k := fun e => hk e.symm
 simp [World.setCell, Array.getElem?_modify, hk']
theorem In1.trans {w W V : World} {q : Nat} (h : In1 w W q) (h' : In1 W V q) : In1 w V q :=
 ⟨h'.size.trans h.size, fun k hk => (h'.other k hk).trans (h.other k hk), fun B w0 hB hb => h'.below B w0 hB (h.below B w0 hB hb)⟩
theorem put_bx0 {w : World} {q : Nat} {s0 s1 s2 s3 : SC} (x : SC) (h : BxIn w q s0 s1 s2 s3) :
  BxIn (((((w).setCell ⟨q, 0, none⟩ (.bool x.a)).setCell ⟨q, 1, none⟩ (.slice x.p x.n x.c)).setCell ⟨q, 2, none⟩ (.bool x.d)).setCell ⟨q, 3, none⟩ (.slice x.q x.m x.e)) q x s1 s2 s3 ∧ In1 w (((((w).setCell ⟨q, 0, none⟩ (.bool x.a)).setCell ⟨q, 1, none⟩ (.slice x.p x.n x.c)).setCell ⟨q, 2, none⟩ (.bool x.d)).setCell ⟨q, 3, none⟩ (.slice x.q x.m x.e)) q := by
 refine ⟨?_, (((in1_setCell _ _ _ _).trans (in1_setCell _ _ _ _)).trans (in1_setCell _ _ _ _)).trans (in1_setCell _ _ _ _)⟩
 ·unfold BxIn at h;have h0 := heap_setCell (i := 0) (.bool x.a) h;have h1 := heap_setCell (i := 1) (.slice x.p x.n x.c) h0;have h2 := heap_setCell (i := 2) (.bool x.d) h1;have h3 := heap_setCell (i := 3) (.slice x.q x.m x.e) h2;exact h3
theorem put_bx1 {w : World} {q : Nat} {s0 s1 s2 s3 : SC} (x : SC) (h : BxIn w q s0 s1 s2 s3) :
  BxIn (((((w).setCell ⟨q, 4, none⟩ (.bool x.a)).setCell ⟨q, 5, none⟩ (.slice x.p x.n x.c)).setCell ⟨q, 6, none⟩ (.bool x.d)).setCell ⟨q, 7, none⟩ (.slice x.q x.m x.e)) q s0 x s2 s3 ∧ In1 w (((((w).setCell ⟨q, 4, none⟩ (.bool x.a)).setCell ⟨q, 5, none⟩ (.slice x.p x.n x.c)).setCell ⟨q, 6, none⟩ (.bool x.d)).setCell ⟨q, 7, none⟩ (.slice x.q x.m x.e)) q := by
 refine ⟨?_, (((in1_setCell _ _ _ _).trans (in1_setCell _ _ _ _)).trans (in1_setCell _ _ _ _)).trans (in1_setCell _ _ _ _)⟩
 ·unfold BxIn at h;have h0 := heap_setCell (i := 4) (.bool x.a) h;have h1 := heap_setCell (i := 5) (.slice x.p x.n x.c) h0;have h2 := heap_setCell (i := 6) (.bool x.d) h1;have h3 := heap_setCell (i := 7) (.slice x.q x.m x.e) h2;exact h3
theorem put_bx2 {w : World} {q : Nat} {s0 s1 s2 s3 : SC} (x : SC) (h : BxIn w q s0 s1 s2 s3) :
  BxIn (((((w).setCell ⟨q, 8, none⟩ (.bool x.a)).setCell ⟨q, 9, none⟩ (.slice x.p x.n x.c)).setCell ⟨q, 10, none⟩ (.bool x.d)).setCell ⟨q, 11, none⟩ (.slice x.q x.m x.e)) q s0 s1 x s3 ∧ In1 w (((((w).setCell ⟨q, 8, none⟩ (.bool x.a)).setCell ⟨q, 9, none⟩ (.slice x.p x.n x.c)).setCell ⟨q, 10, none⟩ (.bool x.d)).setCell ⟨q, 11, none⟩ (.slice x.q x.m x.e)) q := by
 refine ⟨?_, (((in1_setCell _ _ _ _).trans (in1_setCell _ _ _ _)).trans (in1_setCell _ _ _ _)).trans (in1_setCell _ _ _ _)⟩
 ·unfold BxIn at h;have h0 := heap_setCell (i := 8) (.bool x.a) h;have h1 := heap_setCell (i := 9) (.slice x.p x.n x.c) h0;have h2 := heap_setCell (i := 10) (.bool x.d) h1;have h3 := heap_setCell (i := 11) (.slice x.q x.m x.e) h2;exact h3
theorem put_bx3 {w : World} {q : Nat} {s0 s1 s2 s3 : SC} (x : SC) (h : BxIn w q s0 s1 s2 s3) :
  BxIn (((((w).setCell ⟨q, 12, none⟩ (.bool x.a)).setCell ⟨q, 13, none⟩ (.slice x.p x.n x.c)).setCell ⟨q, 14, none⟩ (.bool x.d)).setCell ⟨q, 15, none⟩ (.slice x.q x.m x.e)) q s0 s1 s2 x ∧ In1 w (((((w).setCell ⟨q, 12, none⟩ (.bool x.a)).setCell ⟨q, 13, none⟩ (.slice x.p x.n x.c)).setCell ⟨q, 14, none⟩ (.bool x.d)).setCell ⟨q, 15, none⟩ (.slice x.q x.m x.e)) q := by
 refine ⟨?_, (((in1_setCell _ _ _ _).trans (in1_setCell _ _ _ _)).trans (in1_setCell _ _ _ _)).trans (in1_setCell _ _ _ _)⟩
 ·unfold BxIn at h;have h0 := heap_setCell (i := 12) (.bool x.a) h;have h1 := heap_setCell (i := 13) (.slice x.p x.n x.c) h0;have h2 := heap_setCell (i := 14) (.bool x.d) h1;have h3 := heap_setCell (i := 15) (.slice x.q x.m x.e) h2;exact h3
theorem put_whole {w : World} {q : Nat} {s0 s1 s2 s3 : SC} (x0 x1 x2 x3 : SC) (h : BxIn w q s0 s1 s2 s3) :
  BxIn (((((((((((((((((w).setCell ⟨q, 0, none⟩ (.bool x0.a)).setCell ⟨q, 1, none⟩ (.slice x0.p x0.n x0.c)).setCell ⟨q, 2, none⟩ (.bool x0.d)).setCell ⟨q, 3, none⟩ (.slice x0.q x0.m x0.e)).setCell ⟨q, 4, none⟩ (.bool x1.a)).setCell ⟨q, 5, none⟩ (.slice x1.p x1.n x1.c)).setCell ⟨q, 6, none⟩ (.bool x1.d)).setCell ⟨q, 7, none⟩ (.slice x1.q x1.m x1.e)).setCell ⟨q, 8, none⟩ (.bool x2.a)).setCell ⟨q, 9, none⟩ (.slice x2.p x2.n x2.c)).setCell ⟨q, 10, none⟩ (.bool x2.d)).setCell ⟨q, 11, none⟩ (.slice x2.q x2.m x2.e)).setCell ⟨q, 12, none⟩ (.bool x3.a)).setCell ⟨q, 13, none⟩ (.slice x3.p x3.n x3.c)).setCell ⟨q, 14, none⟩ (.bool x3.d)).setCell ⟨q, 15, none⟩ (.slice x3.q x3.m x3.e)) q x0 x1 x2 x3 ∧ In1 w (((((((((((((((((w).setCell ⟨q, 0, none⟩ (.bool x0.a)).setCell ⟨q, 1, none⟩ (.slice x0.p x0.n x0.c)).setCell ⟨q, 2, none⟩ (.bool x0.d)).setCell ⟨q, 3, none⟩ (.slice x0.q x0.m x0.e)).setCell ⟨q, 4, none⟩ (.bool x1.a)).setCell ⟨q, 5, none⟩ (.slice x1.p x1.n x1.c)).setCell ⟨q, 6, none⟩ (.bool x1.d)).setCell ⟨q, 7, none⟩ (.slice x1.q x1.m x1.e)).setCell ⟨q, 8, none⟩ (.bool x2.a)).setCell ⟨q, 9, none⟩ (.slice x2.p x2.n x2.c)).setCell ⟨q, 10, none⟩ (.bool x2.d)).setCell ⟨q, 11, none⟩ (.slice x2.q x2.m x2.e)).setCell ⟨q, 12, none⟩ (.bool x3.a)).setCell ⟨q, 13, none⟩ (.slice x3.p x3.n x3.c)).setCell ⟨q, 14, none⟩ (.bool x3.d)).setCell ⟨q, 15, none⟩ (.slice x3.q x3.m x3.e)) q := by
 obtain ⟨a0, b0⟩ := put_bx0 x0 h;obtain ⟨a1, b1⟩ := put_bx1 x1 a0;obtain ⟨a2, b2⟩ := put_bx2 x2 a1;obtain ⟨a3, b3⟩ := put_bx3 x3 a2;exact ⟨a3, ((b0.trans b1).trans b2).trans b3⟩
theorem infoBx : (Tryz.prog.info? 54).map (·.size) = some 16 := by kernel_rfl
end Go.Proofs.YtlkcjhcmkaddaaaGreat
namespace Go.Proofs.YtlkcjhcmkaddaaaGreat
open Go.RowKit
set_option maxHeartbeats 400000 in
theorem valRight_any (k n : Int) (s : ByteArray) (w : World) (_hs : s.size ≤ maxLen) :
  Calls Tryz.prog 78 #[.agg #[.int .i64 k, .int .i64 n, .string s]] w fun e w' => e = .returned (.bool (rightB k n s)) ∧ Below w.heap.size w w' := by
 unfold maxLen at _hs;by_cases k0 : k = 0
 ·subst k0;by_cases hn : n = 0
  ·subst hn;go_enter Tryz.func78, Tryz.ntmps78
   go_wp2
   go_ret
   exact ⟨ret_bool (by simp [rightB]), (Below.refl _ _).alloc (Nat.le_refl _) _⟩
  ·have hn' : (n == 0) = false := by simp [hn]
   go_enter Tryz.func78, Tryz.ntmps78
   go_wp2
   go_ret
   exact ⟨ret_bool (by simp [rightB, hn]), (Below.refl _ _).alloc (Nat.le_refl _) _⟩
 have k0' : (k == 0) = false := by simp [k0]
 by_cases k1 : k = 1
 ·subst k1;go_enter Tryz.func78, Tryz.ntmps78
  go_wp2
  go_ret
  exact ⟨ret_bool (by simp [rightB]), (Below.refl _ _).alloc (Nat.le_refl _) _⟩
 have k1' : (k == 1) = false := by simp [k1]
 by_cases k2 : k = 2
 ·subst k2;by_cases hn : n = 0
  ·subst hn;go_enter Tryz.func78, Tryz.ntmps78
   go_wp2
   go_ret
   exact ⟨ret_bool (by simp [rightB]), (Below.refl _ _).alloc (Nat.le_refl _) _⟩
  ·have hn' : (n == 0) = false := by simp [hn]
   go_enter Tryz.func78, Tryz.ntmps78
   go_wp2
   go_ret
   exact ⟨ret_bool (by simp [rightB, hn]), (Below.refl _ _).alloc (Nat.le_refl _) _⟩
 have k2' : (k == 2) = false := by simp [k2]
 go_enter Tryz.func78, Tryz.ntmps78
 go_wp2
 go_ret
 exact ⟨ret_bool (by simp [rightB, k0, k1, k2]), (Below.refl _ _).alloc (Nat.le_refl _) _⟩
theorem infoSet : (Tryz.prog.info? 25).map (·.size) = some 4 := by kernel_rfl
theorem rngs_at {w : World} {g : Nat} {cs : Array Value} (h : w.heap[g]? = some (.cells cs 58)) (l : List Rg) (hc : cs.toList = rgCells l) (hi : inI64 l) (hl : l.length ≤ 1000) (k c : Nat) (hk : k = l.length) (hkc : k ≤ c := by omega) : RngsAt w (.slice (some ⟨g, 0, none⟩) k c) l := by
 subst hk;obtain ⟨sp, rfl⟩ := capOf_of (a := some ⟨g, 0, none⟩) hkc (fun e => by cases e);refine ⟨hi, by omega, _, sp, rfl, fun i hi' => ⟨_, 0, rfl, lt_heap h, ?_, ?_⟩⟩
 ·rw [cell_heap h, ← (rgCells_at l i hi').1, ← hc]; simp
 ·rw [cell_heap h, ← (rgCells_at l i hi').2, ← hc]; simp
set_option maxHeartbeats 1000000 in
set_option maxRecDepth 100000 in
theorem all_any (w : World) : Calls Tryz.prog 68 #[] w fun r w' => (∃ u, r = .returned u ∧ SetAt w' u allV) ∧ Below w.heap.size w w' := by
 go_enter Tryz.func68, Tryz.ntmps68
 go_wp2
 obtain ⟨e1, e2, b⟩ := two_boxes w (Obj.cells #[Value.bool true, Value.slice (some { block := w.heap.size + 1, off := 0 }) 1 1, Value.bool true, Value.slice none 0 0] 25) (Obj.cells #[Value.int IntKind.i64 (-9223372036854775808), Value.int IntKind.i64 9223372036854775807] 58);refine bodyPost_ret (results_cell_row rfl _ _ w.heap.size 25 _ (0, 0) _ rfl e1 Tryz.underlying25 rfl infoSet) rfl ⟨⟨_, rfl, _, _, rfl, ?_, strs_none _⟩, b⟩;exact rngs_at e2 [(-9223372036854775808, 9223372036854775807)] rfl (fun r hr => by simp at hr; rw [hr]; dsimp only; omega) (by simp) 1 1 rfl
set_option maxHeartbeats 1000000 in
set_option maxRecDepth 100000 in
theorem empty_any (v : Value) (S : SetV) (w : World) (hv : SetAt w v S) : Calls Tryz.prog 84 #[v] w fun r w' => r = .returned (.bool (emptyB S)) ∧ Below w.heap.size w w' := by
 obtain ⟨vi, vs, rfl, hI, hS⟩ := hv;obtain ⟨ai, ci, rfl⟩ := hI.form;obtain ⟨aq, cq, rfl⟩ := hS.form;obtain ⟨sa, si, sc, ss⟩ := S;dsimp only at *;have HB : Hid (emptyB ⟨sa, si, sc, ss⟩ = (((!sa && decide (si.length = 0)) && !sc) && decide (ss.length = 0))) := hide (by
  unfold emptyB;dsimp only;cases si <;> cases ss <;> simp)
 have l1 := hI.2.1;have l2 := hS.2.1;clear hI hS;generalize si.length = nI at *;generalize ss.length = nS at *;cases sa
 ·by_cases h1 : nI = 0
  ·subst h1;cases sc
   ·by_cases h2 : nS = 0
    ·subst h2;go_enter Tryz.func84, Tryz.ntmps84
     go_wp2
     go_ret
     exact ⟨ret_bool (by rw [HB.out]; rfl), (Below.refl _ _).alloc (Nat.le_refl _) _⟩
    ·have h2' : ((nS : Int) == 0) = false := by simp; omega
     go_enter Tryz.func84, Tryz.ntmps84
     go_wp2
     go_ret
     exact ⟨ret_bool (by rw [HB.out]; simp [h2]), (Below.refl _ _).alloc (Nat.le_refl _) _⟩
   ·go_enter Tryz.func84, Tryz.ntmps84
    go_wp2
    go_ret
    exact ⟨ret_bool (by rw [HB.out]; rfl), (Below.refl _ _).alloc (Nat.le_refl _) _⟩
  ·have h1' : ((nI : Int) == 0) = false := by simp; omega
   go_enter Tryz.func84, Tryz.ntmps84
   go_wp2
   go_ret
   exact ⟨ret_bool (by rw [HB.out]; simp [h1]), (Below.refl _ _).alloc (Nat.le_refl _) _⟩
 ·go_enter Tryz.func84, Tryz.ntmps84
  go_wp2
  go_ret
  exact ⟨ret_bool (by rw [HB.out]; rfl), (Below.refl _ _).alloc (Nat.le_refl _) _⟩
set_option maxHeartbeats 1000000 in
set_option maxRecDepth 100000 in
theorem apart_any (a b : Rg) (w : World) (h0 : -9223372036854775808 ≤ b.1) (h1 : b.1 ≤ 9223372036854775807) (h2 : -9223372036854775808 ≤ a.2) :
  Calls Tryz.prog 98 #[.agg #[.int .i64 a.1, .int .i64 a.2], .agg #[.int .i64 b.1, .int .i64 b.2]] w fun r w' => r = .returned (.bool (decide (a.2 + 1 < b.1))) ∧ Below w.heap.size w w' := by
 have ba := fun (o1 o2 : Obj) => hide (two_boxes w o1 o2)
 by_cases h : a.2 < b.1
 ·have hw : IntKind.i64.wrap (b.1 - 1) = b.1 - 1 := by rw [IntKind.wrap_i64]; omega
  go_enter Tryz.func98, Tryz.ntmps98
  go_wp2
  go_ret
  exact ⟨ret_bool (by rw [decide_eq_decide]; omega), (ba _ _).out.2.2⟩
 ·go_enter Tryz.func98, Tryz.ntmps98
  go_wp2
  go_ret
  exact ⟨ret_bool (by symm; rw [decide_eq_false_iff_not]; omega), (ba _ _).out.2.2⟩
set_option maxHeartbeats 1000000 in
set_option maxRecDepth 100000 in
theorem hasNumber_any (v : Value) (l : List Rg) (n : Int) (w : World) (hv : RngsAt w v l) :
  Calls Tryz.prog 79 #[v, .int .i64 n] w fun r w' => r = .returned (.bool (inIntsB l n)) ∧ Below w.heap.size w w' := by
 have HV := hide hv;obtain ⟨_, hlen, a, cap, rfl, hel⟩ := hv;clear hel;generalize hB : inIntsB l n = B;have HB : Hid ((l.drop 0).any (fun r => decide (r.1 ≤ n) && decide (n ≤ r.2)) = B) := hide (by rw [List.drop_zero]; exact hB);clear hB;obtain ⟨N, hN⟩ : ∃ N : Nat, N = l.length := ⟨_, rfl⟩
 rw [← hN] at hlen HV ⊢;have HN := hide hN;clear hN;go_enter Tryz.func79, Tryz.ntmps79
 go_wp2
 go_loopw [9] (fun i wr => ∃ k : Nat, i = .int .i64 k ∧ k ≤ N ∧ Hid (Below w.heap.size w wr) ∧ Hid ((l.drop k).any (fun r => decide (r.1 ≤ n) && decide (n ≤ r.2)) = B)) (fun i _ => N - (intOf i).toNat)
 case atStart => exact ⟨0, rfl, by omega, hide (Below.refl _ _), HB⟩
 case round =>
  obtain ⟨k, rfl, hk, HW, HD⟩ := hrel;clear HB;by_cases hlt : k < N
  ·obtain ⟨b, off, ha, hb, c0, c1⟩ := (HV.out.on HW.out).at.2 k (by rw [← HN.out]; exact hlt);subst ha;have D0 := HD.out;rw [drop_getD l k (0, 0) (by rw [← HN.out]; exact hlt), List.any_cons] at D0;generalize l.getD k (0, 0) = q at *;have HD0 := hide D0;clear D0 HD;by_cases h1 : q.1 ≤ n
   ·by_cases h2 : n ≤ q.2
    ·go_wp2
     go_ret
     exact ⟨ret_bool (by rw [← HD0.out]; simp [h1, h2]), HW.out.alloc HW.out.size _⟩
    ·go_wp2
     exact ⟨⟨k + 1, by go_num, by omega, hide (HW.out.alloc HW.out.size _), hide (by rw [← HD0.out]; simp [h1]; omega)⟩, by simp [intOf]; omega⟩
   ·go_wp2
    exact ⟨⟨k + 1, by go_num, by omega, hide (HW.out.alloc HW.out.size _), hide (by rw [← HD0.out]; simp; omega)⟩, by simp [intOf]; omega⟩
  ·have hge : (N : Int) ≤ (k : Int) := by omega
   have E : Hid (B = false) := hide (by rw [← HD.out, List.drop_eq_nil_of_le (by have := HN.out; omega)]; rfl)
   go_wp2
   go_ret
   exact ⟨ret_bool E.out.symm, HW.out⟩
end Go.Proofs.YtlkcjhcmkaddaaaGreat
namespace Go.Proofs.YtlkcjhcmkaddaaaGreat
structure ExV where
 kind : Int
 attr : Int
 set : SetV
 sub : List ExV
def lowX : Nat → ExV → Prop
 | 0, _ => False
 | n + 1, x => ∀ y ∈ x.sub, lowX n y
theorem lowX_mono : ∀ (n m : Nat) (x : ExV), n ≤ m → lowX n x → lowX m x
 | 0, _, _, _, h => by cases h
 | n + 1, m, x, hm, h => by
  obtain ⟨k, rfl⟩ : ∃ k, m = k + 1 := ⟨m - 1, by omega⟩
  exact fun y hy => lowX_mono n k y (by omega) (h y hy)
def countX : Nat → ExV → Int
 | 0, _ => 100
 | f + 1, x => min (x.sub.foldl (fun n y => if n < 100 then n + countX f y else n) 1) 100
def deepX : Nat → ExV → Int
 | 0, _ => 20
 | f + 1, x => min ((x.sub.take 100).foldl (fun n y => max n (deepX f y)) 0 + 1) 20
def fitsX (x : ExV) : Bool := decide (countX 21 x ≤ 40) && decide (deepX 21 x ≤ 8)
theorem foldl_max_ge (g : ExV → Int) : ∀ (l : List ExV) (n : Int), n ≤ l.foldl (fun n y => max n (g y)) n
 | [], n => by simp
 | y :: l, n => by
  have := foldl_max_ge g l (max n (g y));rw [List.foldl_cons];omega
theorem foldl_max_mem (g : ExV → Int) : ∀ (l : List ExV) (n : Int) (y : ExV), y ∈ l → g y ≤ l.foldl (fun n y => max n (g y)) n
 | z :: l, n, y, h => by
  rw [List.foldl_cons];rcases List.mem_cons.1 h with rfl | h
  ·have := foldl_max_ge g l (max n (g y));omega
  ·exact foldl_max_mem g l _ y h
theorem deepX_pos : ∀ (f : Nat) (x : ExV), 1 ≤ deepX f x
 | 0, _ => by unfold deepX; omega
 | f + 1, x => by
  have := foldl_max_ge (deepX f) (x.sub.take 100) 0;unfold deepX;omega
theorem countX_pos : ∀ (f : Nat) (x : ExV), 1 ≤ countX f x
 | 0, _ => by unfold countX; omega
 | f + 1, x => by
  have hg : ∀ (l : List ExV) (n : Int), (∀ y ∈ l, 1 ≤ countX f y) → n ≤ l.foldl (fun n y => if n < 100 then n + countX f y else n) n := by
   intro l
   induction l with
   | nil => intro n _; simp
   | cons y l ih =>
    intro n h;have h1 := h y (by simp);rw [List.foldl_cons];have := ih (if n < 100 then n + countX f y else n) (fun z hz => h z (by simp [hz]))
    split at this <;> split <;> omega
  have := hg x.sub 1 (fun y _ => countX_pos f y);unfold countX;omega
theorem count_len (f : Nat) : ∀ (l : List ExV) (n : Int), l.foldl (fun n y => if n < 100 then n + countX f y else n) n < 100 → n + (l.length : Int) ≤ l.foldl (fun n y => if n < 100 then n + countX f y else n) n
 | [], n, _ => by simp
 | y :: l, n, h => by
  rw [List.foldl_cons] at h ⊢;have h1 := countX_pos f y;have h2 := count_len f l _ h;rw [List.length_cons];by_cases hn : n < 100
  ·rw [if_pos hn] at h2 h ⊢;omega
  ·rw [if_neg hn] at h2 h ⊢;omega
theorem deep_low : ∀ (f : Nat) (k : Nat) (x : ExV), k ≤ f → countX f x < 100 → deepX f x ≤ k → k < 20 → lowX k x
 | 0, k, x, hk, hc, hd, _ => by unfold countX at hc; omega
 | f + 1, 0, x, hk, hc, hd, _ => by have := deepX_pos (f + 1) x; omega
 | f + 1, k + 1, x, hk, hc, hd, hk2 => by
  unfold countX at hc;unfold deepX at hd;have hl := count_len f x.sub 1 (by omega);have ht : x.sub.take 100 = x.sub := List.take_of_length_le (by omega);rw [ht] at hd;intro y hy;have h1 := foldl_max_mem (deepX f) x.sub 0 y hy;refine deep_low f k y (by omega) ?_ (by omega) (by omega);have hg : ∀ (l : List ExV) (n : Int), l.foldl (fun n y => if n < 100 then n + countX f y else n) n < 100 → 0 ≤ n → y ∈ l → countX f y < 100 := by
   intro l
   induction l with
   | nil => intro n _ _ h; cases h
   | cons z l ih =>
    intro n h h0 hm;rw [List.foldl_cons] at h;have hz := countX_pos f z;have h2 := count_len f l _ h;by_cases hn : n < 100
    ·rw [if_pos hn] at h h2;rcases List.mem_cons.1 hm with rfl | hm
     ·omega
     ·exact ih _ h (by omega) hm
    ·rw [if_neg hn] at h h2;omega
  exact hg x.sub 1 (by omega) (by omega) hy
theorem fits_low {x : ExV} (h : fitsX x = true) : lowX 8 x := by
 unfold fitsX at h;rw [Bool.and_eq_true, decide_eq_true_eq, decide_eq_true_eq] at h;exact deep_low 21 8 x (by omega) (by omega) (by exact_mod_cast h.2) (by omega)
def smallB (s : SetV) : Bool := decide (s.ints.length ≤ 6) && decide (s.strs.length ≤ 6)
def nodeX (x : ExV) : Bool :=
 if x.kind = 1 then decide (0 ≤ x.attr ∧ x.attr ≤ 3 ∧ x.sub.length = 0) && (rightSet x.set && smallB x.set)
 else if x.kind = 2 ∨ x.kind = 3 ∨ x.kind = 4 then (decide (x.attr = 0) && sameB x.set noSet) && decide (x.kind = 4 → x.sub.length = 1)
 else false
def eachX : Nat → ExV → Bool
 | 0, _ => false
 | n + 1, x => nodeX x && x.sub.all (eachX n)
def rightX (x : ExV) : Bool := fitsX x && eachX 8 x
def andX (l : List ExV) : ExV := ⟨2, 0, noSet, l⟩
def orX (l : List ExV) : ExV := ⟨3, 0, noSet, l⟩
def notX (x : ExV) : ExV := ⟨4, 0, noSet, [x]⟩
def atomX (attr : Int) (s : SetV) : ExV := ⟨1, attr, s, []⟩
theorem all_congr_mem {α : Type} (p q : α → Bool) : ∀ (l : List α), (∀ y ∈ l, p y = q y) → l.all p = l.all q
 | [], _ => rfl
 | y :: l, h => by rw [List.all_cons, List.all_cons, h y (by simp), all_congr_mem p q l fun z hz => h z (by simp [hz])]
theorem rightX_low {x : ExV} (h : rightX x = true) : lowX 8 x := by
 unfold rightX at h;rw [Bool.and_eq_true] at h;exact fits_low h.1
end Go.Proofs.YtlkcjhcmkaddaaaGreat
namespace Go.Proofs.YtlkcjhcmkaddaaaGreat
open Go.Deep Go.ChangeShapes Go.WideShapes Go.ChangeAt Go.WideMaps Go.WideElems Go.RowKit Go.Joins
structure EC where
 k : Int
 t : Int
 s : SC
 p : Option Addr
 n : Nat
 c : Nat
def EC.val (x : EC) : Value := .agg #[.int .i64 x.k, .int .i64 x.t, .bool x.s.a, .slice x.s.p x.s.n x.s.c, .bool x.s.d, .slice x.s.q x.s.m x.s.e, .slice x.p x.n x.c]
def noX : ExV := ⟨0, 0, noSet, []⟩
structure EcAt (w : World) (g o : Nat) (x : EC) : Prop where
 c0 : w.cell? ⟨g, o, none⟩ = some (.int .i64 x.k)
 c1 : w.cell? ⟨g, o + 1, none⟩ = some (.int .i64 x.t)
 c2 : w.cell? ⟨g, o + 2, none⟩ = some (.bool x.s.a)
 c3 : w.cell? ⟨g, o + 3, none⟩ = some (.slice x.s.p x.s.n x.s.c)
 c4 : w.cell? ⟨g, o + 4, none⟩ = some (.bool x.s.d)
 c5 : w.cell? ⟨g, o + 5, none⟩ = some (.slice x.s.q x.s.m x.s.e)
 c6 : w.cell? ⟨g, o + 6, none⟩ = some (.slice x.p x.n x.c)
theorem EcAt.on {w w' : World} {g o : Nat} {x : EC} (h : EcAt w g o x) (hg : g < w.heap.size) (hb : Below w.heap.size w w') : EcAt w' g o x :=
 ⟨(hb.cell (p := ⟨g, _, none⟩) hg).trans h.c0, (hb.cell (p := ⟨g, _, none⟩) hg).trans h.c1, (hb.cell (p := ⟨g, _, none⟩) hg).trans h.c2, (hb.cell (p := ⟨g, _, none⟩) hg).trans h.c3, (hb.cell (p := ⟨g, _, none⟩) hg).trans h.c4, (hb.cell (p := ⟨g, _, none⟩) hg).trans h.c5, (hb.cell (p := ⟨g, _, none⟩) hg).trans h.c6⟩
structure EcFor (w : World) (c : EC) (x : ExV) : Prop where
 k : c.k = x.kind
 t : c.t = x.attr
 n : c.n = x.sub.length
 k0 : -9223372036854775808 ≤ c.k
 k1 : c.k ≤ 9223372036854775807
 t0 : -9223372036854775808 ≤ c.t
 t1 : c.t ≤ 9223372036854775807
 s : SetAt w c.s.val x.set
 room : c.n ≤ c.c
 big : c.c ≤ 9223372036854775807
 none : c.p = Option.none → c.n = 0 ∧ c.c = 0
theorem EcFor.on {w w' : World} {c : EC} {x : ExV} (h : EcFor w c x) (hb : Below w.heap.size w w') : EcFor w' c x := ⟨h.k, h.t, h.n, h.k0, h.k1, h.t0, h.t1, h.s.on hb, h.room, h.big, h.none⟩
def ExAt : Nat → World → Value → ExV → Prop
 | 0, _, _, _ => False
 | n + 1, w, v, x => ∃ c : EC, v = c.val ∧ EcFor w c x ∧ ∀ i, i < x.sub.length → ∃ (g off : Nat) (d : EC), c.p = some ⟨g, off, Option.none⟩ ∧ g < w.heap.size ∧ EcAt w g (off + i * 7) d ∧ ExAt n w d.val (x.sub.getD i noX)
theorem ExAt.on {w w' : World} (hb : Below w.heap.size w w') : ∀ (n : Nat) {v : Value} {x : ExV}, ExAt n w v x → ExAt n w' v x
 | 0, _, _, h => by cases h
 | n + 1, v, x, ⟨c, hv, hc, hs⟩ => ⟨c, hv, hc.on hb, fun i hi => by
  obtain ⟨g, off, d, hp, hg, hd, hx⟩ := hs i hi;exact ⟨g, off, d, hp, Nat.lt_of_lt_of_le hg hb.size, hd.on hg hb, ExAt.on hb n hx⟩⟩
theorem ExAt.more {w : World} : ∀ (n m : Nat) {v : Value} {x : ExV}, n ≤ m → ExAt n w v x → ExAt m w v x
 | 0, _, _, _, _, h => by cases h
 | n + 1, m, v, x, hm, ⟨c, hv, hc, hs⟩ => by
  obtain ⟨k, rfl⟩ : ∃ k, m = k + 1 := ⟨m - 1, by omega⟩
  refine ⟨c, hv, hc, fun i hi => ?_⟩;obtain ⟨g, off, d, hp, hg, hd, hx⟩ := hs i hi;exact ⟨g, off, d, hp, hg, hd, ExAt.more n k (by omega) hx⟩
theorem ExAt.ec {w : World} {n : Nat} {v : Value} {x : ExV} (h : ExAt n w v x) : ∃ c : EC, v = c.val ∧ EcFor w c x := by
 cases n with
 | zero => cases h
 | succ n =>
  obtain ⟨c, hv, hc, _⟩ := h;exact ⟨c, hv, hc⟩
theorem ec_inj {c d : EC} (h : c.val = d.val) : c = d := by
 obtain ⟨k, t, ⟨sa, sp, sn, sc, sd, sq, sm, se⟩, p, n, r⟩ := c;obtain ⟨k', t', ⟨sa', sp', sn', sc', sd', sq', sm', se'⟩, p', n', r'⟩ := d;unfold EC.val at h
 simp at h
 obtain ⟨rfl, rfl, rfl, ⟨rfl, rfl, rfl⟩, rfl, ⟨rfl, rfl, rfl⟩, rfl, rfl, rfl⟩ := h
 rfl
theorem ExAt.part {w : World} {n : Nat} {c : EC} {x : ExV} (h : ExAt (n + 1) w c.val x) (i : Nat) (hi : i < x.sub.length) : ∃ (g off : Nat) (d : EC), c.p = some ⟨g, off, Option.none⟩ ∧ g < w.heap.size ∧ EcAt w g (off + i * 7) d ∧ ExAt n w d.val (x.sub.getD i noX) := by
 obtain ⟨c', hv, hc, hs⟩ := h;have := ec_inj hv;subst this;exact hs i hi
theorem getD_mem {l : List ExV} {i : Nat} (h : i < l.length) : l.getD i noX ∈ l := by
 rw [List.getD_eq_getElem?_getD, List.getElem?_eq_getElem h];exact List.getElem_mem _
theorem ExAt.low {w : World} : ∀ (n : Nat) {v : Value} {x : ExV}, ExAt n w v x → lowX n x
 | 0, _, _, h => by cases h
 | n + 1, v, x, ⟨c, hv, hc, hs⟩ => fun y hy => by
  obtain ⟨i, hi, rfl⟩ := List.getElem_of_mem hy;obtain ⟨g, off, d, hp, hg, hd, hx⟩ := hs i hi;have := ExAt.low n hx
  rwa [List.getD_eq_getElem?_getD, List.getElem?_eq_getElem hi, Option.getD_some] at this
end Go.Proofs.YtlkcjhcmkaddaaaGreat
namespace Go.Proofs.YtlkcjhcmkaddaaaGreat
open Go.RowKit Go.Shelf
attribute [local go_sem] Oper.semAt_some
def partsX : Nat → Int → ExV → List (Int × ExV)
 | 0, _, _ => []
 | k + 1, D, x => (D, x) :: x.sub.flatMap (partsX k (D + 1))
theorem roomOf_none {F : Fence} (hd : F.depth = none) (k : Nat) : F.room k := fun d h => by rw [hd] at h; cases h
theorem round_anyDepth {F : Fence} (hd : F.depth = none) {m m' : Nat} {P : Program} {l : Nat} {f : FuncId} {tmps : Array Value} {assign body : Code} {w : World} {R : Ending → World → Prop}
  (h : RoundIn F m P l f tmps assign body w R) : RoundIn F m' P l f tmps assign body w R := ⟨h.1, fun c cs _ => h.2 c cs (roomOf_none hd _)⟩
theorem yield_anyDepth {F : Fence} (hd : F.depth = none) {m : Nat} (m' : Nat) {P : Program} {l : Nat} {args : Array Value} {W : World} {R : Ending → World → Prop} (h : YieldAt F m P l args W R) : YieldAt F m' P l args W R := by
 obtain ⟨fn, tmps, assign, body, hy, hR⟩ := h;exact ⟨fn, tmps, assign, body, hy, round_anyDepth hd hR⟩
structure Kp2 (n₀ n₁ : Nat) (A B : World) : Prop where
 below : Below n₀ A B
 cells : ∀ b o, n₁ ≤ b → A.heap[b]? = some o → o.isCells = true → B.heap[b]? = some o
theorem Kp2.trans {n₀ n₁ : Nat} {A B C : World} (h : Kp2 n₀ n₁ A B) (k : Kp2 n₀ n₁ B C) : Kp2 n₀ n₁ A C :=
 ⟨h.below.trans k.below, fun b o hb ho hc => k.cells b o hb (h.cells b o hb ho hc) hc⟩
theorem Kp2.ofBelow {n₀ n₁ : Nat} {A B : World} (hn : n₀ ≤ A.heap.size) (h : Below A.heap.size A B) : Kp2 n₀ n₁ A B :=
 ⟨h.mono hn, fun b o _ ho _ => (h.block b (Array.getElem?_eq_some_iff.1 ho).1).trans ho⟩
theorem Kp2.turn {n₀ n₁ : Nat} {w : World} (hn : n₀ ≤ w.heap.size) (W : World) (l : Nat) (o o' : Obj) (hl : w.heap.size ≤ l) (h : W.heap[l]? = some o) (hc : o.isCells = false) (hw : o.isWalk = false) : Kp2 n₀ n₁ W (W.putObj l o') := by
 refine ⟨belowK_b hn W l o o' hl h hc hw, fun b ob hb hob hcb => ?_⟩;by_cases e : b = l
 ·subst e;rw [h] at hob;cases hob
  rw [hc] at hcb;cases hcb
 ·have := (grownBy_putObj' W l o')
  have h2 := this.2;simp only [World.putObj];rw [Array.getElem?_setIfInBounds];rw [if_neg (fun q => e q.symm)];exact hob
theorem ecCells0 {w : World} {g : Nat} {t : TypeId} {x0 x1 x2 x3 x4 x5 x6 : Value} (h : w.heap[g]? = some (.cells #[x0, x1, x2, x3, x4, x5, x6] t (0, 0))) : w.cell? ⟨g, 0, none⟩ = some x0 ∧ w.cell? ⟨g, 1, none⟩ = some x1 ∧ w.cell? ⟨g, 2, none⟩ = some x2 ∧ w.cell? ⟨g, 3, none⟩ = some x3 ∧ w.cell? ⟨g, 4, none⟩ = some x4 ∧ w.cell? ⟨g, 5, none⟩ = some x5 ∧ w.cell? ⟨g, 6, none⟩ = some x6 :=
 ⟨cell_heap h 0, cell_heap h 1, cell_heap h 2, cell_heap h 3, cell_heap h 4, cell_heap h 5, cell_heap h 6⟩
abbrev PartOf (w : World) := { y : Int × EC × ExV // 0 ≤ y.1 ∧ y.1 ≤ 2000 ∧ ∃ k, k ≤ 2000 ∧ ExAt k w y.2.1.val y.2.2 }
def plainOf {w : World} (y : PartOf w) : Int × ExV := (y.1.1, y.1.2.2)
def encOf {w : World} (y : PartOf w) : Array Value := #[.int .i64 y.1.1, y.1.2.1.val]
theorem ExAt.pos {k : Nat} {w : World} {v : Value} {x : ExV} (h : ExAt k w v x) : ∃ m, k = m + 1 := by
 cases k with
 | zero => cases h
 | succ m => exact ⟨m, rfl⟩
theorem parts_take (k : Nat) (D : Int) (x : ExV) (i : Nat) (h : i < x.sub.length) : (x.sub.take (i + 1)).flatMap (partsX k D) = (x.sub.take i).flatMap (partsX k D) ++ partsX k D (x.sub.getD i noX) := by
 rw [List.take_add_one, List.getElem?_eq_getElem h, List.getD_eq_getElem?_getD, List.getElem?_eq_getElem h, List.flatMap_append]
 simp
theorem flat_pre (k : Nat) (D : Int) (l : List ExV) (i : Nat) : (l.take i).flatMap (partsX k D) <+: l.flatMap (partsX k D) := by
 conv => rhs; rw [← List.take_append_drop i l, List.flatMap_append]
 exact List.prefix_append _ _
set_option maxHeartbeats 4000000 in
set_option maxRecDepth 100000 in
theorem visit_in (F : Fence) (hd : F.depth = none) (hv : F.fn 57) (hro : F.round = none) (l n₁ N B : Nat) (w : World) (J Jx : List (PartOf w) → World → Prop)
  (hJ : ∀ s W W', J s W → W.grownBy W' none → J s W')
  (hY : ∀ m pre x W, J pre W → pre.length < N → YieldAt F m Tryz.prog l (encOf x) W fun e W' =>
   (e = .returned (.bool true) ∧ J (pre ++ [x]) W' ∧ Kp2 w.heap.size n₁ W W') ∨ (e = .returned (.bool false) ∧ Jx (pre ++ [x]) W')) :
  ∀ (k n : Nat) (c : EC) (x : ExV) (D : Int) (pre : List (PartOf w)) (W : World), ExAt k w c.val x → Below w.heap.size w W → n₁ ≤ W.heap.size → 0 ≤ D → D + k ≤ 2000 → J pre W → pre.length + (partsX k D x).length ≤ N →
   CallsIn F n Tryz.prog 57 #[.int .i64 D, c.val, .func (.yield l) #[] #[]] W fun e W' =>
    (e = .returned (.bool true) ∧ ∃ ys : List (PartOf w), ys.map plainOf = partsX k D x ∧ J (pre ++ ys) W' ∧ Kp2 w.heap.size n₁ W W') ∨
    (e = .returned (.bool false) ∧ ∃ ys : List (PartOf w), ys.map plainOf <+: partsX k D x ∧ Jx (pre ++ ys) W') := by
 intro k
 induction k with
 | zero => intro n c x D pre W h; cases h
 | succ k ih =>
  intro n c x D pre W hx hB hn hD hDk hJp hN;have hdd : ∀ k : Nat, (F.depth.isSome = true → 1 ≤ k) := fun k h => by rw [hd] at h; cases h
  obtain ⟨c', hcv, hc, hs⟩ := id hx;obtain rfl := ec_inj hcv;obtain ⟨o, ho⟩ : ∃ o, o = Obj.cells #[.int .i64 c.k, .int .i64 c.t, .bool c.s.a, .slice c.s.p c.s.n c.s.c, .bool c.s.d, .slice c.s.q c.s.m c.s.e, .slice c.p c.n c.c] 28 (0, 0) := ⟨_, rfl⟩
  have hB1 : Below w.heap.size w (W.alloc o) := hB.trans ((Below.refl _ W).alloc hB.size o);have hJ1 : J pre (W.alloc o) := hJ _ _ _ hJp (World.grownBy_alloc W o none);have hK0 : Kp2 w.heap.size n₁ W (W.alloc o) := Kp2.ofBelow hB.size ((Below.refl _ W).alloc (Nat.le_refl _) o);have hl1 : 1 ≤ (partsX (k + 1) D x).length := by simp [partsX]
  obtain ⟨y0, hy0, hy1⟩ : ∃ y0 : PartOf w, encOf y0 = #[.int .i64 D, c.val] ∧ plainOf y0 = (D, x) := ⟨⟨(D, c, x), hD, by show D ≤ 2000; omega, k + 1, by omega, hx⟩, rfl, rfl⟩
  have hE1 := heap_new W o;obtain ⟨fn, tmps, assign, body, hy, hR⟩ := YieldAt.mono (R' := fun e W2 => (e = .returned (.bool true) ∧ J (pre ++ [y0]) W2 ∧ Kp2 w.heap.size n₁ W W2 ∧ Hid (W2.heap[W.heap.size]? = some o) ∧ W2.cell? ⟨W.heap.size, 6, none⟩ = some (.slice c.p c.n c.c)) ∨ (e = .returned (.bool false) ∧ Jx (pre ++ [y0]) W2)) (hY (n - 1) pre y0 (W.alloc o) hJ1 (by omega)) (fun e W2 h => h.elim (fun ⟨he, hj, hk⟩ => .inl ⟨he, hj, hK0.trans hk, hide (hk.cells _ _ hn hE1 (by rw [ho]; rfl)), by
   have := hk.cells _ _ hn hE1 (by rw [ho]; rfl);rw [ho] at this;exact (ecCells0 this).2.2.2.2.2.2⟩) .inr)
  rw [hy0] at hy;have HS := hide hs;have HIH := hide ih;have HHN := hide hN;have HDK := hide hDk;have big := hc.big;have room := hc.room;have HN := hide hc.n;have hD2 : D ≤ 2000 := by omega
  clear hs ih hN hc hx hJp hDk;clear hcv hy0 hl1 hJ1 hE1;unfold EC.val at hy;refine callsIn_of_wp Tryz.func57 rfl hv ?_ hro;simp only [Tryz.ntmps57, List.size_toArray, List.length_cons, List.length_nil, Nat.reduceAdd, Nat.reduceSub, Array.replicate_succ, Array.replicate_zero, List.push_toArray, List.append_toArray, List.nil_append, List.cons_append];unfold EC.val;subst ho
  gi_wp2_with ((try refine ⟨hdd _, ?_⟩); refine hR.mono ?_; clear hR; rintro e W2 (⟨rfl, hJ2, hk2, hE2, c6⟩ | ⟨rfl, hx2⟩))
  ·gi_loopw [17] (fun p wr => ∃ (i : Nat) (ys : List (PartOf w)), p = .int .i64 i ∧ i ≤ c.n ∧ Hid (ys.map plainOf = (D, x) :: (x.sub.take i).flatMap (partsX k (D + 1))) ∧ Hid (J (pre ++ ys) wr) ∧ Hid (Kp2 w.heap.size n₁ W wr)) (fun p wr => c.n - (intOf p).toNat)
   case atStart => exact ⟨0, [y0], rfl, by omega, hide (by simp [hy1]), hide hJ2, hide hk2⟩
   case round =>
    obtain ⟨i, ys, rfl, hi, HY, HJ, HK⟩ := hrel;by_cases hlt : i < c.n
    ·have hk' : i < x.sub.length := by rw [← HN.out]; exact hlt
     obtain ⟨g, off, d, hp, hg, hd', hyy⟩ := HS.out i hk';have HBw : Below w.heap.size w wr := hB.trans HK.out.below;obtain ⟨d0, d1, d2, d3, d4, d5, d6⟩ := hd'.on hg HBw;have hl2 : (pre ++ ys).length + (partsX k (D + 1) (x.sub.getD i noX)).length ≤ N := by
      have e1 := congrArg List.length HY.out;have e2 := (flat_pre k (D + 1) x.sub (i + 1)).length_le;rw [parts_take k (D + 1) x i hk', List.length_append] at e2;have e3 := HHN.out;simp only [partsX, List.length_cons, List.length_map] at e1 e3;rw [List.length_append];omega
     have X := hide (HIH.out (n - 1) d (x.sub.getD i noX) (D + 1) (pre ++ ys) (wr.alloc (Obj.cells #[.int .i64 d.k, .int .i64 d.t, .bool d.s.a, .slice d.s.p d.s.n d.s.c, .bool d.s.d, .slice d.s.q d.s.m d.s.e, .slice d.p d.n d.c] 28 (0, 0))) hyy
      (HBw.trans ((Below.refl _ wr).alloc HBw.size _)) (by have := HK.out.below.size; simp; omega) (by omega) (by have := HDK.out; omega) (hJ _ _ _ HJ.out (World.grownBy_alloc _ _ none)) hl2)
     have HKA := hide (HK.out.trans (Kp2.ofBelow (n₁ := n₁) HBw.size ((Below.refl _ wr).alloc (Nat.le_refl _) (Obj.cells #[.int .i64 d.k, .int .i64 d.t, .bool d.s.a, .slice d.s.p d.s.n d.s.c, .bool d.s.d, .slice d.s.q d.s.m d.s.e, .slice d.p d.n d.c] 28 (0, 0)))));clear hl2 hyy HBw c6 hJ hY HIH HS HJ HK;unfold EC.val at X;rw [hp]
     gi_wp2_with fail
     refine (unhide X).mono ?_;clear X d0 d1 d2 d3 d4 d5 d6;rintro e W3 (⟨rfl, zs, hz, hJ3, hk3⟩ | ⟨rfl, zs, hz, hx3⟩)
     ·have HZ : Hid ((ys ++ zs).map plainOf = (D, x) :: (x.sub.take (i + 1)).flatMap (partsX k (D + 1))) := hide (by
       rw [List.map_append, HY.out, hz, parts_take k (D + 1) x i hk']; rfl)
      have HJ3 := hide hJ3;have HK3 := hide (HKA.out.trans hk3);clear hz hJ3 hk3 HKA HY
      gi_wp2
      go_roundw
      case rel => exact ⟨i + 1, ys ++ zs, by go_num, by omega, HZ, hide (by rw [← List.append_assoc]; exact HJ3.out), HK3⟩
      case measure => simp [intOf]; omega
     ·gi_wp2
      go_ret
      refine .inr ⟨rfl, ys ++ zs, ?_, by rw [← List.append_assoc]; exact hx3⟩;obtain ⟨r, hr⟩ := hz;obtain ⟨r2, hr2⟩ := flat_pre k (D + 1) x.sub (i + 1);refine ⟨r ++ r2, ?_⟩;rw [List.map_append, HY.out];show _ = (D, x) :: x.sub.flatMap (partsX k (D + 1));rw [← hr2, parts_take k (D + 1) x i hk', ← hr]
      simp
    ·have hge : decide ((i : Int) < (c.n : Int)) = false := by simp; omega
     gi_wp2
     go_ret
     refine .inl ⟨rfl, ys, ?_, HJ.out, HK.out⟩;rw [HY.out, List.take_of_length_le (by have := HN.out; omega)]
     rfl
  ·go_ret
   exact .inr ⟨rfl, [y0], by simp [hy1, partsX], hx2⟩
set_option maxHeartbeats 2000000 in
set_option maxRecDepth 100000 in
theorem each1_in (F : Fence) (hd : F.depth = none) (n : Nat) (he : F.fn 56) (hv : F.fn 57) (hro : F.round = none) (l n₁ b : Nat) (w : World) (J Jx : List (PartOf w) → World → Prop) (k : Nat) (c : EC) (x : ExV)
  (hJ : ∀ s W W', J s W → W.grownBy W' none → J s W')
  (hY : ∀ pre y W, J pre W → pre.length < (partsX k 0 x).length → YieldAt F (n - 1) Tryz.prog l (encOf y) W fun e W' =>
   (e = .returned (.bool true) ∧ J (pre ++ [y]) W' ∧ Kp2 w.heap.size n₁ W W') ∨ (e = .returned (.bool false) ∧ Jx (pre ++ [y]) W'))
  (W : World) (hx : ExAt k w c.val x) (hk : k ≤ 2000) (hB : Below w.heap.size w W) (hn : n₁ ≤ W.heap.size) (hE : W.heap[b]? = some (Obj.cells #[.int .i64 c.k, .int .i64 c.t, .bool c.s.a, .slice c.s.p c.s.n c.s.c, .bool c.s.d, .slice c.s.q c.s.m c.s.e, .slice c.p c.n c.c] 28 (0, 0))) (h0 : J [] W) :
  CallsIn F n Tryz.prog 56 #[.func (.yield l) #[] #[], .pointer (some ⟨b, 0, none⟩)] W fun e W' => (∃ v, e = .returned v) ∧
   ((∃ ys, ys.map plainOf = partsX k 0 x ∧ J ys W') ∨ (∃ pre, pre.map plainOf <+: partsX k 0 x ∧ Jx pre W')) := by
 have hdd : ∀ k : Nat, (F.depth.isSome = true → 1 ≤ k) := fun k h => by rw [hd] at h; cases h
 have hp := hide (visit_in F hd hv hro l n₁ (partsX k 0 x).length 0 w J Jx hJ (fun m pre x W hj hl => yield_anyDepth hd m (hY pre x W hj hl)) k (n - 1) c x 0 [] W hx hB hn (by omega) (by omega) h0 (by simp));obtain ⟨c0, c1, c2, c3, c4, c5, c6⟩ := ecCells0 hE;clear hY hJ hx hE h0;refine callsIn_of_wp Tryz.func56 rfl he ?_ hro;simp only [Tryz.ntmps56, List.size_toArray, List.length_cons, List.length_nil, Nat.reduceAdd, Nat.reduceSub, Array.replicate_succ, Array.replicate_zero, List.push_toArray, List.append_toArray, List.nil_append, List.cons_append];unfold EC.val at hp
 gi_wp2_with ((try refine ⟨hdd _, ?_⟩); gi_at_call 57; refine (unhide hp).mono ?_; clear hp; rintro e W1 (⟨rfl, ys, hz, hJ1, _⟩ | ⟨rfl, ys, hq, hx⟩))
 ·go_end0
  exact ⟨⟨_, rfl⟩, .inl ⟨ys, hz, by simpa using hJ1⟩⟩
 ·go_end0
  exact ⟨⟨_, rfl⟩, .inr ⟨ys, hq, by simpa using hx⟩⟩
set_option maxHeartbeats 1000000 in
theorem each_in (F : Fence) (n : Nat) (he : F.fn 31) (hro : F.round = none) (c : EC) (w : World) :
  CallsIn F n Tryz.prog 31 #[c.val] w fun e w' => e = .returned (.func (.func 56) #[] #[.pointer (some ⟨w.heap.size, 0, none⟩)]) ∧ w' = w.alloc (Obj.cells #[.int .i64 c.k, .int .i64 c.t, .bool c.s.a, .slice c.s.p c.s.n c.s.c, .bool c.s.d, .slice c.s.q c.s.m c.s.e, .slice c.p c.n c.c] 28 (0, 0)) := by
 refine callsIn_of_wp Tryz.func31 rfl he ?_ hro;simp only [Tryz.ntmps31, List.size_toArray, List.length_cons, List.length_nil, Nat.reduceAdd, Nat.reduceSub, Array.replicate_succ, Array.replicate_zero, List.push_toArray, List.append_toArray, List.nil_append, List.cons_append];unfold EC.val
 gi_wp2
 go_ret
 exact ⟨rfl, rfl⟩
theorem each_stops (F : Fence) (hd : F.depth = none) (n : Nat) (he : F.fn 56) (hv : F.fn 57) (hro : F.round = none) (b : Nat) (w w0 : World) (k : Nat) (c : EC) (x : ExV) (hx : ExAt k w c.val x) (hk : k ≤ 2000) (hB : Below w.heap.size w w0) (hb : b < w0.heap.size)
  (hE : w0.heap[b]? = some (Obj.cells #[.int .i64 c.k, .int .i64 c.t, .bool c.s.a, .slice c.s.p c.s.n c.s.c, .bool c.s.d, .slice c.s.q c.s.m c.s.e, .slice c.p c.n c.c] 28 (0, 0))) :
  SeqStopsK F n Tryz.prog 56 #[.pointer (some ⟨b, 0, none⟩)] (encOf (w := w)) (Kp2 w.heap.size w0.heap.size) (fun ys => ys.map plainOf = partsX k 0 x) (fun pre => pre.map plainOf <+: partsX k 0 x) (partsX k 0 x).length w0 := fun l J Jx W hW hJ hJx hY h0 =>
 each1_in F hd n he hv hro l w0.heap.size b w J Jx k c x (fun s W W' hs hg => hJ s W W' none hs hg (fun r e => by cases e)) hY W hx hk (hB.trans (hW.mono hB.size)) hW.size ((hW.block b hb).trans hE) h0
end Go.Proofs.YtlkcjhcmkaddaaaGreat
namespace Go.Proofs.YtlkcjhcmkaddaaaGreat
open Go.RowKit Go.Shelf
attribute [local go_sem] Oper.semAt_some
def tallD (l : List (Int × ExV)) : Int := l.foldl (fun m y => max m (y.1 + 1)) 0
theorem tallD_snoc (l : List (Int × ExV)) (y : Int × ExV) : tallD (l ++ [y]) = max (tallD l) (y.1 + 1) := by simp [tallD]
theorem tall_ge (l : List (Int × ExV)) : ∀ m : Int, m ≤ l.foldl (fun m y => max m (y.1 + 1)) m := by
 induction l with
 | nil => intro m; simp
 | cons y l ih => intro m; have := ih (max m (y.1 + 1)); rw [List.foldl_cons]; omega
theorem tallD_nonneg (l : List (Int × ExV)) : 0 ≤ tallD l := tall_ge l 0
theorem tallD_pre {a b : List (Int × ExV)} (h : a <+: b) : tallD a ≤ tallD b := by
 obtain ⟨r, rfl⟩ := h;unfold tallD;rw [List.foldl_append];exact tall_ge r _
def sizeP (l : List (Int × ExV)) : Int × Int := if l.length ≤ 40 ∧ tallD l ≤ 8 then ((l.length : Int), tallD l) else (0, 0)
structure Own1 (W : World) (b : Nat) (v : Value) : Prop where
 cell : W.cell? ⟨b, 0, none⟩ = some v
 soft : W.frozen? ⟨b, 0, none⟩ = false
theorem Own1.new (W : World) (v : Value) (t : TypeId) : Own1 (W.alloc (.cells #[v] t)) W.heap.size v := by
 have h := World.alloc_heap_new W (.cells #[v] t)
 constructor
 ·unfold World.cell?;rw [h]
  rfl
 ·unfold World.frozen?;rw [h]
  rfl
theorem Own1.kept {W W' : World} {b : Nat} {v : Value} {row : Option Nat} (h : Own1 W b v) (hg : W.grownBy W' row) (hr : ∀ r, row = some r → ∃ o : Obj, W.heap[r]? = some o ∧ o.isCells = false) : Own1 W' b v :=
 ⟨cell_kept h.cell hg hr, (frozen_kept h.cell hg hr).trans h.soft⟩
theorem Own1.alloc {W : World} {b : Nat} {v : Value} (h : Own1 W b v) (o : Obj) : Own1 (W.alloc o) b v := h.kept (World.grownBy_alloc W o none) (fun r e => by cases e)
theorem Own1.drew {W : World} {b : Nat} {v : Value} (h : Own1 W b v) : Own1 W.drew b v := ⟨h.cell, h.soft⟩
theorem Own1.set {W : World} {b : Nat} {v : Value} (h : Own1 W b v) (u : Value) : Own1 (W.setCell ⟨b, 0, none⟩ u) b u :=
 ⟨World.cell?_setCell_same' _ _ _ (by rw [h.cell]; rfl), by rw [World.frozen?_setCell]; exact h.soft⟩
theorem Own1.other {W : World} {b b' : Nat} {v : Value} (h : Own1 W b v) (u : Value) (hne : b ≠ b') : Own1 (W.setCell ⟨b', 0, none⟩ u) b v :=
 ⟨(World.cell?_setCell_other W _ _ _ (by intro e; cases e; exact hne rfl)).trans h.cell, by rw [World.frozen?_setCell]; exact h.soft⟩
theorem Kp2.setCell {n₀ n₁ : Nat} (W : World) (b : Nat) (v : Value) (h0 : n₀ ≤ b) (h1 : b < n₁) : Kp2 n₀ n₁ W (W.setCell ⟨b, 0, none⟩ v) :=
 ⟨(Below.refl n₀ W).setCell (p := ⟨b, 0, none⟩) h0 v, fun k o hk ho _ => (Below.heap_setCell _ _ _ k (fun e => by dsimp only at e; omega)).trans ho⟩
set_option maxRecDepth 100000 in
set_option maxHeartbeats 4000000 in
theorem size_in (F : Fence) (hd : F.depth = none) (n : Nat) (hs : F.fn 30) (h4 : F.fn 31) (h5 : F.fn 56) (h6 : F.fn 57) (hro : F.round = none) (hn : 3 ≤ n) (k : Nat) (c : EC) (x : ExV) (w : World) (hx : ExAt k w c.val x) (hk : k ≤ 2000) :
  CallsIn F n Tryz.prog 30 #[c.val] w fun e w' => e = .returned (.tuple #[.int .i64 (sizeP (partsX k 0 x)).1, .int .i64 (sizeP (partsX k 0 x)).2]) ∧ Below w.heap.size w w' := by
 have h1 : 1 ≤ n := by omega
 have HX := hide hx;obtain ⟨R, hR⟩ : ∃ R, R = sizeP (partsX k 0 x) := ⟨_, rfl⟩
 rw [← hR];have HR := hide hR;clear hR;have hdd : ∀ k : Nat, (F.depth.isSome = true → 1 ≤ k) := fun k h => by rw [hd] at h; cases h
 clear hx;refine callsIn_of_wp_marks Tryz.func30 rfl hs ?_ hro;simp only [Tryz.ntmps30, List.size_toArray, List.length_cons, List.length_nil, Nat.reduceAdd, Nat.reduceSub, Array.replicate_succ, Array.replicate_zero, List.push_toArray, List.append_toArray, List.nil_append, List.cons_append];unfold EC.val
 gi_wp2_with ((try refine ⟨hdd _, ?_⟩); gi_at_call 31; refine (each_in F (n - 1) h4 hro c _).mono ?_; rintro e w' ⟨rfl, rfl⟩)
 have o1 := (Own1.new (w.alloc (Obj.cells #[.int .i64 c.k, .int .i64 c.t, .bool c.s.a, .slice c.s.p c.s.n c.s.c, .bool c.s.d, .slice c.s.q c.s.m c.s.e, .slice c.p c.n c.c] 28 (0, 0))) (.int .i64 0) 3).alloc (Obj.cells #[.int .i64 0] 3);have o2 := Own1.new ((w.alloc (Obj.cells #[.int .i64 c.k, .int .i64 c.t, .bool c.s.a, .slice c.s.p c.s.n c.s.c, .bool c.s.d, .slice c.s.q c.s.m c.s.e, .slice c.p c.n c.c] 28 (0, 0))).alloc (Obj.cells #[.int .i64 0] 3)) (.int .i64 0) 3;obtain ⟨ob, hob⟩ : ∃ ob, ob = Obj.cells #[.int .i64 c.k, .int .i64 c.t, .bool c.s.a, .slice c.s.p c.s.n c.s.c, .bool c.s.d, .slice c.s.q c.s.m c.s.e, .slice c.p c.n c.c] 28 (0, 0) := ⟨_, rfl⟩
 rw [← hob] at o1 o2 ⊢;obtain ⟨w3, hw3⟩ : ∃ w3, w3 = ((w.alloc ob).alloc (Obj.cells #[.int .i64 0] 3)).alloc (Obj.cells #[.int .i64 0] 3) := ⟨_, rfl⟩
 have hB3 : Below w.heap.size w w3 := by rw [hw3]; exact (((Below.refl _ w).alloc (Nat.le_refl _) _).alloc (by simp) _).alloc (by simp; omega) _
 have hz3 : w3.heap.size = w.heap.size + 1 + 1 + 1 := by rw [hw3]; simp
 simp only [World.size_alloc] at o1 o2;rw [← hw3] at o1 o2 ⊢;have o1 := o1.alloc ob;have o2 := o2.alloc ob;have hE := heap_new w3 ob;obtain ⟨w4, hw4⟩ : ∃ w4, w4 = w3.alloc ob := ⟨_, rfl⟩
 have hB4 : Below w.heap.size w w4 := by rw [hw4]; exact hB3.alloc (by omega) _
 have hz4 : w4.heap.size = w.heap.size + 1 + 1 + 1 + 1 := by rw [hw4]; simp [hz3]
 rw [← hw4] at o1 o2 hE ⊢;rw [hz3, hob] at hE;clear hw4 hw3 hB3 hz3;refine wpIn_rangeFunc_ownF hro h1 (gf := 56) (lb := #[.pointer (some ⟨w.heap.size + 1 + 1 + 1, 0, none⟩)]) rfl h5 (enters_of Tryz.func56 (by kernel_rfl) rfl)
  (each_stops F hd (n - 1) h5 h6 hro (w.heap.size + 1 + 1 + 1) w w4 k c x HX.out hk hB4 (by omega) hE) Kp2.trans (Kp2.turn (by omega)) (Below.refl _ _) (fun _ => rfl)
  (fun pre W => (Own1 W (w.heap.size + 1) (.int .i64 (pre.length : Int)) ∧ Own1 W (w.heap.size + 1 + 1) (.int .i64 (tallD (pre.map plainOf))) ∧ pre.length ≤ 40 ∧ tallD (pre.map plainOf) ≤ 8) ∧ Below w.heap.size w W)
  (fun c pre W => (c = .ret ∧ Own1 W (w.heap.size + 1) (.int .i64 0) ∧ Own1 W (w.heap.size + 1 + 1) (.int .i64 0) ∧ ¬ (pre.length ≤ 40 ∧ tallD (pre.map plainOf) ≤ 8)) ∧ Below w.heap.size w W)
  (OwnFrom.and (Own.from (fun s A B row hs hg hr => ⟨hs.1.kept hg hr, hs.2.1.kept hg hr, hs.2.2⟩) _) (ownFrom_below (Nat.le_refl _) (by omega)))
  (fun c => OwnFrom.and (Own.from (fun s A B row hs hg hr => ⟨hs.1, hs.2.1.kept hg hr, hs.2.2.1.kept hg hr, hs.2.2.2⟩) _) (ownFrom_below (Nat.le_refl _) (by omega)))
  ⟨⟨o1, o2, by simp, by simp [tallD]⟩, hB4⟩
  (fun y => { tmps := #[.agg #[.int .i64 c.k, .int .i64 c.t, .bool c.s.a, .slice c.s.p c.s.n c.s.c, .bool c.s.d, .slice c.s.q c.s.m c.s.e, .slice c.p c.n c.c], .pointer (some ⟨w.heap.size, 0, none⟩), .pointer (some ⟨w.heap.size + 1, 0, none⟩), .pointer (some ⟨w.heap.size + 1 + 1, 0, none⟩), .int .i64 y.1.1,
   .agg #[.int .i64 c.k, .int .i64 c.t, .bool c.s.a, .slice c.s.p c.s.n c.s.c, .bool c.s.d, .slice c.s.q c.s.m c.s.e, .slice c.p c.n c.c], .func (.func 56) #[] #[.pointer (some ⟨w.heap.size + 1 + 1 + 1, 0, none⟩)], .int .i64 y.1.1, y.1.2.1.val, undef, undef, undef, undef, undef, undef, undef, undef, undef, undef, undef, undef, undef, undef], defers := [] }) ?assign ?body ?done ?stop
 case assign =>
  intro l y W K hK;unfold encOf
  gi_wp2
  exact hK
 case body =>
  rintro l pre ⟨⟨yd, yc, yx⟩, hy0, hy1, hyk⟩ W ⟨⟨p1, p2, hl, ht⟩, hB⟩ _;dsimp only at hy0 hy1;have ht0 := tallD_nonneg (pre.map plainOf);have hT1 : tallD ((pre ++ [(⟨(yd, yc, yx), hy0, hy1, hyk⟩ : PartOf w)]).map plainOf) = max (tallD (pre.map plainOf)) (yd + 1) := by rw [List.map_append]; exact tallD_snoc _ _
  have hN1 : (pre ++ [(⟨(yd, yc, yx), hy0, hy1, hyk⟩ : PartOf w)]).length = pre.length + 1 := by simp
  generalize (pre ++ [(⟨(yd, yc, yx), hy0, hy1, hyk⟩ : PartOf w)]) = pre1 at *;generalize tallD (pre.map plainOf) = T at *;generalize hLL : (pre.length : Int) = L at *;have hL0 : 0 ≤ L := by omega
  have hL1 : L ≤ 40 := by omega
  have q1 := p1.set (.int .i64 (L + 1));have q2 := p2.other (.int .i64 (L + 1)) (b' := w.heap.size + 1) (by omega);have r1 := q1.other (.int .i64 (max T (yd + 1))) (b' := w.heap.size + 1 + 1) (by omega);have r2 := q2.set (.int .i64 (max T (yd + 1)));have s1 := r1.set (.int .i64 0);have s2 := r2.other (.int .i64 0) (b' := w.heap.size + 1) (by omega);have t1 := s1.other (.int .i64 0) (b' := w.heap.size + 1 + 1) (by omega);have t2 := s2.set (.int .i64 0);have hk2 := (Kp2.setCell (n₀ := w.heap.size) (n₁ := w4.heap.size) W (w.heap.size + 1) (.int .i64 (L + 1)) (by omega) (by omega)).trans (Kp2.setCell _ (w.heap.size + 1 + 1) (.int .i64 (max T (yd + 1))) (by omega) (by omega));have ko2 := (KeepsOthers.setCell W ⟨w.heap.size + 1, 0, none⟩ (.int .i64 (L + 1))).trans (KeepsOthers.setCell _ ⟨w.heap.size + 1 + 1, 0, none⟩ (.int .i64 (max T (yd + 1))));have hk4 := hide ((hk2.trans (Kp2.setCell _ (w.heap.size + 1) (.int .i64 0) (by omega) (by omega))).trans (Kp2.setCell _ (w.heap.size + 1 + 1) (.int .i64 0) (by omega) (by omega)));have ko4 := hide ((ko2.trans (KeepsOthers.setCell _ ⟨w.heap.size + 1, 0, none⟩ (.int .i64 0))).trans (KeepsOthers.setCell _ ⟨w.heap.size + 1 + 1, 0, none⟩ (.int .i64 0)));have hk2 := hide hk2;have ko2 := hide ko2;have HB := hide hB;have T1 := hide t1;have T2 := hide t2;have R1 := hide r1;have R2 := hide r2;obtain ⟨p1c, p1f⟩ := p1;obtain ⟨p2c, p2f⟩ := p2;obtain ⟨q1c, q1f⟩ := q1;obtain ⟨q2c, q2f⟩ := q2;obtain ⟨r1c, r1f⟩ := r1;obtain ⟨r2c, r2f⟩ := r2;obtain ⟨s1c, s1f⟩ := s1;obtain ⟨s2c, s2f⟩ := s2;clear t1 t2 o1 o2 hE HX hB;dsimp only;by_cases g1 : 40 < L + 1
  ·have g1' : decide (40 < L + 1) = true := by simp; omega
   gi_wp2
   exact ⟨ko4.out, ⟨rfl, T1.out, T2.out, fun h => by omega⟩, HB.out.trans hk4.out.below⟩
  ·have g1' : decide (40 < L + 1) = false := by simp; omega
   by_cases g2 : 8 < max T (yd + 1)
   ·have g2' : decide (8 < max T (yd + 1)) = true := by simp; omega
    gi_wp2
    exact ⟨ko4.out, ⟨rfl, T1.out, T2.out, fun h => by rw [hT1]; exact g2⟩, HB.out.trans hk4.out.below⟩
   ·have g2' : decide (8 < max T (yd + 1)) = false := by simp; omega
    gi_wp2
    exact ⟨ko2.out, hz4 ▸ hk2.out, ⟨by rw [show ((pre1.length : Nat) : Int) = L + 1 by omega]; exact R1.out, by rw [hT1]; exact R2.out, by omega, by rw [hT1]; omega⟩, HB.out.trans hk2.out.below⟩
 case done =>
  rintro D ys W hD hS ⟨⟨p1, p2, hl, ht⟩, hB⟩ hK;have hLn : ((partsX k 0 x).length : Int) = (ys.length : Int) := by rw [← hS, List.length_map]
  have e1 : sizeP (partsX k 0 x) = ((ys.length : Int), tallD (ys.map plainOf)) := by
   unfold sizeP;rw [hLn, if_pos ⟨by omega, by rw [← hS]; exact ht⟩, hS]
  have E := hide (HR.out.trans e1);clear e1 HR;have q1 := p1.set (.int .i64 (ys.length : Int));have q2 := p2.other (.int .i64 (ys.length : Int)) (b' := w.heap.size + 1) (by omega);have r1 := q1.other (.int .i64 (tallD (ys.map plainOf))) (b' := w.heap.size + 1 + 1) (by omega);have r2 := q2.set (.int .i64 (tallD (ys.map plainOf)));have hk2 := hide ((Kp2.setCell (n₀ := w.heap.size) (n₁ := w4.heap.size) W (w.heap.size + 1) (.int .i64 (ys.length : Int)) (by omega) (by omega)).trans (Kp2.setCell _ (w.heap.size + 1 + 1) (.int .i64 (tallD (ys.map plainOf))) (by omega) (by omega)));have hK2 := hide (((KeepsOthers.setCell W ⟨w.heap.size + 1, 0, none⟩ (.int .i64 (ys.length : Int))).trans (KeepsOthers.setCell _ ⟨w.heap.size + 1 + 1, 0, none⟩ (.int .i64 (tallD (ys.map plainOf))))).same D _ hK rfl);have R1 := hide r1;have R2 := hide r2;have HB := hide hB;obtain ⟨p1c, p1f⟩ := p1;obtain ⟨p2c, p2f⟩ := p2;obtain ⟨q1c, q1f⟩ := q1;obtain ⟨q2c, q2f⟩ := q2;clear r1 r2 o1 o2 hE HX hB hK hS hLn;generalize tallD (ys.map plainOf) = T at *;generalize (ys.length : Int) = L at *
  gi_wp2
  gi_region
  all_goals gi_wp2
  all_goals
   have hk3 := hK2.out;have y1 := R1.out.drew.kept (grownBy_putObj' _ D (.deferred none)) (fun r e => by cases e; exact ⟨_, hk3, rfl⟩);have y2 := R2.out.drew.kept (grownBy_putObj' _ D (.deferred none)) (fun r e => by cases e; exact ⟨_, hk3, rfl⟩);refine ⟨by simp, .inl ⟨_, _, rfl, run_takeDeferred hk3, ?_⟩⟩;refine ⟨.tuple #[.int .i64 L, .int .i64 T], ?_, by rw [E.out], (HB.out.trans hk2.out.below).trans ((belowK_b (w := w) (Nat.le_refl _) _ D _ _ (by omega) hk3 rfl rfl).drew)⟩
   simp [results, Tryz.f30, go_sem, y1.cell, y2.cell]
 case stop =>
  rintro D c pre W hD hpre ⟨⟨rfl, z1, z2, hne⟩, hB⟩ hK;have e1 : sizeP (partsX k 0 x) = (0, 0) := by
   unfold sizeP;rw [if_neg ?_];intro h
   apply hne
   have h2 := hpre.length_le;have h3 := tallD_pre hpre;rw [List.length_map] at h2;omega
  have E := hide (HR.out.trans e1);clear e1 HR hne hpre
  gi_wp2
  refine ⟨by simp, .inl ⟨_, _, rfl, run_takeDeferred hK, ?_⟩⟩;have y1 := z1.kept (grownBy_putObj' _ D (.deferred none)) (fun r e => by cases e; exact ⟨_, hK, rfl⟩);have y2 := z2.kept (grownBy_putObj' _ D (.deferred none)) (fun r e => by cases e; exact ⟨_, hK, rfl⟩);refine ⟨.tuple #[.int .i64 0, .int .i64 0], ?_, by rw [E.out], hB.trans (belowK_b (w := w) (Nat.le_refl _) W D _ _ (by omega) hK rfl rfl)⟩
  simp [results, Tryz.f30, go_sem, y1.cell, y2.cell]
end Go.Proofs.YtlkcjhcmkaddaaaGreat
namespace Go.Proofs.YtlkcjhcmkaddaaaGreat
open Go.RowKit
set_option maxHeartbeats 2000000 in
set_option maxRecDepth 100000 in
theorem equalR_any (v u : Value) (si ti : List Rg) (w : World) (hv : RngsAt w v si) (hu : RngsAt w u ti) :
  Calls Tryz.prog 99 #[v, u] w fun r w' => r = .returned (.bool (rngEqB si ti)) ∧ Below w.heap.size w w' := by
 have HI := hide hv;have HJ := hide hu;have nIle := hv.2.1;have nJle := hu.2.1;have lI := rngEqB_len si ti;obtain ⟨ai, ci, rfl⟩ := hv.form;obtain ⟨bi, di, rfl⟩ := hu.form;clear hv hu;obtain ⟨nI, hnI⟩ : ∃ n : Nat, n = si.length := ⟨_, rfl⟩
 obtain ⟨nJ, hnJ⟩ : ∃ n : Nat, n = ti.length := ⟨_, rfl⟩
 rw [← hnI] at nIle lI HI ⊢;rw [← hnJ] at nJle lI HJ ⊢;have HnI := hide hnI;have HnJ := hide hnJ;have LI := hide lI;clear hnI hnJ lI;by_cases eI : nI = nJ
 ·subst eI;clear LI;have b1 : ((nI : Int) != (nI : Int)) = false := by simp
  go_enter Tryz.func99, Tryz.ntmps99
  go_wp2
  go_loopw [13] (fun i wr => ∃ k : Nat, i = .int .i64 k ∧ k ≤ nI ∧ Hid (rngEqB (si.drop k) (ti.drop k) = rngEqB si ti) ∧ Hid (Below w.heap.size w wr)) (fun i _ => nI - (intOf i).toNat)
  case atStart => exact ⟨0, rfl, by omega, hide rfl, hide (Below.refl _ _)⟩
  case round =>
   obtain ⟨k, rfl, hk, HG, HB⟩ := hrel;by_cases hlt : k < nI
   ·have hk1 : k < si.length := by rw [← HnI.out]; exact hlt
    have hk2 : k < ti.length := by rw [← HnJ.out]; exact hlt
    obtain ⟨b, off, rfl, hb, x0, x1⟩ := (HI.out.on HB.out).at.2 k hk1;obtain ⟨b', off', rfl, hb', y0, y1⟩ := (HJ.out.on HB.out).at.2 k hk2;have G0 := HG.out;rw [drop_getD si k (0, 0) hk1, drop_getD ti k (0, 0) hk2] at G0;generalize si.getD k (0, 0) = r at *;generalize ti.getD k (0, 0) = q at *;simp only [rngEqB] at G0;have G1 := hide G0;clear G0 HG;cases f1 : (r.1 == q.1)
    ·have G2 : Hid (rngEqB si ti = false) := hide (by rw [← G1.out, f1]; rfl);clear G1
     go_wp2
     go_quiet (fail)
     go_wp2
     go_ret
     exact ⟨ret_bool (by rw [G2.out]), below_drewN HB.out _⟩
    ·cases f2 : (r.2 == q.2)
     ·have G2 : Hid (rngEqB si ti = false) := hide (by rw [← G1.out, f1, f2]; rfl);clear G1
      go_wp2
      go_quiet (fail)
      go_wp2
      go_ret
      exact ⟨ret_bool (by rw [G2.out]), below_drewN HB.out _⟩
     ·have G2 : Hid (rngEqB (si.drop (k + 1)) (ti.drop (k + 1)) = rngEqB si ti) := hide (by rw [← G1.out, f1, f2]; rfl);clear G1
      go_wp2
      go_quiet (fail)
      go_wp2
      exact ⟨⟨k + 1, by go_num, by omega, G2, hide (below_drewN HB.out _)⟩, by simp [intOf]; omega⟩
   ·have hge : (nI : Int) ≤ (k : Int) := by omega
    have G2 : Hid (rngEqB si ti = true) := hide (by
     rw [← HG.out, List.drop_eq_nil_of_le (by have := HnI.out; omega), List.drop_eq_nil_of_le (by have := HnJ.out; omega)]; rfl)
    clear HG
    go_wp2
    go_ret
    exact ⟨ret_bool (by rw [G2.out]), HB.out⟩
 ·have b1 : ((nI : Int) != (nJ : Int)) = true := by rw [bne_iff_ne]; omega
  have G := hide (LI.out eI);go_enter Tryz.func99, Tryz.ntmps99
  go_wp2
  go_ret
  exact ⟨ret_bool (by rw [G.out]), Below.refl _ _⟩
set_option maxHeartbeats 2000000 in
set_option maxRecDepth 100000 in
theorem equalS_any (v u : Value) (ss ts : List ByteArray) (w : World) (hv : StrsAt w v ss) (hu : StrsAt w u ts) :
  Calls Tryz.prog 100 #[v, u] w fun r w' => r = .returned (.bool (strEqB ss ts)) ∧ Below w.heap.size w w' := by
 have HI := hide hv;have HJ := hide hu;have nIle := hv.2.1;have nJle := hu.2.1;have lI := strEqB_len ss ts;obtain ⟨ai, ci, rfl⟩ := hv.form;obtain ⟨bi, di, rfl⟩ := hu.form;clear hv hu;obtain ⟨nI, hnI⟩ : ∃ n : Nat, n = ss.length := ⟨_, rfl⟩
 obtain ⟨nJ, hnJ⟩ : ∃ n : Nat, n = ts.length := ⟨_, rfl⟩
 rw [← hnI] at nIle lI HI ⊢;rw [← hnJ] at nJle lI HJ ⊢;have HnI := hide hnI;have HnJ := hide hnJ;have LI := hide lI;clear hnI hnJ lI;by_cases eI : nI = nJ
 ·subst eI;clear LI;have b1 : ((nI : Int) != (nI : Int)) = false := by simp
  go_enter Tryz.func100, Tryz.ntmps100
  go_wp2
  go_loopw [13] (fun i wr => ∃ k : Nat, i = .int .i64 k ∧ k ≤ nI ∧ Hid (strEqB (ss.drop k) (ts.drop k) = strEqB ss ts) ∧ Hid (Below w.heap.size w wr)) (fun i _ => nI - (intOf i).toNat)
  case atStart => exact ⟨0, rfl, by omega, hide rfl, hide (Below.refl _ _)⟩
  case round =>
   obtain ⟨k, rfl, hk, HG, HB⟩ := hrel;by_cases hlt : k < nI
   ·have hk1 : k < ss.length := by rw [← HnI.out]; exact hlt
    have hk2 : k < ts.length := by rw [← HnJ.out]; exact hlt
    obtain ⟨b, off, rfl, hb, x0⟩ := (HI.out.on HB.out).at.2 k hk1;obtain ⟨b', off', rfl, hb', y0⟩ := (HJ.out.on HB.out).at.2 k hk2;have G0 := HG.out;rw [drop_getD ss k ⟨#[]⟩ hk1, drop_getD ts k ⟨#[]⟩ hk2] at G0;generalize ss.getD k ⟨#[]⟩ = r at *;generalize ts.getD k ⟨#[]⟩ = q at *;simp only [strEqB] at G0;have G1 := hide G0;clear G0 HG;cases f1 : (r.toList == q.toList)
    ·have G2 : Hid (strEqB ss ts = false) := hide (by rw [← G1.out, f1]; rfl);clear G1
     go_wp2
     go_quiet (fail)
     go_wp2
     go_ret
     exact ⟨ret_bool (by rw [G2.out]), below_drewN HB.out _⟩
    ·have G2 : Hid (strEqB (ss.drop (k + 1)) (ts.drop (k + 1)) = strEqB ss ts) := hide (by rw [← G1.out, f1]; rfl);clear G1
     go_wp2
     go_quiet (fail)
     go_wp2
     exact ⟨⟨k + 1, by go_num, by omega, G2, hide (below_drewN HB.out _)⟩, by simp [intOf]; omega⟩
   ·have hge : (nI : Int) ≤ (k : Int) := by omega
    have G2 : Hid (strEqB ss ts = true) := hide (by
     rw [← HG.out, List.drop_eq_nil_of_le (by have := HnI.out; omega), List.drop_eq_nil_of_le (by have := HnJ.out; omega)]; rfl)
    clear HG
    go_wp2
    go_ret
    exact ⟨ret_bool (by rw [G2.out]), HB.out⟩
 ·have b1 : ((nI : Int) != (nJ : Int)) = true := by rw [bne_iff_ne]; omega
  have G := hide (LI.out eI);go_enter Tryz.func100, Tryz.ntmps100
  go_wp2
  go_ret
  exact ⟨ret_bool (by rw [G.out]), Below.refl _ _⟩
set_option maxHeartbeats 2000000 in
set_option maxRecDepth 100000 in
theorem same_any (v u : Value) (A B : SetV) (w : World) (hv : SetAt w v A) (hu : SetAt w u B) :
  Calls Tryz.prog 83 #[v, u] w fun r w' => r = .returned (.bool (sameB A B)) ∧ Below w.heap.size w w' := by
 obtain ⟨vi, vs, rfl, hI, hS⟩ := hv;obtain ⟨ui, us, rfl, hJ, hT⟩ := hu;obtain ⟨sa, si, sc, ss⟩ := A;obtain ⟨ta, ti, tc, ts⟩ := B;dsimp only at *;have HI := hide hI;have HS := hide hS;have HJ := hide hJ;have HT := hide hT;clear hI hS hJ hT;have HG : Hid (sameB ⟨sa, si, sc, ss⟩ ⟨ta, ti, tc, ts⟩ = (((sa == ta) && rngEqB si ti) && (sc == tc) && strEqB ss ts)) := hide (by
  unfold sameB;dsimp only;cases (sa == ta) <;> cases (sc == tc) <;> cases rngEqB si ti <;> cases strEqB ss ts <;> rfl)
 generalize sameB ⟨sa, si, sc, ss⟩ ⟨ta, ti, tc, ts⟩ = G at *;have ba := fun (o1 o2 : Obj) => hide (two_boxes w o1 o2)
 have hta : ta = sa ∨ ta = !sa := by cases ta <;> cases sa <;> simp
 rcases hta with rfl | rfl
 ·have hb1 : (ta == ta) = true := by simp
  obtain ⟨e1, e2, b2⟩ := (ba (.cells #[.bool ta, vi, .bool sc, vs] 25) (.cells #[.bool ta, ui, .bool tc, us] 25)).out;have X := hide (equalR_any _ _ si ti _ (HI.out.on b2) (HJ.out.on b2));have Y := fun (w1 : World) (h : Below w.heap.size w w1) => hide (equalS_any _ _ ss ts w1 (HS.out.on h) (HT.out.on h))
  have B2 := hide b2;have E1 := hide e1;have E2 := hide e2;clear e1 e2 b2 ba HI HJ HS HT;go_enter Tryz.func83, Tryz.ntmps83
  go_wp2_with fail
  refine (unhide X).mono ?_;rintro r w1 ⟨rfl, b1⟩;have c2 := cell_heap ((b1.block _ (lt_heap E1.out)).trans E1.out) 2;have c3 := cell_heap ((b1.block _ (lt_heap E1.out)).trans E1.out) 3;have d2 := cell_heap ((b1.block _ (lt_heap E2.out)).trans E2.out) 2;have d3 := cell_heap ((b1.block _ (lt_heap E2.out)).trans E2.out) 3;simp only [List.getElem?_toArray, List.getElem?_cons_zero, List.getElem?_cons_succ] at c2 c3 d2 d3;have B3 := hide (B2.out.trans (b1.mono B2.out.size));clear X B2 b1 E1 E2;cases hr : rngEqB si ti
  ·have HE : Hid (G = false) := hide (by rw [HG.out, hr]; simp)
   go_wp2
   go_ret
   exact ⟨ret_bool HE.out.symm, B3.out⟩
  ·have htc : tc = sc ∨ tc = !sc := by cases tc <;> cases sc <;> simp
   rcases htc with rfl | rfl
   ·have hb2 : (tc == tc) = true := by simp
    have HE : Hid (G = strEqB ss ts) := hide (by rw [HG.out, hr]; simp);have Z := Y _ B3.out;clear Y HG
    go_wp2_with fail
    refine (unhide Z).mono ?_;rintro r w4 ⟨rfl, b4⟩
    go_wp2
    go_ret
    exact ⟨ret_bool HE.out.symm, B3.out.trans (b4.mono B3.out.size)⟩
   ·have HE : Hid (G = false) := hide (by rw [HG.out]; cases sc <;> simp)
    go_wp2
    go_ret
    exact ⟨ret_bool (by rw [HE.out]), B3.out⟩
 ·have HE : Hid (G = false) := hide (by rw [HG.out]; cases sa <;> simp);go_enter Tryz.func83, Tryz.ntmps83
  go_wp2
  go_ret
  exact ⟨ret_bool (by rw [HE.out]), (ba _ _).out.2.2⟩
end Go.Proofs.YtlkcjhcmkaddaaaGreat
