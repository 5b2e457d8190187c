import Derived.Shelf.Strings.Builder1
import Derived.Test.YtlmdcaemjaldfaaGreatProg
import Derived.Test.YtlmdcaemjaldfaaGreatRows
import Derived.WalkKit
import Derived.WalkSpells
import Derived.WalkLawsBesides
import Derived.WalkSmall
import Derived.Lib.SmallJoins
import Derived.Lib.Bytealg
import Derived.Lib.UnsafeStr
import Derived.Lib.ItoaLen
import Derived.Lib.Slices
import Derived.Laws.IdiomStrings
import Derived.Laws.OwnMore
import Derived.OwnWalk
import Derived.BigCall
import Derived.Deep.RegionHeld3
import Derived.Deep.AppendLies
import Derived.Deep.DrawnRows
import Derived.Lib.AppendIntMem
import Derived.Deep.QuietTactic
import Derived.BigQuiet
import Derived.Lib.QuietBelow
import Derived.ProofKit
import Derived.OpenShut
import Derived.Carry
import Derived.Deep.Slices
import Derived.Laws.AppendOwnNone
import Derived.Deep.MidRow
import Derived.Deep.CutRange
import Derived.Deep.Upon
namespace Go.Proofs.YtlmdcaemjaldfaaGreat
theorem lz {α : Type _} : (∀ (l : List α) (i : Nat) (a : α), l.toArray.setIfInBounds i a = (l.set i a).toArray) ∧ (∀ (a b : α) (l : List α), (a :: l).set 0 b = b :: l) ∧ (∀ (a b : α) (l : List α) (n : Nat), (a :: l).set (n + 1) b = a :: l.set n b) := ⟨fun _ _ _ => by simp, fun _ _ _ => rfl, fun _ _ _ _ => rfl⟩
end Go.Proofs.YtlmdcaemjaldfaaGreat
set_option linter.unusedSimpArgs false
set_option linter.unusedVariables false
namespace Go.Proofs
open Go.Shelf
def Tryz.lays240_ren : Go.Shelf.Ren := ⟨fun | 240 => 148 | 276 => 165 | n => n, fun | 0 => 0 | 4 => 4 | 5 => 5 | 9 => 9 | 20 => 20 | 37 => 94 | 70 => 93 | 72 => 96 | 80 => 99 | 164 => 168 | n => n, fun | n => n⟩
theorem Tryz.lays240 : Go.Proofs.Lays.n240 Tryz.prog Tryz.lays240_ren := {
 mixed := by kernel_rfl
 f240 := Tryz.func148.trans (congrArg some (by kernel_rfl))
 f276 := Tryz.func165.trans (congrArg some (by kernel_rfl))
 t0 := Tryz.underlying0
 a0 := Tryz.isAgg0
 z0 := Tryz.sizeOf0
 v0 := Tryz.zeroValue0
 t4 := Tryz.underlying4
 a4 := Tryz.isAgg4
 z4 := Tryz.sizeOf4
 v4 := Tryz.zeroValue4
 t9 := Tryz.underlying9
 a9 := Tryz.isAgg9
 z9 := Tryz.sizeOf9
 v9 := Tryz.zeroValue9
 t20 := Tryz.underlying20
 a20 := Tryz.isAgg20
 z20 := Tryz.sizeOf20
 v20 := Tryz.zeroValue20
 t70 := Tryz.underlying93
 a70 := Tryz.isAgg93
 z70 := Tryz.sizeOf93
 v70 := Tryz.zeroValue93
 t72 := Tryz.underlying96
 a72 := Tryz.isAgg96
 z72 := Tryz.sizeOf96
 v72 := Tryz.zeroValue96
 t164 := Tryz.underlying168
 a164 := Tryz.isAgg168
 z164 := Tryz.sizeOf168
 v164 := Tryz.zeroValue168 }
def Tryz.lays169_ren : Go.Shelf.Ren := ⟨fun | 169 => 66 | n => n, fun | 0 => 0 | 3 => 3 | 5 => 5 | 9 => 9 | 37 => 94 | 70 => 93 | 72 => 96 | 80 => 99 | 127 => 139 | n => n, fun | n => n⟩
theorem Tryz.lays169 : Go.Proofs.Lays.n169 Tryz.prog Tryz.lays169_ren := {
 mixed := by kernel_rfl
 f169 := Tryz.func66.trans (congrArg some (by kernel_rfl))
 t0 := Tryz.underlying0
 a0 := Tryz.isAgg0
 z0 := Tryz.sizeOf0
 v0 := Tryz.zeroValue0
 t3 := Tryz.underlying3
 a3 := Tryz.isAgg3
 z3 := Tryz.sizeOf3
 v3 := Tryz.zeroValue3
 t9 := Tryz.underlying9
 a9 := Tryz.isAgg9
 z9 := Tryz.sizeOf9
 v9 := Tryz.zeroValue9
 t37 := Tryz.underlying94
 a37 := Tryz.isAgg94
 z37 := Tryz.sizeOf94
 v37 := Tryz.zeroValue94
 t70 := Tryz.underlying93
 a70 := Tryz.isAgg93
 z70 := Tryz.sizeOf93
 v70 := Tryz.zeroValue93
 t72 := Tryz.underlying96
 a72 := Tryz.isAgg96
 z72 := Tryz.sizeOf96
 v72 := Tryz.zeroValue96
 t127 := Tryz.underlying139
 a127 := Tryz.isAgg139
 z127 := Tryz.sizeOf139
 v127 := Tryz.zeroValue139 }
theorem Tryz.Builder_Extra_169 : Builder.Extra Tryz.prog Tryz.lays169_ren := {
 sizeBuilder := by kernel_rfl
 liesBuilder := by kernel_rfl
 t5 := Tryz.underlying5
 a5 := Tryz.isAgg5
 z5 := Tryz.sizeOf5
 v5 := Tryz.zeroValue5
 infoByte := by kernel_rfl
 cellsByte := by kernel_rfl
 sizeByte := by kernel_rfl
 neB5 := by decide }
open Go.RowKit in
open Go.RowKit in
open Go.RowKit in
theorem Tryz.Builder_String_any (B b : Nat) (l : List UInt8) (w : World) (h : Lib.IsBuilder 96 5 B b (Lib.byteCells l) w) (hBw : B ≤ w.heap.size) :
  Calls Tryz.prog 66 #[.pointer (some ⟨b, 0, none⟩)] w fun e w' => e = .returned (.string ⟨l.toArray⟩) ∧ Below B w w' := Any.Builder_String_any Tryz.lays169 Tryz.Builder_Extra_169 B b l w h hBw
end Go.Proofs
namespace Go.Proofs.YtlmdcaemjaldfaaGreat
open Go.RowKit
theorem hide {p : Prop} (h : p) : Hid p := h
theorem unhide {p : Prop} (h : Hid p) : p := h
theorem ret_int {k : IntKind} {a b : Int} (h : a = b) : Ending.returned (.int k a) = .returned (.int k b) := by rw [h]
theorem ret_bool {a b : Bool} (h : a = b) : Ending.returned (.bool a) = .returned (.bool b) := by rw [h]
theorem ret_str {a b : ByteArray} (h : a = b) : Ending.returned (.string a) = .returned (.string b) := by rw [h]
theorem bcell {W w1 : World} (hb : Below W.heap.size W w1) : (∀ b o, b < W.heap.size → w1.cell? ⟨b, o, none⟩ = W.cell? ⟨b, o, none⟩) ∧ (∀ b o, b < W.heap.size → w1.frozen? ⟨b, o, none⟩ = W.frozen? ⟨b, o, none⟩) :=
 ⟨fun b o h => hb.cell (p := ⟨b, o, none⟩) h, fun b o h => hb.frozen (p := ⟨b, o, none⟩) h⟩
theorem heap_top (w : World) (o : Obj) : (w.alloc o).heap[w.heap.size]? = some o := by
 show (w.heap.push o)[w.heap.size]? = some o
 simp
theorem cells_one (l : List UInt8) : ∀ u ∈ Lib.byteCells l, u.oneCell' = true := by
 intro u hu
 simp [Lib.byteCells] at hu
 obtain ⟨b, _, rfl⟩ := hu
 rfl
theorem heap_setCell {w : World} {b i : Nat} {cs : Array Value} {t : TypeId} {fz : Nat × Nat} (v : Value) (h : w.heap[b]? = some (.cells cs t fz)) : (w.setCell ⟨b, i, none⟩ v).heap[b]? = some (.cells (cs.setIfInBounds i v) t fz) := by
 simp [World.setCell, Array.getElem?_modify, h]
theorem cell_heap {w : World} {b : Nat} {cs : Array Value} {t : TypeId} {fz : Nat × Nat} (h : w.heap[b]? = some (.cells cs t fz)) (i : Nat) : w.cell? ⟨b, i, none⟩ = cs[i]? := by simp [World.cell?, h]
theorem frozen_heap {w : World} {b : Nat} {cs : Array Value} {t : TypeId} (h : w.heap[b]? = some (.cells cs t (0, 0))) (i : Nat) : w.frozen? ⟨b, i, none⟩ = false := by simp [World.frozen?, h]
theorem lt_heap {w : World} {b : Nat} {o : Obj} (h : w.heap[b]? = some o) : b < w.heap.size := by
 rcases Nat.lt_or_ge b w.heap.size with h' | h'
 ·exact h'
 ·rw [Array.getElem?_eq_none h'] at h;cases h
theorem heap_new (w : World) (o : Obj) : (w.alloc o).heap[w.heap.size]? = some o := by
 show (w.heap.push o)[w.heap.size]? = some o
 simp
theorem heap_at {w : World} {o : Obj} {k : Nat} (h : k = w.heap.size) : (w.alloc o).heap[k]? = some o := by
 rw [h]; exact heap_new w o
theorem below_alloc {w w1 : World} {o : Obj} (hb : Below (w.alloc o).heap.size (w.alloc o) w1) : Below w.heap.size w w1 :=
 ((Below.refl _ _).alloc (Nat.le_refl _) o).trans (hb.mono (by simp))
theorem below_undrew {w w1 : World} (h : Below w.drew.heap.size w.drew w1) : Below w.heap.size w w1 := ⟨h.os, h.tape, h.output, h.size, h.block⟩
theorem mk_append (a b : List UInt8) : (⟨a.toArray⟩ : ByteArray) ++ (⟨b.toArray⟩ : ByteArray) = ⟨(a ++ b).toArray⟩ := by
 have h : ((⟨a.toArray⟩ : ByteArray) ++ (⟨b.toArray⟩ : ByteArray)).data = (a ++ b).toArray := by
  rw [ByteArray.data_append]; simp
 cases e : (⟨a.toArray⟩ : ByteArray) ++ (⟨b.toArray⟩ : ByteArray) with
 | mk d => rw [e] at h; rw [← h]
theorem mixed : Tryz.prog.follows .mixedOrders = true := by kernel_rfl
end Go.Proofs.YtlmdcaemjaldfaaGreat
namespace Go.Proofs.YtlmdcaemjaldfaaGreat
abbrev Rg := Int × Int
def memR (l : List Rg) (n : Int) : Prop := ∃ r ∈ l, r.1 ≤ n ∧ n ≤ r.2
theorem memR_nil (n : Int) : ¬ memR [] n := fun ⟨_, h, _⟩ => by simp at h
theorem memR_cons (r : Rg) (l : List Rg) (n : Int) : memR (r :: l) n ↔ (r.1 ≤ n ∧ n ≤ r.2) ∨ memR l n := by
 constructor
 ·rintro ⟨x, hx, h⟩;rcases List.mem_cons.1 hx with rfl | hx
  ·exact Or.inl h
  ·exact Or.inr ⟨x, hx, h⟩
 ·rintro (h | ⟨x, hx, h⟩)
  ·exact ⟨r, by simp, h⟩
  ·exact ⟨x, by simp [hx], h⟩
theorem memR_append (a b : List Rg) (n : Int) : memR (a ++ b) n ↔ memR a n ∨ memR b n := by
 induction a with
 | nil => simp [memR_nil]
 | cons r l ih => rw [List.cons_append, memR_cons, memR_cons, ih, or_assoc]
def rightFrom (b : Int) : List Rg → Prop
 | [] => True
 | r :: l => b < r.1 ∧ r.1 ≤ r.2 ∧ rightFrom (r.2 + 1) l
def rightR : List Rg → Prop
 | [] => True
 | r :: l => r.1 ≤ r.2 ∧ rightFrom (r.2 + 1) l
theorem rightFrom_right {b : Int} {l : List Rg} (h : rightFrom b l) : rightR l := by
 cases l with
 | nil => trivial
 | cons r l => exact ⟨h.2.1, h.2.2⟩
theorem rightFrom_mono {b c : Int} {l : List Rg} (h : rightFrom b l) (hc : c ≤ b) : rightFrom c l := by
 cases l with
 | nil => trivial
 | cons r l => exact ⟨by have := h.1; omega, h.2.1, h.2.2⟩
theorem rightFrom_lt {b : Int} : ∀ {l : List Rg}, rightFrom b l → ∀ n, memR l n → b < n
 | [], _, n, h => absurd h (memR_nil n)
 | r :: l, ⟨h1, h2, h3⟩, n, h => by
  rcases (memR_cons r l n).1 h with h | h
  ·omega
  ·have := rightFrom_lt h3 n h; omega
theorem rightR_from {r : Rg} {l : List Rg} (h : rightR (r :: l)) : rightFrom (r.1 - 1) (r :: l) := ⟨by omega, h.1, h.2⟩
theorem rightFrom_ext : ∀ (a b : List Rg) (c : Int), rightFrom c a → rightFrom c b → (∀ n, memR a n ↔ memR b n) → a = b
 | [], [], _, _, _, _ => rfl
 | [], s :: m, _, _, hb, h => absurd ((h s.1).2 ⟨s, by simp, Int.le_refl _, hb.2.1⟩) (memR_nil _)
 | r :: l, [], _, ha, _, h => absurd ((h r.1).1 ⟨r, by simp, Int.le_refl _, ha.2.1⟩) (memR_nil _)
 | r :: l, s :: m, c, ⟨a1, a2, a3⟩, ⟨b1, b2, b3⟩, h => by
  have hA := fun n => rightFrom_lt a3 n
  have hB := fun n => rightFrom_lt b3 n
  have e1 : r.1 = s.1 := by
   have x := (h r.1).1 ⟨r, by simp, Int.le_refl _, a2⟩;have y := (h s.1).2 ⟨s, by simp, Int.le_refl _, b2⟩;rcases (memR_cons s m _).1 x with x | x <;> rcases (memR_cons r l _).1 y with y | y
   ·omega
   ·have := hA _ y; omega
   ·have := hB _ x; omega
   ·have := hA _ y; have := hB _ x; omega
  have e2 : r.2 = s.2 := by
   rcases Int.lt_trichotomy r.2 s.2 with hlt | hlt | hlt
   ·have y := (h (r.2 + 1)).2 ⟨s, by simp, by omega, by omega⟩;rcases (memR_cons r l _).1 y with y | y
    ·omega
    ·have := hA _ y; omega
   ·exact hlt
   ·have x := (h (s.2 + 1)).1 ⟨r, by simp, by omega, by omega⟩;rcases (memR_cons s m _).1 x with x | x
    ·omega
    ·have := hB _ x; omega
  have e : r = s := Prod.ext e1 e2;subst e;have := rightFrom_ext l m (r.2 + 1) a3 b3 (fun n => by
   constructor
   ·intro hn;have hx := hA n hn;rcases (memR_cons r m n).1 ((h n).1 ((memR_cons r l n).2 (Or.inr hn))) with x | x
    ·omega
    ·exact x
   ·intro hn;have hx := hB n hn;rcases (memR_cons r l n).1 ((h n).2 ((memR_cons r m n).2 (Or.inr hn))) with x | x
    ·omega
    ·exact x)
  rw [this]
theorem rightR_ext (a b : List Rg) (ha : rightR a) (hb : rightR b) (h : ∀ n, memR a n ↔ memR b n) : a = b := by
 cases a with
 | nil =>
  cases b with
  | nil => rfl
  | cons s m => exact absurd ((h s.1).2 ⟨s, by simp, Int.le_refl _, hb.1⟩) (memR_nil _)
 | cons r l =>
  cases b with
  | nil => exact absurd ((h r.1).1 ⟨r, by simp, Int.le_refl _, ha.1⟩) (memR_nil _)
  | cons s m =>
   refine rightFrom_ext _ _ (min (r.1 - 1) (s.1 - 1)) (rightFrom_mono (rightR_from ha) (by omega)) (rightFrom_mono (rightR_from hb) (by omega)) h
def inI64 (l : List Rg) : Prop := ∀ r ∈ l, -9223372036854775808 ≤ r.1 ∧ r.1 ≤ 9223372036854775807 ∧ -9223372036854775808 ≤ r.2 ∧ r.2 ≤ 9223372036854775807
theorem memR_in {l : List Rg} (h : inI64 l) {n : Int} (hn : memR l n) : -9223372036854775808 ≤ n ∧ n ≤ 9223372036854775807 := by
 obtain ⟨r, hr, h1, h2⟩ := hn;have := h r hr;omega
theorem rightR_ext64 (a b : List Rg) (ha : rightR a) (hb : rightR b) (ia : inI64 a) (ib : inI64 b) (h : ∀ n, -9223372036854775808 ≤ n → n ≤ 9223372036854775807 → (memR a n ↔ memR b n)) : a = b :=
 rightR_ext a b ha hb fun n => ⟨fun hn => (h n (memR_in ia hn).1 (memR_in ia hn).2).1 hn, fun hn => (h n (memR_in ib hn).1 (memR_in ib hn).2).2 hn⟩
theorem down_to (b : List Rg) (n lo : Int) (hn : ¬ memR b n) (hlo : lo ≤ n) : ∃ p, lo ≤ p ∧ p ≤ n ∧ (p = lo ∨ ∃ r ∈ b, p = r.2 + 1 ∧ r.2 < n) ∧ ∀ x, p ≤ x → x ≤ n → ¬ memR b x := by
 induction b with
 | nil => exact ⟨lo, by omega, hlo, Or.inl rfl, fun x _ _ => memR_nil x⟩
 | cons r l ih =>
  have h1 : ¬ (r.1 ≤ n ∧ n ≤ r.2) := fun h => hn ((memR_cons r l n).2 (Or.inl h))
  obtain ⟨p, p1, p2, p3, p4⟩ := ih (fun h => hn ((memR_cons r l n).2 (Or.inr h)));by_cases hr : p ≤ r.2 ∧ r.2 < n
  ·refine ⟨r.2 + 1, by omega, by omega, Or.inr ⟨r, by simp, rfl, hr.2⟩, fun x h2 h3 => ?_⟩;rw [memR_cons];rintro (h | h)
   ·omega
   ·exact p4 x (by omega) h3 h
  ·refine ⟨p, p1, p2, ?_, fun x h2 h3 => ?_⟩
   ·rcases p3 with p3 | ⟨s, hs, p3⟩
    ·exact Or.inl p3
    ·exact Or.inr ⟨s, by simp [hs], p3⟩
   ·rw [memR_cons];rintro (h | h)
    ·omega
    ·exact p4 x h2 h3 h
theorem sub_points (a b : List Rg) (h1 : ∀ r ∈ a, r.1 ≤ r.2 → memR b r.1) (h2 : ∀ r ∈ b, ∀ s ∈ a, r.2 < s.2 → memR a (r.2 + 1) → memR b (r.2 + 1)) (n : Int) (hn : memR a n) : memR b n := by
 refine Classical.byContradiction fun hb => ?_
 obtain ⟨r, hr, l1, l2⟩ := hn;obtain ⟨p, p1, p2, p3, p4⟩ := down_to b n r.1 hb l1;rcases p3 with rfl | ⟨s, hs, p3, p5⟩
 ·exact p4 r.1 (by omega) l1 (h1 r hr (by omega))
 ·exact p4 p (by omega) p2 (p3 ▸ h2 s hs r hr (by omega) ⟨r, hr, by omega, by omega⟩)
abbrev St := List UInt8
theorem lessB_irrefl : ∀ a : St, Op.bytesLess a a = false
 | [] => by simp [Op.bytesLess]
 | x :: a => by simp [Op.bytesLess]; exact lessB_irrefl a
theorem lessB_trans : ∀ a b c : St, Op.bytesLess a b = true → Op.bytesLess b c = true → Op.bytesLess a c = true
 | _, _, [], _, h => by cases ‹St› <;> simp [Op.bytesLess] at h
 | [], _, _ :: _, _, _ => by simp [Op.bytesLess]
 | _ :: _, [], _ :: _, h, _ => by simp [Op.bytesLess] at h
 | x :: a, y :: b, z :: c, h, k => by
  simp [Op.bytesLess] at h k ⊢
  rcases h with h | ⟨rfl, h⟩ <;> rcases k with k | ⟨rfl, k⟩
  ·left; rw [UInt8.lt_iff_toNat_lt] at *; omega
  ·exact Or.inl h
  ·exact Or.inl k
  ·exact Or.inr ⟨rfl, lessB_trans a b c h k⟩
theorem lessB_tri : ∀ a b : St, Op.bytesLess a b = true ∨ a = b ∨ Op.bytesLess b a = true
 | [], [] => Or.inr (Or.inl rfl)
 | [], _ :: _ => Or.inl (by simp [Op.bytesLess])
 | _ :: _, [] => Or.inr (Or.inr (by simp [Op.bytesLess]))
 | x :: a, y :: b => by
  simp [Op.bytesLess]
  rcases Nat.lt_trichotomy x.toNat y.toNat with h | h | h
  ·exact Or.inl (Or.inl (UInt8.lt_iff_toNat_lt.2 h))
  ·have e : x = y := UInt8.toNat_inj.1 h;subst e;rcases lessB_tri a b with h | h | h
   ·exact Or.inl (Or.inr ⟨rfl, h⟩)
   ·exact Or.inr (Or.inl ⟨rfl, h⟩)
   ·exact Or.inr (Or.inr (Or.inr ⟨rfl, h⟩))
  ·exact Or.inr (Or.inr (Or.inl (UInt8.lt_iff_toNat_lt.2 h)))
def risesS : List St → Prop
 | [] => True
 | a :: l => (∀ b ∈ l, Op.bytesLess a b = true) ∧ risesS l
theorem risesS_ext : ∀ a b : List St, risesS a → risesS b → (∀ s, s ∈ a ↔ s ∈ b) → a = b
 | [], [], _, _, _ => rfl
 | [], y :: m, _, _, h => by have := (h y).2 (by simp); simp at this
 | x :: l, [], _, _, h => by have := (h x).1 (by simp); simp at this
 | x :: l, y :: m, ⟨a1, a2⟩, ⟨b1, b2⟩, h => by
  have e : x = y := by
   rcases List.mem_cons.1 ((h x).1 (by simp)) with e | hx
   ·exact e
   rcases List.mem_cons.1 ((h y).2 (by simp)) with e | hy
   ·exact e.symm
   have h1 := b1 x hx;have h2 := a1 y hy;have := lessB_trans _ _ _ h1 h2;rw [lessB_irrefl] at this;exact absurd this (by simp)
  subst e;have : l = m := risesS_ext l m a2 b2 (fun s => by
   constructor
   ·intro hs;rcases List.mem_cons.1 ((h s).1 (by simp [hs])) with e | hm
    ·subst e;have := a1 _ hs;rw [lessB_irrefl] at this;exact absurd this (by simp)
    ·exact hm
   ·intro hs;rcases List.mem_cons.1 ((h s).2 (by simp [hs])) with e | hm
    ·subst e;have := b1 _ hs;rw [lessB_irrefl] at this;exact absurd this (by simp)
    ·exact hm)
  rw [this]
def dropS (s : St) : List St → List St
 | [] => []
 | t :: l => if t = s then l else t :: dropS s l
theorem dropS_len (s : St) : ∀ l : List St, s ∈ l → (dropS s l).length + 1 = l.length
 | [], h => by simp at h
 | t :: l, h => by
  unfold dropS;by_cases e : t = s
  ·rw [if_pos e]; simp
  ·rw [if_neg e];rcases List.mem_cons.1 h with h | h
   ·exact absurd h.symm e
   ·have := dropS_len s l h
    simp; omega
theorem dropS_mem (s x : St) (hne : x ≠ s) : ∀ l : List St, x ∈ l → x ∈ dropS s l
 | [], h => h
 | t :: l, h => by
  unfold dropS;by_cases e : t = s
  ·rw [if_pos e];rcases List.mem_cons.1 h with h | h
   ·exact absurd (h.trans e) hne
   ·exact h
  ·rw [if_neg e];rcases List.mem_cons.1 h with h | h
   ·rw [h]; simp
   ·exact List.mem_cons.2 (Or.inr (dropS_mem s x hne l h))
theorem holes (f : Nat → St) (hf : ∀ i j, f i = f j → i = j) : ∀ (n : Nat) (l : List St), (∀ i, i < n → f i ∈ l) → n ≤ l.length
 | 0, l, _ => Nat.zero_le _
 | n + 1, l, h => by
  have h1 := holes f hf n (dropS (f n) l) (fun i hi => dropS_mem _ _ (fun e => by have := hf _ _ e; omega) l (h i (by omega)));have h2 := dropS_len (f n) l (h n (by omega));omega
theorem fresh_out (f : Nat → St) (hf : ∀ i j, f i = f j → i = j) (l : List St) (n : Nat) (hn : l.length < n) : ∃ i, i < n ∧ f i ∉ l := by
 refine Classical.byContradiction fun hno => ?_
 have := holes f hf n l (fun i hi => Classical.byContradiction fun h => hno ⟨i, hi, h⟩);omega
end Go.Proofs.YtlmdcaemjaldfaaGreat
namespace Go.Proofs.YtlmdcaemjaldfaaGreat
open Go.RowKit
attribute [local go_sem ↓] Go.wp_at_zero Go.wp_at_succ
def rightB (k n : Int) (s : ByteArray) : Bool :=
 if k = 0 then n == 0 && s.toList.isEmpty else if k = 1 then s.toList.isEmpty else if k = 2 then n == 0 && decide ((s.size : Int) ≤ 8) else false
theorem one_dig (u : Nat) (h : u < 10) : 48 + (u : Int) = ((UInt8.ofNat (48 + u)).toNat : Int) := by
 rw [UInt8.toNat_ofNat']; omega
theorem last_dig (u : Nat) (h : u < 18446744073709551616) : IntKind.u8.wrap (IntKind.u64.wrap (48 + (u : Int).tmod 10)) = ((UInt8.ofNat (48 + u % 10)).toNat : Int) := by
 rw [UInt8.toNat_ofNat', IntKind.wrap_u64, IntKind.wrap_u8, Int.tmod_eq_emod_of_nonneg (by omega)]; omega
theorem dec_short (u : Nat) (h : u < 18446744073709551616) : (Lib.decDigits u).length ≤ 20 := by
 rw [Lib.decDigits_length];by_cases h0 : u = 0
 ·subst h0; rw [Lib.nDigits_small (by omega)]; omega
 ·have := Lib.numDigits_eq u (by omega) h
  split at this <;> omega
end Go.Proofs.YtlmdcaemjaldfaaGreat
namespace Go.Proofs.YtlmdcaemjaldfaaGreat
open Go.Deep Go.ChangeShapes Go.WideShapes Go.ChangeAt Go.WideMaps Go.WideElems Go.RowKit Go.Joins
def capOf (a : Option Addr) (n sp : Nat) : Nat := match a with
 | none => 0
 | some _ => n + sp
theorem capOf_of {a : Option Addr} {n c : Nat} (h : n ≤ c) (hn : a = none → c = 0) : ∃ sp, c = capOf a n sp := by
 cases a with
 | none => exact ⟨0, hn rfl⟩
 | some a => exact ⟨c - n, by show c = n + (c - n); omega⟩
theorem capOf_some {a : Option Addr} {n sp : Nat} (h : ∃ b, a = some b) : n ≤ capOf a n sp := by
 obtain ⟨b, rfl⟩ := h;show n ≤ n + sp;omega
def RngsAt (w : World) (v : Value) (l : List Rg) : Prop :=
 inI64 l ∧ l.length ≤ 9223372036854775807 ∧ ∃ (a : Option Addr) (cap : Nat), v = .slice a l.length (capOf a l.length cap) ∧ ∀ i, i < l.length → ∃ (b off : Nat), a = some ⟨b, off, none⟩ ∧ b < w.heap.size ∧
  w.cell? ⟨b, off + i * 2, none⟩ = some (.int .i64 (l.getD i (0, 0)).1) ∧ w.cell? ⟨b, off + i * 2 + 1, none⟩ = some (.int .i64 (l.getD i (0, 0)).2)
def StrsAt (w : World) (v : Value) (l : List ByteArray) : Prop :=
 (∀ s ∈ l, s.size ≤ 9223372036854775807) ∧ l.length ≤ 9223372036854775807 ∧ ∃ (a : Option Addr) (cap : Nat), v = .slice a l.length (capOf a l.length cap) ∧ ∀ i, i < l.length → ∃ (b off : Nat), a = some ⟨b, off, none⟩ ∧ b < w.heap.size ∧
  w.cell? ⟨b, off + i, none⟩ = some (.string (l.getD i ⟨#[]⟩))
structure SetV where
 absent : Bool
 ints : List Rg
 co : Bool
 strs : List ByteArray
def SetAt (w : World) (v : Value) (S : SetV) : Prop := ∃ vi vs, v = .agg #[.bool S.absent, vi, .bool S.co, vs] ∧ RngsAt w vi S.ints ∧ StrsAt w vs S.strs
theorem RngsAt.on {w w' : World} {v : Value} {l : List Rg} (h : RngsAt w v l) (hb : Below w.heap.size w w') : RngsAt w' v l := by
 obtain ⟨h1, h2, a, cap, hv, h⟩ := h;refine ⟨h1, h2, a, cap, hv, fun i hi => ?_⟩;obtain ⟨b, off, ha, hlt, c0, c1⟩ := h i hi;exact ⟨b, off, ha, Nat.lt_of_lt_of_le hlt hb.size, (hb.cell (p := ⟨b, _, none⟩) hlt).trans c0, (hb.cell (p := ⟨b, _, none⟩) hlt).trans c1⟩
theorem StrsAt.on {w w' : World} {v : Value} {l : List ByteArray} (h : StrsAt w v l) (hb : Below w.heap.size w w') : StrsAt w' v l := by
 obtain ⟨h1, h2, a, cap, hv, h⟩ := h;refine ⟨h1, h2, a, cap, hv, fun i hi => ?_⟩;obtain ⟨b, off, ha, hlt, c0⟩ := h i hi;exact ⟨b, off, ha, Nat.lt_of_lt_of_le hlt hb.size, (hb.cell (p := ⟨b, _, none⟩) hlt).trans c0⟩
theorem SetAt.on {w w' : World} {v : Value} {S : SetV} (h : SetAt w v S) (hb : Below w.heap.size w w') : SetAt w' v S := by
 obtain ⟨vi, vs, hv, h1, h2⟩ := h;exact ⟨vi, vs, hv, h1.on hb, h2.on hb⟩
theorem RngsAt.bound {w : World} {v : Value} {l : List Rg} (h : RngsAt w v l) (i : Nat) (hi : i < l.length) : -9223372036854775808 ≤ (l.getD i (0, 0)).1 ∧ (l.getD i (0, 0)).1 ≤ 9223372036854775807 ∧ -9223372036854775808 ≤ (l.getD i (0, 0)).2 ∧ (l.getD i (0, 0)).2 ≤ 9223372036854775807 := by
 refine h.1 _ ?_;rw [List.getD_eq_getElem?_getD, List.getElem?_eq_getElem hi];exact List.getElem_mem _
theorem StrsAt.bound {w : World} {v : Value} {l : List ByteArray} (h : StrsAt w v l) (i : Nat) (hi : i < l.length) : (l.getD i ⟨#[]⟩).size ≤ 9223372036854775807 := by
 refine h.1 _ ?_;rw [List.getD_eq_getElem?_getD, List.getElem?_eq_getElem hi];exact List.getElem_mem _
theorem RngsAt.at {w : World} {a : Option Addr} {n cap : Nat} {l : List Rg} (h : RngsAt w (.slice a n cap) l) : n = l.length ∧ ∀ i, i < l.length → ∃ (b off : Nat), a = some ⟨b, off, none⟩ ∧ b < w.heap.size ∧
  w.cell? ⟨b, off + i * 2, none⟩ = some (.int .i64 (l.getD i (0, 0)).1) ∧ w.cell? ⟨b, off + i * 2 + 1, none⟩ = some (.int .i64 (l.getD i (0, 0)).2) := by
 obtain ⟨h1, h2, a', cap', hv, h⟩ := h
 injection hv with e1 e2 e3
 subst e1 e2;exact ⟨rfl, h⟩
theorem StrsAt.at {w : World} {a : Option Addr} {n cap : Nat} {l : List ByteArray} (h : StrsAt w (.slice a n cap) l) : n = l.length ∧ ∀ i, i < l.length → ∃ (b off : Nat), a = some ⟨b, off, none⟩ ∧ b < w.heap.size ∧
  w.cell? ⟨b, off + i, none⟩ = some (.string (l.getD i ⟨#[]⟩)) := by
 obtain ⟨h1, h2, a', cap', hv, h⟩ := h
 injection hv with e1 e2 e3
 subst e1 e2;exact ⟨rfl, h⟩
theorem RngsAt.form {w : World} {v : Value} {l : List Rg} (h : RngsAt w v l) : ∃ a cap, v = .slice a l.length cap := by
 obtain ⟨_, _, a, cap, hv, _⟩ := h;exact ⟨a, _, hv⟩
theorem RngsAt.room {w : World} {a : Option Addr} {n cap : Nat} {l : List Rg} (h : RngsAt w (.slice a n cap) l) : n ≤ cap ∧ (a = none → n = 0 ∧ cap = 0) := by
 obtain ⟨_, _, a', sp, hv, he⟩ := h
 injection hv with e1 e2 e3
 subst e1 e2 e3;cases a with
 | none =>
  have h0 : l.length = 0 := Classical.byContradiction fun hne => by
   obtain ⟨b, off, e, _⟩ := he 0 (by omega);cases e
  exact ⟨by rw [h0]; exact Nat.zero_le _, fun _ => ⟨h0, rfl⟩⟩
 | some a => exact ⟨capOf_some ⟨a, rfl⟩, fun e => by cases e⟩
theorem StrsAt.form {w : World} {v : Value} {l : List ByteArray} (h : StrsAt w v l) : ∃ a cap, v = .slice a l.length cap := by
 obtain ⟨_, _, a, cap, hv, _⟩ := h;exact ⟨a, _, hv⟩
theorem lt_cell {w : World} {a : Addr} {v : Value} (h : w.cell? a = some v) : a.block < w.heap.size := by
 rcases Nat.lt_or_ge a.block w.heap.size with h' | h'
 ·exact h'
 ·exfalso
  simp [World.cell?, Array.getElem?_eq_none h'] at h
theorem cellsRg : Tryz.prog.cellsOf 114 = 2 := by kernel_rfl
theorem cellsI : Tryz.prog.cellsOf 3 = 1 := by kernel_rfl
theorem cellsB : Tryz.prog.cellsOf 4 = 1 := by kernel_rfl
theorem cellsS : Tryz.prog.cellsOf 9 = 1 := by kernel_rfl
theorem cellsRs : Tryz.prog.cellsOf 22 = 1 := by kernel_rfl
theorem cellsSs : Tryz.prog.cellsOf 23 = 1 := by kernel_rfl
theorem cellsSet : Tryz.prog.cellsOf 25 = 4 := by kernel_rfl
theorem getD_map_range {α : Type} (n i : Nat) (f : Nat → α) (d : α) (h : i < n) : ((List.range n).map f).getD i d = f i := by
 simp [List.getD_eq_getElem?_getD, h]
section
variable {H : Type} {enc : TypeId × Value → H} {W : World}
set_option maxRecDepth 100000 in
theorem open_rngs {fuel : Nat} {v : Value} {x : DataW H × List MemPlace} (hf : DataW.trod enc Tryz.prog W 0 (fun _ => true) true fuel 22 [v] = some x) : ∃ l, RngsAt W v l := by
 rcases Go.Deep.open_slice Tryz.underlying22 hf with ⟨h0, _⟩ | ⟨a, len, cap, m, n, D, Pl, h0, hb, hl, hm, hmm, _, hx⟩
 ·simp at h0
  subst h0;exact ⟨[], fun _ h => by simp at h, by simp, none, 0, rfl, fun i hi => by simp at hi⟩
 ·simp at h0
  subst h0
  simp at hmm
  subst hmm;have hspot : 0 < len → a.spot = none := fun hpos => by
   obtain ⟨cs0, z1, _⟩ := hx 0 (by omega);rw [cellsRg] at z1;obtain ⟨_, zl, zc⟩ := World.cells?_some z1;have z0 := zc 0 (by omega);rw [List.getElem?_eq_getElem (by omega)] at z0
   simpa [Addr.add] using World.cell?_spot z0
  have hall : ∀ i, i < len → ∃ r : Rg, (-9223372036854775808 ≤ r.1 ∧ r.1 ≤ 9223372036854775807 ∧ -9223372036854775808 ≤ r.2 ∧ r.2 ≤ 9223372036854775807) ∧ W.cell? ⟨a.block, a.off + i * 2, none⟩ = some (.int .i64 r.1) ∧ W.cell? ⟨a.block, a.off + i * 2 + 1, none⟩ = some (.int .i64 r.2) := fun i hi => by
   obtain ⟨cs', h1, h2⟩ := hx i (by omega);rw [cellsRg] at h1;obtain ⟨_, hlen, hc⟩ := World.cells?_some h1
   match cs', hlen with
   | [c0, c1], _ =>
    obtain ⟨y0, y1, m', _, _, g0, g1⟩ := trod_struct2 Tryz.underlying114 h2;simp only [cellsI] at g0 g1;obtain ⟨k, e0, _, wk⟩ := DataW.trod_int Tryz.underlying3 g0;obtain ⟨l, e1, _, wl⟩ := DataW.trod_int Tryz.underlying3 g1
    simp at e0 e1
    subst e0 e1;have q0 := hc 0 (by omega);have q1 := hc 1 (by omega);obtain ⟨bk, off, spot⟩ := a;have hs : spot = none := hspot (by omega);subst hs;have f0 : ((Addr.mk bk off none).add (i * 2)).add 0 = ⟨bk, off + i * 2, none⟩ := by rw [Go.Deep.add_add, Go.WideShapes.add_plain]; rfl
    have f1 : ((Addr.mk bk off none).add (i * 2)).add 1 = ⟨bk, off + i * 2 + 1, none⟩ := by rw [Go.Deep.add_add, Go.WideShapes.add_plain]; rfl
    rw [f0] at q0;rw [f1] at q1;obtain ⟨k0, k1⟩ := bounds_i64 wk;obtain ⟨l0, l1⟩ := bounds_i64 wl;exact ⟨(k, l), ⟨k0, k1, l0, l1⟩, q0, q1⟩
  obtain ⟨f, hf'⟩ := choose_lt hall;refine ⟨(List.range len).map f, ?_, by simp; unfold maxLen at hm; omega, some a, m - len, by simp [capOf]; omega, fun i hi => ?_⟩
  ·intro r hr;obtain ⟨i, hi, rfl⟩ := List.mem_map.1 hr;exact (hf' i (List.mem_range.1 hi)).1
  ·simp at hi
   rw [getD_map_range len i f _ hi];obtain ⟨_, q0, q1⟩ := hf' i hi;exact ⟨a.block, a.off, by rw [← hspot (by omega)], lt_cell (a := ⟨a.block, _, none⟩) q0, q0, q1⟩
set_option maxRecDepth 100000 in
theorem open_strs {fuel : Nat} {v : Value} {x : DataW H × List MemPlace} (hf : DataW.trod enc Tryz.prog W 0 (fun _ => true) true fuel 23 [v] = some x) : ∃ l, StrsAt W v l := by
 rcases Go.Deep.open_slice1 Tryz.underlying23 cellsS hf with ⟨h0, _⟩ | ⟨a, len, cap, m, n, V, D, Pl, h0, hb, hl, hm, hmm, _, hx⟩
 ·simp at h0
  subst h0;exact ⟨[], fun _ h => by simp at h, by simp, none, 0, rfl, fun i hi => by simp at hi⟩
 ·simp at h0
  subst h0
  simp at hmm
  subst hmm;have hspot : 0 < len → a.spot = none := fun hpos => by
   have := (hx 0 (by omega)).1
   simpa [Addr.add] using World.cell?_spot this
  have hall : ∀ i, i < len → ∃ s : ByteArray, s.size ≤ 9223372036854775807 ∧ W.cell? ⟨a.block, a.off + i, none⟩ = some (.string s) := fun i hi => by
   obtain ⟨h1, h2⟩ := hx i (by omega);obtain ⟨s, e, _, ws⟩ := DataW.trod_string Tryz.underlying9 h2
   simp at e
   rw [e] at h1;refine ⟨s, by unfold maxLen at ws; omega, ?_⟩;obtain ⟨bk, off, spot⟩ := a;have hs : spot = none := hspot (by omega);subst hs;rw [Go.WideShapes.add_plain] at h1;exact h1
  have : Inhabited ByteArray := ⟨⟨#[]⟩⟩
  obtain ⟨f, hf'⟩ := choose_lt hall;refine ⟨(List.range len).map f, ?_, by simp; unfold maxLen at hm; omega, some a, m - len, by simp [capOf]; omega, fun i hi => ?_⟩
  ·intro r hr;obtain ⟨i, hi, rfl⟩ := List.mem_map.1 hr;exact (hf' i (List.mem_range.1 hi)).1
  ·simp at hi
   rw [getD_map_range len i f _ hi];obtain ⟨_, q0⟩ := hf' i hi;exact ⟨a.block, a.off, by rw [← hspot (by omega)], lt_cell (a := ⟨a.block, _, none⟩) q0, q0⟩
theorem trod_struct4 {P : Program} {w : World} {base : Nat} {spare : Nat → Bool} {held : Bool} {t : TypeId} {f0 f1 f2 f3 : Field} {fuel : Nat} {cs : List Value} {x : DataW H × List MemPlace} (ht : P.underlying t = some (.struct #[f0, f1, f2, f3])) (h : DataW.trod enc P w base spare held fuel t cs = some x) :
  ∃ y0 y1 y2 y3 n, DataW.trod enc P w base spare held n f0.type ((cs.drop f0.offset).take (P.cellsOf f0.type)) = some y0 ∧ DataW.trod enc P w base spare held n f1.type ((cs.drop f1.offset).take (P.cellsOf f1.type)) = some y1 ∧
   DataW.trod enc P w base spare held n f2.type ((cs.drop f2.offset).take (P.cellsOf f2.type)) = some y2 ∧ DataW.trod enc P w base spare held n f3.type ((cs.drop f3.offset).take (P.cellsOf f3.type)) = some y3 := by
 obtain ⟨xs, n, _, rfl, hl, hlen, hf⟩ := DataW.trod_struct ht h
 match xs, hlen with
 | [y0, y1, y2, y3], _ => exact ⟨y0, y1, y2, y3, n, by simpa using hf 0 f0 rfl, by simpa using hf 1 f1 rfl, by simpa using hf 2 f2 rfl, by simpa using hf 3 f3 rfl⟩
set_option maxRecDepth 100000 in
theorem open_setc {fuel : Nat} {c0 c1 c2 c3 : Value} {x : DataW H × List MemPlace} (hf : DataW.trod enc Tryz.prog W 0 (fun _ => true) true fuel 25 [c0, c1, c2, c3] = some x) : ∃ S, SetAt W (.agg #[c0, c1, c2, c3]) S := by
 obtain ⟨y0, y1, y2, y3, n, g0, g1, g2, g3⟩ := trod_struct4 Tryz.underlying25 hf;simp only [cellsB, cellsRs, cellsSs] at g0 g1 g2 g3;obtain ⟨b0, e0, _⟩ := DataW.trod_bool Tryz.underlying4 g0;obtain ⟨l, hl⟩ := open_rngs g1;obtain ⟨b2, e2, _⟩ := DataW.trod_bool Tryz.underlying4 g2;obtain ⟨m, hm⟩ := open_strs g3
 simp at e0 e2
 subst e0 e2;exact ⟨⟨b0, l, b2, m⟩, c1, c3, rfl, hl, hm⟩
end
end Go.Proofs.YtlmdcaemjaldfaaGreat
namespace Go.Proofs.YtlmdcaemjaldfaaGreat
open Go.RowKit
theorem drop_getD {α : Type} (l : List α) (k : Nat) (d : α) (h : k < l.length) : l.drop k = l.getD k d :: l.drop (k + 1) := by
 rw [List.drop_eq_getElem_cons h, List.getD_eq_getElem?_getD, List.getElem?_eq_getElem h]; rfl
def inIntsB (l : List Rg) (n : Int) : Bool := l.any fun r => decide (r.1 ≤ n) && decide (n ≤ r.2)
def inStrsB (l : List ByteArray) (s : ByteArray) : Bool := l.any fun t => t.toList == s.toList
def hasB (S : SetV) (k n : Int) (s : ByteArray) : Bool := rightB k n s && (if k = 0 then S.absent else if k = 1 then inIntsB S.ints n else (inStrsB S.strs s != S.co))
theorem two_new {w w1 : World} {o1 o2 : Obj} (h : Below ((w.alloc o1).alloc o2).heap.size ((w.alloc o1).alloc o2) w1) : w1.heap[w.heap.size]? = some o1 ∧ w1.heap[w.heap.size + 1]? = some o2 ∧ Below w.heap.size w w1 := by
 have s1 : (w.alloc o1).heap.size = w.heap.size + 1 := by show (w.heap.push _).size = _; simp
 have s2 : ((w.alloc o1).alloc o2).heap.size = w.heap.size + 2 := by show ((w.alloc o1).heap.push _).size = _; rw [Array.size_push, s1]
 refine ⟨?_, ?_, below_alloc (below_alloc h)⟩
 ·rw [h.block _ (by omega)];show ((w.heap.push o1).push o2)[w.heap.size]? = _;rw [Array.getElem?_push, if_neg (by simp), Array.getElem?_push, if_pos rfl]
 ·rw [h.block _ (by omega)];show ((w.heap.push o1).push o2)[w.heap.size + 1]? = _;rw [Array.getElem?_push, if_pos (by simp)]
end Go.Proofs.YtlmdcaemjaldfaaGreat
namespace Go.Proofs.YtlmdcaemjaldfaaGreat
open Go.RowKit
def rgB : Option Int → List Rg → Bool
 | _, [] => true
 | none, r :: l => decide (r.1 ≤ r.2) && rgB (some r.2) l
 | some h, r :: l => decide (r.1 ≤ r.2) && (decide (h + 1 < r.1) && rgB (some r.2) l)
def stB : Option ByteArray → List ByteArray → Bool
 | _, [] => true
 | none, s :: l => decide (s.size ≤ 8) && stB (some s) l
 | some p, s :: l => decide (s.size ≤ 8) && (Op.bytesLess p.toList s.toList && stB (some s) l)
def rightSet (S : SetV) : Bool := rgB none S.ints && stB none S.strs
def prevR (l : List Rg) (k : Nat) : Option Int := if k = 0 then none else some (l.getD (k - 1) (0, 0)).2
def prevS (l : List ByteArray) (k : Nat) : Option ByteArray := if k = 0 then none else some (l.getD (k - 1) ⟨#[]⟩)
theorem below_drewN {w w1 : World} (h : Below w.heap.size w w1) (n : Nat) : Below w.heap.size w (w1.drewN n) := ⟨h.os, h.tape, h.output, h.size, h.block⟩
end Go.Proofs.YtlmdcaemjaldfaaGreat
namespace Go.Proofs.YtlmdcaemjaldfaaGreat
open Go.RowKit
def rngEqB : List Rg → List Rg → Bool
 | [], [] => true
 | r :: l, s :: m => ((r.1 == s.1) && (r.2 == s.2)) && rngEqB l m
 | _, _ => false
def strEqB : List ByteArray → List ByteArray → Bool
 | [], [] => true
 | r :: l, s :: m => (r.toList == s.toList) && strEqB l m
 | _, _ => false
theorem rngEqB_iff : ∀ a b : List Rg, rngEqB a b = true ↔ a = b
 | [], [] => by simp [rngEqB]
 | [], _ :: _ => by simp [rngEqB]
 | _ :: _, [] => by simp [rngEqB]
 | r :: l, s :: m => by
  simp only [rngEqB, Bool.and_eq_true, beq_iff_eq, rngEqB_iff l m, List.cons.injEq]
  constructor
  ·rintro ⟨⟨h1, h2⟩, h3⟩; exact ⟨Prod.ext h1 h2, h3⟩
  ·rintro ⟨rfl, h⟩; exact ⟨⟨rfl, rfl⟩, h⟩
theorem bytes_eq {a b : ByteArray} : (a.toList == b.toList) = true ↔ a = b := by
 rw [beq_iff_eq, ByteArray.toList_eq, ByteArray.toList_eq]
 constructor
 ·intro h; apply ByteArray.ext; exact Array.toList_inj.1 h
 ·rintro rfl; rfl
theorem strEqB_iff : ∀ a b : List ByteArray, strEqB a b = true ↔ a = b
 | [], [] => by simp [strEqB]
 | [], _ :: _ => by simp [strEqB]
 | _ :: _, [] => by simp [strEqB]
 | r :: l, s :: m => by simp only [strEqB, Bool.and_eq_true, bytes_eq, strEqB_iff l m, List.cons.injEq]
theorem rngEqB_len : ∀ a b : List Rg, a.length ≠ b.length → rngEqB a b = false := fun a b h => by
 cases e : rngEqB a b
 ·rfl
 ·exact absurd (congrArg List.length ((rngEqB_iff a b).1 e)) h
theorem strEqB_len : ∀ a b : List ByteArray, a.length ≠ b.length → strEqB a b = false := fun a b h => by
 cases e : strEqB a b
 ·rfl
 ·exact absurd (congrArg List.length ((strEqB_iff a b).1 e)) h
def sameB (A B : SetV) : Bool := ((A.absent == B.absent) && (A.co == B.co)) && (rngEqB A.ints B.ints && strEqB A.strs B.strs)
theorem sameB_iff (A B : SetV) : sameB A B = true ↔ A = B := by
 obtain ⟨a1, a2, a3, a4⟩ := A;obtain ⟨b1, b2, b3, b4⟩ := B;simp only [sameB, Bool.and_eq_true, beq_iff_eq, rngEqB_iff, strEqB_iff, SetV.mk.injEq]
 constructor
 ·rintro ⟨⟨h1, h2⟩, h3, h4⟩; exact ⟨h1, h3, h2, h4⟩
 ·rintro ⟨h1, h2, h3, h4⟩; exact ⟨⟨h1, h3⟩, h2, h4⟩
theorem two_boxes (w : World) (o1 o2 : Obj) : ((w.alloc o1).alloc o2).heap[w.heap.size]? = some o1 ∧ ((w.alloc o1).alloc o2).heap[w.heap.size + 1]? = some o2 ∧ Below w.heap.size w ((w.alloc o1).alloc o2) := two_new (Below.refl _ _)
end Go.Proofs.YtlmdcaemjaldfaaGreat
namespace Go.Proofs.YtlmdcaemjaldfaaGreat
open Go.RowKit
def noSet : SetV := ⟨false, [], false, []⟩
def SetsAt (w : World) (v : Value) (l : List SetV) : Prop :=
 l.length ≤ 9223372036854775807 ∧ ∃ (a : Option Addr) (cap : Nat), v = .slice a l.length cap ∧ ∀ i, i < l.length → ∃ (b off : Nat) (vi vs : Value), a = some ⟨b, off, none⟩ ∧ b < w.heap.size ∧
  w.cell? ⟨b, off + i * 4, none⟩ = some (.bool (l.getD i noSet).absent) ∧ w.cell? ⟨b, off + i * 4 + 1, none⟩ = some vi ∧ w.cell? ⟨b, off + i * 4 + 2, none⟩ = some (.bool (l.getD i noSet).co) ∧ w.cell? ⟨b, off + i * 4 + 3, none⟩ = some vs ∧
  RngsAt w vi (l.getD i noSet).ints ∧ StrsAt w vs (l.getD i noSet).strs
theorem SetsAt.on {w w' : World} {v : Value} {l : List SetV} (h : SetsAt w v l) (hb : Below w.heap.size w w') : SetsAt w' v l := by
 obtain ⟨h2, a, cap, hv, h⟩ := h;refine ⟨h2, a, cap, hv, fun i hi => ?_⟩;obtain ⟨b, off, vi, vs, ha, hlt, c0, c1, c2, c3, h1, h2⟩ := h i hi;exact ⟨b, off, vi, vs, ha, Nat.lt_of_lt_of_le hlt hb.size, (hb.cell (p := ⟨b, _, none⟩) hlt).trans c0, (hb.cell (p := ⟨b, _, none⟩) hlt).trans c1, (hb.cell (p := ⟨b, _, none⟩) hlt).trans c2, (hb.cell (p := ⟨b, _, none⟩) hlt).trans c3, h1.on hb, h2.on hb⟩
theorem SetsAt.at {w : World} {a : Option Addr} {n cap : Nat} {l : List SetV} (h : SetsAt w (.slice a n cap) l) : n = l.length ∧ ∀ i, i < l.length → ∃ (b off : Nat) (vi vs : Value), a = some ⟨b, off, none⟩ ∧ b < w.heap.size ∧
  w.cell? ⟨b, off + i * 4, none⟩ = some (.bool (l.getD i noSet).absent) ∧ w.cell? ⟨b, off + i * 4 + 1, none⟩ = some vi ∧ w.cell? ⟨b, off + i * 4 + 2, none⟩ = some (.bool (l.getD i noSet).co) ∧ w.cell? ⟨b, off + i * 4 + 3, none⟩ = some vs ∧
  RngsAt w vi (l.getD i noSet).ints ∧ StrsAt w vs (l.getD i noSet).strs := by
 obtain ⟨h2, a', cap', hv, h⟩ := h
 injection hv with e1 e2 e3
 subst e1 e2;exact ⟨rfl, h⟩
def fewB (S : SetV) : Bool := (decide (S.ints.length ≤ 40) && decide (S.strs.length ≤ 40)) && S.strs.all fun s => decide (s.size ≤ 100)
end Go.Proofs.YtlmdcaemjaldfaaGreat
namespace Go.Proofs.YtlmdcaemjaldfaaGreat
open Go.RowKit
def namedB (l : List SetV) (t : ByteArray) : Bool := l.any fun S => inStrsB S.strs t
def tryS (s : ByteArray) (n : Nat) : ByteArray := s ++ ⟨(Lib.itoa (n : Int)).toArray⟩
theorem itoa_short (n : Nat) (h : n ≤ 100000) : (⟨(Lib.itoa (n : Int)).toArray⟩ : ByteArray).size ≤ 20 := by
 rw [Lib.itoa_nonneg];have := dec_short n (by omega)
 simpa [ByteArray.size] using this
def FreshOut (l : List SetV) (s t : ByteArray) : Prop :=
 (∃ j : Nat, j < 100000 ∧ t = tryS s j ∧ namedB l t = false) ∨ (t = s ∧ ∀ j : Nat, j < 100000 → namedB l (tryS s j) = true)
end Go.Proofs.YtlmdcaemjaldfaaGreat
namespace Go.Proofs.YtlmdcaemjaldfaaGreat
open Go.RowKit
abbrev Va := Int × Int × ByteArray
def vaCells (l : List Va) : List Value := l.flatMap fun v => [.int .i64 v.1, .int .i64 v.2.1, .string v.2.2]
theorem vaCells_append (a b : List Va) : vaCells (a ++ b) = vaCells a ++ vaCells b := by unfold vaCells; rw [List.flatMap_append]
theorem vaCells_len : ∀ l : List Va, (vaCells l).length = l.length * 3
 | [] => rfl
 | v :: l => by
  have := vaCells_len l;unfold vaCells at *;rw [List.flatMap_cons, List.length_append, this]
  simp; omega
theorem vaCells_one (l : List Va) : ∀ u ∈ vaCells l, u.oneCell' = true := by
 intro u hu;unfold vaCells at hu;obtain ⟨v, _, hv⟩ := List.mem_flatMap.1 hu
 simp at hv
 rcases hv with rfl | rfl | rfl <;> rfl
theorem infoVal : (Tryz.prog.info? 42).map (fun i => (i.zero, i.size, i.bytes)) = some (some (.agg #[.int .i64 0, .int .i64 0, .string ⟨#[]⟩]), 3, 32) := by kernel_rfl
def OwnV (w : World) (B : Nat) (v : Value) (l : List Va) : Prop := w.ownsRow B 42 3 v l.length (vaCells l)
theorem OwnV.alloc {w : World} {B : Nat} {v : Value} {l : List Va} (h : OwnV w B v l) (o : Obj) : OwnV (w.alloc o) B v l := World.ownsRow.alloc h o
theorem OwnV.grownB {w w' : World} {B : Nat} {v : Value} {l : List Va} (h : OwnV w B v l) (hB : B ≤ w.heap.size) (hg : w.grownBy w' v.ownBlock) : Below B w w' :=
 (Below.refl _ _).grown hg hB (fun k hk => (World.ownsRow.lt h k hk).1)
theorem OwnV.on {w w' : World} {B : Nat} {v : Value} {l : List Va} (h : OwnV w B v l) (hb : Below w.heap.size w w') : OwnV w' B v l :=
 World.ownsRow.kept (row := none) h ⟨hb.os, hb.tape, hb.output, hb.size, fun k hk _ => hb.block k hk⟩ (by cases v.ownBlock <;> simp)
theorem ownV_new (w : World) (cs : Array Value) (l : List Va) (h : cs.toList = vaCells l) (hl : l.length ≤ 1000) : OwnV (w.alloc (.cells cs 42)) w.heap.size (.slice (some ⟨w.heap.size, 0, none⟩) l.length l.length) l := by
 have hs : cs.size = l.length * 3 := by rw [← Array.length_toList, h, vaCells_len]
 refine ⟨vaCells_len l, Or.inr ⟨w.heap.size, l.length, cs, rfl, Nat.le_refl _, heap_top _ _, Nat.le_refl _, by unfold maxLen; omega, hs, ?_⟩⟩;rw [h, List.take_of_length_le (by rw [vaCells_len]; omega)]
structure InR (w0 w : World) (R : Nat) (r : Rg) (o : Value) (l : List Va) : Prop where
 own : OwnV w w0.heap.size o l
 ne : o.ownBlock ≠ some R
 rb : w.heap[R]? = some (.cells #[.int .i64 r.1, .int .i64 r.2] 114 (0, 0))
 below : Below w0.heap.size w0 w
theorem InR.alloc {w0 w : World} {R : Nat} {r : Rg} {o : Value} {l : List Va} (h : InR w0 w R r o l) (x : Obj) : InR w0 (w.alloc x) R r o l :=
 ⟨h.own.alloc x, h.ne, (((Below.refl _ w).alloc (Nat.le_refl _) x).block R (lt_heap h.rb)).trans h.rb, h.below.alloc h.below.size x⟩
theorem InR.cells {w0 w : World} {R : Nat} {r : Rg} {o : Value} {l : List Va} (h : InR w0 w R r o l) : w.cell? ⟨R, 0, none⟩ = some (.int .i64 r.1) ∧ w.cell? ⟨R, 1, none⟩ = some (.int .i64 r.2) := ⟨cell_heap h.rb 0, cell_heap h.rb 1⟩
theorem InR.start {w0 w : World} {r : Rg} {o : Value} {l : List Va} (h : OwnV w w0.heap.size o l) (hb : Below w0.heap.size w0 w) : InR w0 (w.alloc (.cells #[.int .i64 r.1, .int .i64 r.2] 114)) w.heap.size r o l :=
 ⟨h.alloc _, fun e => by have := (World.ownsRow.lt h _ e).2; omega, heap_top _ _, hb.alloc hb.size _⟩
theorem two_at (w : World) (o1 o2 : Obj) : ((w.alloc o1).alloc o2).heap[w.heap.size + 1]? = some o2 := (two_new (Below.refl _ _)).2.1
def noS : ByteArray := ⟨#[]⟩
def ptsR (r : Rg) : List Va := ([(1, r.1, noS), (1, r.2, noS)] ++ if -9223372036854775808 < r.1 then [(1, r.1 - 1, noS)] else []) ++ if r.2 < 9223372036854775807 then [(1, r.2 + 1, noS)] else []
def ptsS (S : SetV) : List Va := S.ints.flatMap ptsR ++ S.strs.map fun s => (2, 0, s)
def pts0 : List Va := [(0, 0, noS), (1, -9223372036854775808, noS), (1, 9223372036854775807, noS), (1, 0, noS)]
def ptsL (l : List SetV) : List Va := pts0 ++ l.flatMap ptsS
theorem ptsR_len (r : Rg) : (ptsR r).length ≤ 4 := by
 unfold ptsR
 split <;> split <;> simp
theorem flat_len {α β : Type} (f : α → List β) (c : Nat) : ∀ l : List α, (∀ x ∈ l, (f x).length ≤ c) → (l.flatMap f).length ≤ l.length * c
 | [], _ => by simp
 | x :: l, h => by
  rw [List.flatMap_cons, List.length_append, List.length_cons, Nat.succ_mul];have := flat_len f c l (fun y hy => h y (by simp [hy]));have := h x (by simp);omega
theorem take_flat {α β : Type} (f : α → List β) (l : List α) (k : Nat) (d : α) (h : k < l.length) : (l.take (k + 1)).flatMap f = (l.take k).flatMap f ++ f (l.getD k d) := by
 rw [List.take_succ_eq_append_getElem h, List.flatMap_append, List.getD_eq_getElem?_getD, List.getElem?_eq_getElem h]
 simp
theorem take_map {α β : Type} (f : α → β) (l : List α) (k : Nat) (d : α) (h : k < l.length) : (l.take (k + 1)).map f = (l.take k).map f ++ [f (l.getD k d)] := by
 rw [List.take_succ_eq_append_getElem h, List.map_append, List.getD_eq_getElem?_getD, List.getElem?_eq_getElem h]
 simp
end Go.Proofs.YtlmdcaemjaldfaaGreat
namespace Go.Proofs.YtlmdcaemjaldfaaGreat
open Go.RowKit
theorem two_bx (w : World) (o1 o2 : Obj) : ((w.alloc o1).alloc o2).heap[w.heap.size]? = some o1 ∧ ((w.alloc o1).alloc o2).heap[w.heap.size + 1]? = some o2 ∧ Below w.heap.size w ((w.alloc o1).alloc o2) := two_new (Below.refl _ _)
def noVa : Va := (0, 0, noS)
theorem OwnV.form {w : World} {B : Nat} {v : Value} {l : List Va} (h : OwnV w B v l) (hne : 0 < l.length) : ∃ g cap, v = .slice (some ⟨g, 0, none⟩) l.length cap ∧ B ≤ g ∧ g < w.heap.size := by
 rcases h.2 with ⟨_, h⟩ | ⟨g, cap, cur, h1, h2, h3, _⟩
 ·omega
 ·exact ⟨g, cap, h1, h2, lt_heap h3⟩
theorem vaCells_at : ∀ (l : List Va) (i : Nat), i < l.length → (vaCells l)[i * 3]? = some (.int .i64 (l.getD i noVa).1) ∧ (vaCells l)[i * 3 + 1]? = some (.int .i64 (l.getD i noVa).2.1) ∧ (vaCells l)[i * 3 + 2]? = some (.string (l.getD i noVa).2.2)
 | [], i, h => by simp at h
 | v :: l, 0, _ => by simp [vaCells]
 | v :: l, i + 1, h => by
  have ih := vaCells_at l i (by simpa using h);have e : vaCells (v :: l) = [.int .i64 v.1, .int .i64 v.2.1, .string v.2.2] ++ vaCells l := rfl;rw [e];refine ⟨?_, ?_, ?_⟩
  ·rw [List.getElem?_append_right (by simp; omega)]
   simpa [show (i + 1) * 3 - 3 = i * 3 by omega] using ih.1
  ·rw [List.getElem?_append_right (by simp; omega)]
   simpa [show (i + 1) * 3 + 1 - 3 = i * 3 + 1 by omega] using ih.2.1
  ·rw [List.getElem?_append_right (by simp; omega)]
   simpa [show (i + 1) * 3 + 2 - 3 = i * 3 + 2 by omega] using ih.2.2
theorem OwnV.at {w : World} {B g n cap : Nat} {l : List Va} (h : OwnV w B (.slice (some ⟨g, 0, none⟩) n cap) l) (i : Nat) (hi : i < l.length) : w.cell? ⟨g, i * 3, none⟩ = some (.int .i64 (l.getD i noVa).1) ∧ w.cell? ⟨g, i * 3 + 1, none⟩ = some (.int .i64 (l.getD i noVa).2.1) ∧ w.cell? ⟨g, i * 3 + 2, none⟩ = some (.string (l.getD i noVa).2.2) := by
 obtain ⟨hl, hr⟩ := h;rcases hr with ⟨h0, _⟩ | ⟨g', cap', cur, h1, h2, h3, h4, h5, h6, h7⟩
 ·cases h0
 ·injection h1 with e1 e2 e3
  injection e1 with e1
  injection e1 with e1
  subst e1;have hc : ∀ j, j < l.length * 3 → w.cell? ⟨g, j, none⟩ = (vaCells l)[j]? := fun j hj => by
   rw [cell_heap h3, ← h7, List.getElem?_take, if_pos hj]
   simp
  obtain ⟨a1, a2, a3⟩ := vaCells_at l i hi;exact ⟨(hc _ (by omega)).trans a1, (hc _ (by omega)).trans a2, (hc _ (by omega)).trans a3⟩
def hasP (S : SetV) (p : Va) : Bool := hasB S p.1 p.2.1 p.2.2
def inPts (A B : SetV) (ps : List Va) : Bool := ps.all fun p => !(hasP A p && !(hasP B p))
theorem SetAt.pair {w : World} {v u : Value} {A B : SetV} (hv : SetAt w v A) (hu : SetAt w u B) (n : Nat) (hn : n = w.heap.size) : ∀ vi vs ui us, v = .agg #[.bool A.absent, vi, .bool A.co, vs] → u = .agg #[.bool B.absent, ui, .bool B.co, us] →
  SetsAt (w.alloc (.cells #[.bool A.absent, vi, .bool A.co, vs, .bool B.absent, ui, .bool B.co, us] 25)) (.slice (some ⟨n, 0, none⟩) 2 2) [A, B] := by
 intro vi vs ui us ev eu;subst hn;obtain ⟨vi', vs', ev', hI, hS⟩ := hv;obtain ⟨ui', us', eu', hJ, hT⟩ := hu;rw [ev] at ev';rw [eu] at eu'
 simp at ev' eu'
 obtain ⟨rfl, rfl⟩ := ev';obtain ⟨rfl, rfl⟩ := eu';have hb := (Below.refl _ w).alloc (Nat.le_refl _) (.cells #[.bool A.absent, vi, .bool A.co, vs, .bool B.absent, ui, .bool B.co, us] 25);have hs : w.heap.size < (w.alloc (.cells #[.bool A.absent, vi, .bool A.co, vs, .bool B.absent, ui, .bool B.co, us] 25)).heap.size := by show _ < (w.heap.push _).size; simp
 refine ⟨by simp, _, 2, rfl, fun i hi => ?_⟩;have hc := fun j => cell_heap (heap_new w (.cells #[.bool A.absent, vi, .bool A.co, vs, .bool B.absent, ui, .bool B.co, us] 25)) j
 match i, hi with
 | 0, _ => exact ⟨_, 0, vi, vs, rfl, hs, hc 0, hc 1, hc 2, hc 3, hI.on hb, hS.on hb⟩
 | 1, _ => exact ⟨_, 0, ui, us, rfl, hs, hc 4, hc 5, hc 6, hc 7, hJ.on hb, hT.on hb⟩
theorem ptsR_noS (r : Rg) : ∀ p ∈ ptsR r, p.2.2 = noS := by
 intro p hp;unfold ptsR at hp;rw [List.mem_append, List.mem_append] at hp;rcases hp with (hp | hp) | hp
 ·simp at hp; rcases hp with rfl | rfl <;> rfl
 ·split at hp
  ·simp at hp; rw [hp]
  ·simp at hp
 ·split at hp
  ·simp at hp; rw [hp]
  ·simp at hp
theorem ptsL_size (l : List SetV) (M : Nat) (h : ∀ S ∈ l, ∀ s ∈ S.strs, s.size ≤ M) : ∀ p ∈ ptsL l, p.2.2.size ≤ M := by
 intro p hp;have n0 : noS.size ≤ M := by show (0 : Nat) ≤ M; omega
 unfold ptsL at hp;rcases List.mem_append.1 hp with hp | hp
 ·simp [pts0] at hp
  rcases hp with rfl | rfl | rfl | rfl <;> exact n0
 ·obtain ⟨S, hS, hp⟩ := List.mem_flatMap.1 hp;unfold ptsS at hp;rcases List.mem_append.1 hp with hp | hp
  ·obtain ⟨r, _, hp⟩ := List.mem_flatMap.1 hp;rw [ptsR_noS r p hp]; exact n0
  ·obtain ⟨s, hs, rfl⟩ := List.mem_map.1 hp;exact h S hS s hs
theorem ptsS_len (S : SetV) (h : S.ints.length ≤ 400 ∧ S.strs.length ≤ 400) : (ptsS S).length ≤ 2000 := by
 unfold ptsS;rw [List.length_append, List.length_map];have := flat_len ptsR 4 S.ints (fun x _ => ptsR_len x);omega
theorem ptsL_len (l : List SetV) (h : ∀ S ∈ l, S.ints.length ≤ 400 ∧ S.strs.length ≤ 400) : (ptsL l).length ≤ 4 + l.length * 2000 := by
 unfold ptsL;rw [List.length_append];have := flat_len ptsS 2000 l (fun S hS => ptsS_len S (h S hS));have h4 : pts0.length = 4 := rfl;omega
theorem fresh_size {l : List SetV} {t : ByteArray} (h : FreshOut l ⟨#[126]⟩ t) : t.size ≤ 21 := by
 have h1 : (⟨#[126]⟩ : ByteArray).size = 1 := rfl;rcases h with ⟨j, hj, rfl, _⟩ | ⟨rfl, _⟩
 ·unfold tryS;rw [ByteArray.size_append];have := itoa_short j (by omega);omega
 ·omega
end Go.Proofs.YtlmdcaemjaldfaaGreat
namespace Go.Proofs.YtlmdcaemjaldfaaGreat
theorem dec_ne_nil (u : Nat) : Lib.decDigits u ≠ [] := by
 rw [Lib.decDigits]; split <;> simp
theorem decDigits_inj (u : Nat) : ∀ v, Lib.decDigits u = Lib.decDigits v → u = v := by
 induction u using Nat.strongRecOn with
 | _ u ih =>
  intro v h;have hu : Lib.decDigits u = if h : u < 10 then [UInt8.ofNat (48 + u)] else Lib.decDigits (u / 10) ++ [UInt8.ofNat (48 + u % 10)] := by rw [Lib.decDigits]
  have hv : Lib.decDigits v = if h : v < 10 then [UInt8.ofNat (48 + v)] else Lib.decDigits (v / 10) ++ [UInt8.ofNat (48 + v % 10)] := by rw [Lib.decDigits]
  have key : ∀ a b : Nat, a < 10 → b < 10 → UInt8.ofNat (48 + a) = UInt8.ofNat (48 + b) → a = b := fun a b ha hb e => by
   have := congrArg UInt8.toNat e;rw [UInt8.toNat_ofNat', UInt8.toNat_ofNat'] at this;omega
  by_cases h1 : u < 10
  ·by_cases h2 : v < 10
   ·rw [hu, hv, dif_pos h1, dif_pos h2] at h;simp only [List.cons.injEq, and_true] at h;exact key u v h1 h2 h
   ·rw [hu, hv, dif_pos h1, dif_neg h2] at h;have e := congrArg List.length h;have e2 := List.length_pos_iff.2 (dec_ne_nil (v / 10));simp only [List.length_append, List.length_cons, List.length_nil] at e;omega
  ·by_cases h2 : v < 10
   ·rw [hu, hv, dif_neg h1, dif_pos h2] at h;have e := congrArg List.length h;have e2 := List.length_pos_iff.2 (dec_ne_nil (u / 10));simp only [List.length_append, List.length_cons, List.length_nil] at e;omega
   ·rw [hu, hv, dif_neg h1, dif_neg h2] at h;obtain ⟨e1, e2⟩ := List.append_inj' h rfl;simp only [List.cons.injEq, and_true] at e2;have a := ih (u / 10) (by omega) (v / 10) e1;have b := key (u % 10) (v % 10) (by omega) (by omega) e2;omega
theorem tryS_inj (s : ByteArray) (i j : Nat) (h : tryS s i = tryS s j) : i = j := by
 have h1 := congrArg (fun b : ByteArray => b.data.toList) h;simp only [tryS, ByteArray.data_append, Array.toList_append, List.toList_toArray, List.append_cancel_left_eq, Lib.itoa_nonneg] at h1;exact decDigits_inj i j h1
theorem inInts_iff (l : List Rg) (n : Int) : inIntsB l n = true ↔ memR l n := by
 unfold inIntsB memR;rw [List.any_eq_true]
 constructor
 ·rintro ⟨r, hr, h⟩
  simp at h
  exact ⟨r, hr, h⟩
 ·rintro ⟨r, hr, h⟩;exact ⟨r, hr, by simpa using h⟩
theorem inStrs_iff (l : List ByteArray) (s : ByteArray) : inStrsB l s = true ↔ s ∈ l := by
 unfold inStrsB;rw [List.any_eq_true]
 constructor
 ·rintro ⟨t, ht, h⟩;rw [← bytes_eq.1 h]; exact ht
 ·intro h;exact ⟨s, h, bytes_eq.2 rfl⟩
theorem named_iff (l : List SetV) (t : ByteArray) : namedB l t = false ↔ ∀ S ∈ l, t ∉ S.strs := by
 unfold namedB;rw [List.any_eq_false]
 constructor
 ·intro h S hS ht;exact h S hS ((inStrs_iff _ _).2 ht)
 ·intro h S hS ht;exact h S hS ((inStrs_iff _ _).1 ht)
theorem fresh_new {l : List SetV} {s t : ByteArray} (h : FreshOut l s t) (hn : (l.flatMap fun S => S.strs).length < 100000) : (∃ j, j < 100000 ∧ t = tryS s j) ∧ ∀ S ∈ l, t ∉ S.strs := by
 rcases h with ⟨j, hj, ht, h⟩ | ⟨rfl, h⟩
 ·exact ⟨⟨j, hj, ht⟩, (named_iff _ _).1 h⟩
 ·exfalso
  obtain ⟨i, hi, hf⟩ := fresh_out (fun i => (tryS t i).data.toList) (fun i j e => tryS_inj t i j (by
   apply ByteArray.ext
   exact Array.toList_inj.1 e)) ((l.flatMap fun S => S.strs).map fun b => b.data.toList) 100000 (by rw [List.length_map]; exact hn)
  have h1 := h i hi;refine hf ?_;cases hx : namedB l (tryS t i)
  ·rw [hx] at h1; exact absurd h1 (by simp)
  ·unfold namedB at hx;rw [List.any_eq_true] at hx;obtain ⟨S, hS, hx⟩ := hx;exact List.mem_map.2 ⟨tryS t i, List.mem_flatMap.2 ⟨S, hS, (inStrs_iff _ _).1 hx⟩, rfl⟩
theorem rgB_some (l : List Rg) : ∀ h : Int, rgB (some h) l = true ↔ rightFrom (h + 1) l := by
 induction l with
 | nil => intro h; simp [rgB, rightFrom]
 | cons r l ih =>
  intro h;simp only [rgB, Bool.and_eq_true, decide_eq_true_eq, ih, rightFrom]
  constructor
  ·rintro ⟨h1, h2, h3⟩; exact ⟨h2, h1, h3⟩
  ·rintro ⟨h1, h2, h3⟩; exact ⟨h2, h1, h3⟩
theorem rgB_none (l : List Rg) : rgB none l = true ↔ rightR l := by
 cases l with
 | nil => simp [rgB, rightR]
 | cons r l => simp only [rgB, Bool.and_eq_true, decide_eq_true_eq, rgB_some, rightR]
def rightS (l : List ByteArray) : Prop := (∀ s ∈ l, s.size ≤ 8) ∧ risesS (l.map fun b => b.toList)
theorem stB_some (l : List ByteArray) : ∀ p : ByteArray, stB (some p) l = true ↔ rightS l ∧ ∀ b ∈ l, Op.bytesLess p.toList b.toList = true := by
 induction l with
 | nil => intro p; simp [stB, rightS, risesS]
 | cons s l ih =>
  intro p;simp only [stB, Bool.and_eq_true, decide_eq_true_eq, ih, rightS, List.map_cons, risesS, List.mem_cons, List.mem_map, forall_eq_or_imp]
  constructor
  ·rintro ⟨h1, h2, ⟨h3, h4⟩, h5⟩;refine ⟨⟨⟨h1, h3⟩, ?_, h4⟩, h2, fun b hb => lessB_trans _ _ _ h2 (h5 b hb)⟩;rintro b ⟨x, hx, rfl⟩;exact h5 x hx
  ·rintro ⟨⟨⟨h1, h3⟩, h6, h4⟩, h2, h5⟩;exact ⟨h1, h2, ⟨h3, h4⟩, fun b hb => h6 _ ⟨b, hb, rfl⟩⟩
theorem stB_none (l : List ByteArray) : stB none l = true ↔ rightS l := by
 cases l with
 | nil => simp [stB, rightS, risesS]
 | cons s l =>
  simp only [stB, Bool.and_eq_true, decide_eq_true_eq, stB_some, rightS, List.map_cons, risesS, List.mem_cons, List.mem_map, forall_eq_or_imp]
  constructor
  ·rintro ⟨h1, ⟨h3, h4⟩, h5⟩;refine ⟨⟨h1, h3⟩, ?_, h4⟩;rintro b ⟨x, hx, rfl⟩;exact h5 x hx
  ·rintro ⟨⟨h1, h3⟩, h6, h4⟩;exact ⟨h1, ⟨h3, h4⟩, fun b hb => h6 _ ⟨b, hb, rfl⟩⟩
theorem rightSet_iff (S : SetV) : rightSet S = true ↔ rightR S.ints ∧ rightS S.strs := by
 unfold rightSet;rw [Bool.and_eq_true, rgB_none, stB_none]
theorem toList_inj {a b : ByteArray} (h : a.toList = b.toList) : a = b := bytes_eq.1 (beq_iff_eq.2 h)
theorem rightS_ext (a b : List ByteArray) (ha : rightS a) (hb : rightS b) (h : ∀ s : ByteArray, s ∈ a ↔ s ∈ b) : a = b := by
 have hm : ∀ l : List ByteArray, ∀ s : ByteArray, s.toList ∈ l.map (fun x => x.toList) ↔ s ∈ l := fun l s => by
  rw [List.mem_map]
  constructor
  ·rintro ⟨x, hx, e⟩; rw [← toList_inj e]; exact hx
  ·intro hs; exact ⟨s, hs, rfl⟩
 have e := risesS_ext (a.map fun x => x.toList) (b.map fun x => x.toList) ha.2 hb.2 (fun s => by
  constructor
  ·intro hs;obtain ⟨x, hx, rfl⟩ := List.mem_map.1 hs;exact (hm b x).2 ((h x).1 hx)
  ·intro hs;obtain ⟨x, hx, rfl⟩ := List.mem_map.1 hs;exact (hm a x).2 ((h x).2 hx))
 exact List.map_inj_right (fun x y e => toList_inj e) |>.1 e
def rightV (p : Va) : Prop := rightB p.1 p.2.1 p.2.2 = true
theorem size_nil {s : ByteArray} (h : s.size = 0) : s = noS := ByteArray.ext (Array.eq_empty_of_size_eq_zero h)
theorem toList_len (s : ByteArray) : s.toList.length = s.size := by rw [ByteArray.toList_eq]; exact (Lib.size_eq s).symm
theorem rightV_cases {p : Va} (h : rightV p) : p = (0, 0, noS) ∨ (∃ n, p = (1, n, noS)) ∨ ∃ s : ByteArray, s.size ≤ 8 ∧ p = (2, 0, s) := by
 obtain ⟨k, n, s⟩ := p;unfold rightV rightB at h;dsimp only at h;have hnil : s.toList.isEmpty = true → s = noS := fun e => size_nil (by rw [← toList_len, List.isEmpty_iff.1 e]; rfl)
 split at h
 ·rename_i hk
  rw [Bool.and_eq_true, beq_iff_eq] at h
  left; rw [hk, h.1, hnil h.2]
 ·split at h
  ·rename_i hk
   right; left; exact ⟨n, by rw [hk, hnil h]⟩
  ·split at h
   ·rename_i hk
    rw [Bool.and_eq_true, beq_iff_eq, decide_eq_true_eq] at h
    right; right; exact ⟨s, by omega, by rw [hk, h.1]⟩
   ·exact absurd h (by simp)
theorem noS_empty : noS.toList.isEmpty = true := by rw [ByteArray.toList_eq]; rfl
theorem rightV_num (n : Int) : rightB 1 n noS = true := by
 unfold rightB;rw [if_neg (by omega), if_pos rfl, noS_empty]
theorem rightV_abs : rightB 0 0 noS = true := by
 unfold rightB;rw [if_pos rfl, noS_empty]; rfl
theorem rightV_str {s : ByteArray} (h : s.size ≤ 8) : rightB 2 0 s = true := by
 have e : decide ((s.size : Int) ≤ 8) = true := decide_eq_true (by omega);unfold rightB;rw [if_neg (by omega), if_neg (by omega), if_pos rfl, e]; rfl
theorem has_abs (S : SetV) : hasP S (0, 0, noS) = S.absent := by unfold hasP hasB; rw [rightV_abs]; rfl
theorem has_num (S : SetV) (n : Int) : hasP S (1, n, noS) = inIntsB S.ints n := by
 unfold hasP hasB;dsimp only;rw [rightV_num, Bool.true_and, if_neg (by omega), if_pos rfl]
theorem has_str (S : SetV) {s : ByteArray} (h : s.size ≤ 8) : hasP S (2, 0, s) = (inStrsB S.strs s != S.co) := by
 unfold hasP hasB;dsimp only;rw [rightV_str h, Bool.true_and, if_neg (by omega), if_neg (by omega)]
theorem has_wrong (S : SetV) {p : Va} (h : ¬ rightV p) : hasP S p = false := by
 unfold rightV at h;unfold hasP hasB;cases e : rightB p.1 p.2.1 p.2.2
 ·rfl
 ·exact absurd e h
def inSet (A B : SetV) : Prop := ∀ p : Va, -9223372036854775808 ≤ p.2.1 → p.2.1 ≤ 9223372036854775807 → hasP A p = true → hasP B p = true
theorem inPts_iff (A B : SetV) (ps : List Va) : inPts A B ps = true ↔ ∀ p ∈ ps, hasP A p = true → hasP B p = true := by
 unfold inPts;rw [List.all_eq_true]
 constructor
 ·intro h p hp ha;have := h p hp;rw [ha] at this
  simpa using this
 ·intro h p hp;cases ha : hasP A p
  ·rfl
  ·rw [h p hp ha]; rfl
theorem fresh_short {j : Nat} (h : j < 100000) : (tryS ⟨#[126]⟩ j).size ≤ 8 := by
 unfold tryS;rw [ByteArray.size_append];have h1 : (⟨#[126]⟩ : ByteArray).size = 1 := rfl;have h2 : (⟨(Lib.itoa (j : Int)).toArray⟩ : ByteArray).size = (Lib.decDigits j).length := by rw [Lib.itoa_nonneg]; simp [ByteArray.size]
 have h3 : (Lib.decDigits j).length ≤ 5 := by
  rw [Lib.decDigits_length];have one : ∀ u : Nat, ∀ c : Nat, (u / 10 < 10 ^ c → Lib.nDigits (u / 10) ≤ c) → 1 ≤ c → u < 10 ^ (c + 1) → Lib.nDigits u ≤ c + 1 := fun u c ih hc hu => by
   by_cases h : u < 10
   ·rw [Lib.nDigits_small h]; omega
   ·rw [Lib.nDigits_big h];have := ih (Nat.div_lt_of_lt_mul (by rw [Nat.mul_comm]; exact (Nat.pow_succ (n := 10) (m := c)) ▸ hu));omega
  refine one j 4 (fun h4 => one _ 3 (fun h3 => one _ 2 (fun h2 => one _ 1 (fun h1 => ?_) (by omega) h2) (by omega) h3) (by omega) h4) (by omega) (by omega);rw [Lib.nDigits_small (by omega)]; omega
 omega
theorem ptsR_bound (r : Rg) (b : -9223372036854775808 ≤ r.1 ∧ r.1 ≤ 9223372036854775807 ∧ -9223372036854775808 ≤ r.2 ∧ r.2 ≤ 9223372036854775807) : ∀ p ∈ ptsR r, -9223372036854775808 ≤ p.2.1 ∧ p.2.1 ≤ 9223372036854775807 := by
 intro p hp;unfold ptsR at hp;rw [List.mem_append, List.mem_append] at hp;rcases hp with (hp | hp) | hp
 ·simp at hp; rcases hp with rfl | rfl <;> (dsimp only; omega)
 ·split at hp
  ·simp at hp; rw [hp]; dsimp only; omega
  ·simp at hp
 ·split at hp
  ·simp at hp; rw [hp]; dsimp only; omega
  ·simp at hp
theorem ptsL_bound (l : List SetV) (h : ∀ S ∈ l, inI64 S.ints) : ∀ p ∈ ptsL l, -9223372036854775808 ≤ p.2.1 ∧ p.2.1 ≤ 9223372036854775807 := by
 intro p hp;unfold ptsL at hp;rcases List.mem_append.1 hp with hp | hp
 ·simp [pts0] at hp
  rcases hp with rfl | rfl | rfl | rfl <;> (dsimp only; omega)
 ·obtain ⟨S, hS, hp⟩ := List.mem_flatMap.1 hp;unfold ptsS at hp;rcases List.mem_append.1 hp with hp | hp
  ·obtain ⟨r, hr, hp⟩ := List.mem_flatMap.1 hp;exact ptsR_bound r (h S hS r hr) p hp
  ·obtain ⟨s, hs, rfl⟩ := List.mem_map.1 hp;dsimp only; omega
theorem inPts_inSet (A B : SetV) (t : ByteArray) (ht : FreshOut [A, B] ⟨#[126]⟩ t) (rA : rightSet A = true) (rB : rightSet B = true) (iA : inI64 A.ints) (iB : inI64 B.ints) (fA : A.strs.length ≤ 400) (fB : B.strs.length ≤ 400) :
  inPts A B (ptsL [A, B] ++ [(2, 0, t)]) = true ↔ inSet A B := by
 obtain ⟨⟨j, hj, hjt⟩, hnew⟩ := fresh_new ht (by simp; omega);have ht8 : t.size ≤ 8 := by rw [hjt]; exact fresh_short hj
 obtain ⟨rAi, rAs⟩ := (rightSet_iff A).1 rA;obtain ⟨rBi, rBs⟩ := (rightSet_iff B).1 rB;rw [inPts_iff]
 constructor
 ·intro h p b0 b1 ha;have hp : rightV p := Classical.byContradiction fun hp => by rw [has_wrong A hp] at ha; simp at ha
  have mem : ∀ q, q ∈ ptsL [A, B] → hasP A q = true → hasP B q = true := fun q hq => h q (List.mem_append_left _ hq)
  have memS : ∀ S, S ∈ [A, B] → ∀ q ∈ ptsS S, hasP A q = true → hasP B q = true := fun S hS q hq => mem q (List.mem_append_right _ (List.mem_flatMap.2 ⟨S, hS, hq⟩))
  have memR' : ∀ S, S ∈ [A, B] → ∀ r ∈ S.ints, ∀ q ∈ ptsR r, hasP A q = true → hasP B q = true := fun S hS r hr q hq => memS S hS q (List.mem_append_left _ (List.mem_flatMap.2 ⟨r, hr, hq⟩))
  have memT : ∀ S, S ∈ [A, B] → ∀ s ∈ S.strs, hasP A (2, 0, s) = true → hasP B (2, 0, s) = true := fun S hS s hs => memS S hS _ (List.mem_append_right _ (List.mem_map.2 ⟨s, hs, rfl⟩))
  rcases rightV_cases hp with rfl | ⟨n, rfl⟩ | ⟨s, hs, rfl⟩
  ·exact mem _ (List.mem_append_left _ (by simp [pts0])) ha
  ·rw [has_num] at ha ⊢;rw [inInts_iff] at ha ⊢;refine sub_points A.ints B.ints (fun r hr hle => ?_) (fun r hr s hs hlt hm => ?_) n ha
   ·have := memR' A (by simp) r hr (1, r.1, noS) (by unfold ptsR; simp);rw [has_num, has_num, inInts_iff, inInts_iff] at this;exact this ⟨r, hr, Int.le_refl _, hle⟩
   ·have bs := iA s hs;have := memR' B (by simp) r hr (1, r.2 + 1, noS) (by unfold ptsR; rw [if_pos (show r.2 < 9223372036854775807 by omega)]; simp);rw [has_num, has_num, inInts_iff, inInts_iff] at this;exact this hm
  ·by_cases h1 : s ∈ A.strs
   ·exact memT A (by simp) s h1 ha
   ·by_cases h2 : s ∈ B.strs
    ·exact memT B (by simp) s h2 ha
    ·have hf := h (2, 0, t) (List.mem_append_right _ (by simp));rw [has_str A ht8, has_str B ht8] at hf;rw [has_str A hs] at ha;rw [has_str B hs];have n1 : inStrsB A.strs s = false := by cases e : inStrsB A.strs s; rfl; exact absurd ((inStrs_iff _ _).1 e) h1
     have n2 : inStrsB B.strs s = false := by cases e : inStrsB B.strs s; rfl; exact absurd ((inStrs_iff _ _).1 e) h2
     have n3 : inStrsB A.strs t = false := by cases e : inStrsB A.strs t; rfl; exact absurd ((inStrs_iff _ _).1 e) (hnew A (by simp))
     have n4 : inStrsB B.strs t = false := by cases e : inStrsB B.strs t; rfl; exact absurd ((inStrs_iff _ _).1 e) (hnew B (by simp))
     rw [n3, n4] at hf;rw [n1] at ha;rw [n2];exact hf ha
 ·intro h p hp ha;have hb : -9223372036854775808 ≤ p.2.1 ∧ p.2.1 ≤ 9223372036854775807 := by
   rcases List.mem_append.1 hp with hp | hp
   ·refine ptsL_bound [A, B] (fun S hS => ?_) p hp;rcases List.mem_cons.1 hS with rfl | hS
    ·exact iA
    ·rcases List.mem_cons.1 hS with rfl | hS
     ·exact iB
     ·simp at hS
   ·simp at hp
    rw [hp]; dsimp only; omega
  exact h p hb.1 hb.2 ha
end Go.Proofs.YtlmdcaemjaldfaaGreat
namespace Go.Proofs.YtlmdcaemjaldfaaGreat
theorem inStrs_not {l : List ByteArray} {s : ByteArray} (h : s ∉ l) : inStrsB l s = false := by
 cases e : inStrsB l s
 ·rfl
 ·exact absurd ((inStrs_iff _ _).1 e) h
theorem some_fresh (a b : List ByteArray) (h : a.length + b.length < 100000) : ∃ t : ByteArray, t.size ≤ 8 ∧ t ∉ a ∧ t ∉ b := by
 obtain ⟨i, hi, hf⟩ := fresh_out (fun i => (tryS ⟨#[126]⟩ i).data.toList) (fun i j e => tryS_inj _ i j (by
  apply ByteArray.ext
  exact Array.toList_inj.1 e)) ((a ++ b).map fun x => x.data.toList) 100000 (by rw [List.length_map, List.length_append]; exact h)
 refine ⟨tryS ⟨#[126]⟩ i, fresh_short hi, fun hm => hf ?_, fun hm => hf ?_⟩
 ·exact List.mem_map.2 ⟨_, List.mem_append_left _ hm, rfl⟩
 ·exact List.mem_map.2 ⟨_, List.mem_append_right _ hm, rfl⟩
theorem set_ext (A B : SetV) (rA : rightSet A = true) (rB : rightSet B = true) (iA : inI64 A.ints) (iB : inI64 B.ints) (hn : A.strs.length + B.strs.length < 100000)
  (h : ∀ p : Va, -9223372036854775808 ≤ p.2.1 → p.2.1 ≤ 9223372036854775807 → hasP A p = hasP B p) : A = B := by
 obtain ⟨rAi, rAs⟩ := (rightSet_iff A).1 rA;obtain ⟨rBi, rBs⟩ := (rightSet_iff B).1 rB;have e1 : A.absent = B.absent := by
  have := h (0, 0, noS) (by dsimp only; omega) (by dsimp only; omega)
  rwa [has_abs, has_abs] at this
 have e2 : A.ints = B.ints := by
  refine rightR_ext64 _ _ rAi rBi iA iB fun n h0 h1 => ?_
  have := h (1, n, noS) h0 h1;rw [has_num, has_num] at this;rw [← inInts_iff, ← inInts_iff, this]
 have e3 : A.co = B.co := by
  obtain ⟨t, t8, ta, tb⟩ := some_fresh A.strs B.strs hn;have := h (2, 0, t) (by dsimp only; omega) (by dsimp only; omega);rw [has_str A t8, has_str B t8, inStrs_not ta, inStrs_not tb] at this
  revert this
  cases A.co <;> cases B.co <;> simp
 have e4 : A.strs = B.strs := by
  refine rightS_ext _ _ rAs rBs fun s => ?_
  by_cases s8 : s.size ≤ 8
  ·have := h (2, 0, s) (by dsimp only; omega) (by dsimp only; omega);rw [has_str A s8, has_str B s8, e3] at this;rw [← inStrs_iff, ← inStrs_iff]
   revert this
   cases inStrsB A.strs s <;> cases inStrsB B.strs s <;> cases B.co <;> simp
  ·exact ⟨fun hs => absurd (rAs.1 s hs) s8, fun hs => absurd (rBs.1 s hs) s8⟩
 obtain ⟨a1, a2, a3, a4⟩ := A;obtain ⟨b1, b2, b3, b4⟩ := B;dsimp only at *;subst e1 e2 e3 e4
 rfl
end Go.Proofs.YtlmdcaemjaldfaaGreat
namespace Go.Proofs.YtlmdcaemjaldfaaGreat
def lastH (o : List Rg) : Option Int := o.getLast?.map (·.2)
theorem lastH_nil : lastH [] = none := rfl
theorem lastH_concat (o : List Rg) (q : Rg) : lastH (o ++ [q]) = some q.2 := by simp [lastH]
theorem rightFrom_concat : ∀ (o : List Rg) (b : Int) (r : Rg), rightFrom b o → r.1 ≤ r.2 → (o = [] → b < r.1) → (∀ h, lastH o = some h → h + 1 < r.1) → rightFrom b (o ++ [r])
 | [], b, r, _, h1, h2, _ => ⟨h2 rfl, h1, trivial⟩
 | q :: o, b, r, ⟨a1, a2, a3⟩, h1, h2, h3 => by
  refine ⟨a1, a2, rightFrom_concat o (q.2 + 1) r a3 h1 (fun e => ?_) (fun h e => h3 h ?_)⟩
  ·subst e; exact h3 q.2 rfl
  ·cases o with
   | nil => cases e
   | cons x o => simpa [lastH] using e
theorem rightR_concat (o : List Rg) (r : Rg) (ho : rightR o) (h1 : r.1 ≤ r.2) (h3 : ∀ h, lastH o = some h → h + 1 < r.1) : rightR (o ++ [r]) := by
 cases o with
 | nil => exact ⟨h1, trivial⟩
 | cons q o =>
  refine ⟨ho.1, rightFrom_concat o (q.2 + 1) r ho.2 h1 (fun e => ?_) (fun h e => h3 h ?_)⟩
  ·subst e; exact h3 q.2 rfl
  ·cases o with
   | nil => cases e
   | cons x o => simpa [lastH] using e
theorem memR_one (r : Rg) (n : Int) : memR [r] n ↔ r.1 ≤ n ∧ n ≤ r.2 := by rw [memR_cons]; simp [memR_nil]
end Go.Proofs.YtlmdcaemjaldfaaGreat
namespace Go.Proofs.YtlmdcaemjaldfaaGreat
open Go.RowKit
def rgCells (l : List Rg) : List Value := l.flatMap fun v => [.int .i64 v.1, .int .i64 v.2]
theorem rgCells_append (a b : List Rg) : rgCells (a ++ b) = rgCells a ++ rgCells b := by unfold rgCells; rw [List.flatMap_append]
theorem rgCells_len : ∀ l : List Rg, (rgCells l).length = l.length * 2
 | [] => rfl
 | v :: l => by
  have := rgCells_len l;unfold rgCells at *;rw [List.flatMap_cons, List.length_append, this]
  simp; omega
theorem rgCells_one (l : List Rg) : ∀ u ∈ rgCells l, u.oneCell' = true := by
 intro u hu;unfold rgCells at hu;obtain ⟨v, _, hv⟩ := List.mem_flatMap.1 hu
 simp at hv
 rcases hv with rfl | rfl <;> rfl
theorem infoRg : (Tryz.prog.info? 114).map (fun i => (i.zero, i.size, i.bytes)) = some (some (.agg #[.int .i64 0, .int .i64 0]), 2, 16) := by kernel_rfl
def OwnR (w : World) (B : Nat) (v : Value) (l : List Rg) : Prop := w.ownsRow B 114 2 v l.length (rgCells l)
theorem OwnR.alloc {w : World} {B : Nat} {v : Value} {l : List Rg} (h : OwnR w B v l) (o : Obj) : OwnR (w.alloc o) B v l := World.ownsRow.alloc h o
theorem OwnR.drewN {w : World} {B : Nat} {v : Value} {l : List Rg} (h : OwnR w B v l) (n : Nat) : OwnR (w.drewN n) B v l := h
theorem OwnR.grownB {w w' : World} {B : Nat} {v : Value} {l : List Rg} (h : OwnR w B v l) (hB : B ≤ w.heap.size) (hg : w.grownBy w' v.ownBlock) : Below B w w' :=
 (Below.refl _ _).grown hg hB (fun k hk => (World.ownsRow.lt h k hk).1)
theorem OwnR.on {w w' : World} {B : Nat} {v : Value} {l : List Rg} (h : OwnR w B v l) (hb : Below w.heap.size w w') : OwnR w' B v l :=
 World.ownsRow.kept (row := none) h ⟨hb.os, hb.tape, hb.output, hb.size, fun k hk _ => hb.block k hk⟩ (by cases v.ownBlock <;> simp)
theorem ownR_none (w : World) (B : Nat) : OwnR w B (.slice none 0 0) [] := ⟨rfl, Or.inl ⟨rfl, rfl⟩⟩
theorem wpList_appR {ops : Array Oper} {rest : List Oper} {o : Oper} {a : Act} {Q : Exit → Act → World → Prop} (w : World) (hgd : o.guard = none) (s x : Operand)
  (ho : o.op = .call { callee := .builtin .append, args := #[s, x], argTypes := #[22, 22] })
  (B : Nat) (v : Value) (l : List Rg) (hs : a.eval s = v) (hown : OwnR w B v l) (g m c : Nat) (cs : Array Value) (news : List Rg) (hm : news.length = m)
  (hx : a.eval x = .slice (some ⟨g, 0, none⟩) m c) (hb : w.heap[g]? = some (.cells cs 114 (0, 0))) (hcs : cs.toList = rgCells news) (hlen : l.length + m ≤ 1000000) (hB : B ≤ w.heap.size)
  (h : ∀ v' w', OwnR w' B v' (l ++ news) → Below B w w' → wpList Tryz.prog ops Q rest (a.put o.dst v') w') : wpList Tryz.prog ops Q (o :: rest) a w := by
 obtain ⟨i0, hi, hz0, hz1, hz2⟩ := info_parts infoRg;refine wpList_append_own w hgd s x 22 ho B 114 i0 _ 2 16 Tryz.underlying22 hi hz0 hz1 hz2 rfl (by decide) v l.length (rgCells l) hs hown ⟨g, 0, none⟩ m c (rgCells news) hx (by rw [rgCells_len, hm]) ?_ (rgCells_one _) (by unfold maxLen; omega) (by omega) hB ?_
 ·rw [← hcs]; exact World.news_of_block hb
 ·intro v' w' h1 h2 _;refine h v' w' ?_ (OwnR.grownB hown hB h2);unfold OwnR;rw [List.length_append, hm, rgCells_append];exact h1
theorem rgCells_at : ∀ (l : List Rg) (i : Nat), i < l.length → (rgCells l)[i * 2]? = some (.int .i64 (l.getD i (0, 0)).1) ∧ (rgCells l)[i * 2 + 1]? = some (.int .i64 (l.getD i (0, 0)).2)
 | [], i, h => by simp at h
 | v :: l, 0, _ => by simp [rgCells]
 | v :: l, i + 1, h => by
  have ih := rgCells_at l i (by simpa using h);have e : rgCells (v :: l) = [.int .i64 v.1, .int .i64 v.2] ++ rgCells l := rfl;rw [e];refine ⟨?_, ?_⟩
  ·rw [List.getElem?_append_right (by simp; omega)]
   simpa [show (i + 1) * 2 - 2 = i * 2 by omega] using ih.1
  ·rw [List.getElem?_append_right (by simp; omega)]
   simpa [show (i + 1) * 2 + 1 - 2 = i * 2 + 1 by omega] using ih.2
theorem OwnR.at {w : World} {B g n cap : Nat} {l : List Rg} (h : OwnR w B (.slice (some ⟨g, 0, none⟩) n cap) l) (i : Nat) (hi : i < l.length) : w.cell? ⟨g, i * 2, none⟩ = some (.int .i64 (l.getD i (0, 0)).1) ∧ w.cell? ⟨g, i * 2 + 1, none⟩ = some (.int .i64 (l.getD i (0, 0)).2) := by
 obtain ⟨hl, hr⟩ := h;rcases hr with ⟨h0, _⟩ | ⟨g', cap', cur, h1, h2, h3, h4, h5, h6, h7⟩
 ·cases h0
 ·injection h1 with e1 e2 e3
  injection e1 with e1
  injection e1 with e1
  subst e1;have hc : ∀ j, j < l.length * 2 → w.cell? ⟨g, j, none⟩ = (rgCells l)[j]? := fun j hj => by
   rw [cell_heap h3, ← h7, List.getElem?_take, if_pos hj]
   simp
  obtain ⟨a1, a2⟩ := rgCells_at l i hi;exact ⟨(hc _ (by omega)).trans a1, (hc _ (by omega)).trans a2⟩
end Go.Proofs.YtlmdcaemjaldfaaGreat
namespace Go.Proofs.YtlmdcaemjaldfaaGreat
open Go.RowKit
theorem below_field {B : Nat} {w w1 : World} (h : Below B w w1) (n : Nat) : Below B w (w1.drewN n) := ⟨h.os, h.tape, h.output, h.size, h.block⟩
end Go.Proofs.YtlmdcaemjaldfaaGreat
namespace Go.Proofs.YtlmdcaemjaldfaaGreat
def notR (from_ : Int) : List Rg → List Rg
 | [] => if from_ ≤ 9223372036854775807 then [(from_, 9223372036854775807)] else []
 | r :: l => if from_ < r.1 then (from_, r.1 - 1) :: notR (r.2 + 1) l else notR (r.2 + 1) l
theorem notR_mem : ∀ (l : List Rg) (f : Int), rightFrom (f - 1) l → inI64 l → ∀ n, memR (notR f l) n ↔ (f ≤ n ∧ n ≤ 9223372036854775807 ∧ ¬ memR l n)
 | [], f, _, _, n => by
  unfold notR
  split
  ·rw [memR_cons]; simp [memR_nil]
  ·simp [memR_nil]; omega
 | r :: l, f, ⟨h1, h2, h3⟩, hi, n => by
  have hr := hi r (by simp);have ih := notR_mem l (r.2 + 1) (rightFrom_mono h3 (by omega)) (fun x hx => hi x (by simp [hx])) n;have hgt := fun hm => rightFrom_lt h3 n hm
  unfold notR;rw [memR_cons]
  split
  ·rw [memR_cons, ih];dsimp only
   constructor
   ·rintro (h | ⟨a, b, c⟩)
    ·refine ⟨h.1, by omega, ?_⟩;rintro (h' | h')
     ·omega
     ·have := hgt h'; omega
    ·refine ⟨by omega, b, ?_⟩;rintro (h' | h')
     ·omega
     ·exact c h'
   ·rintro ⟨a, b, c⟩;by_cases hn : n < r.1
    ·left; omega
    ·right
     refine ⟨?_, b, fun h' => c (Or.inr h')⟩;by_cases hn2 : n ≤ r.2
     ·exact absurd (Or.inl ⟨by omega, hn2⟩) c
     ·omega
  ·rw [ih]
   constructor
   ·rintro ⟨a, b, c⟩;refine ⟨by omega, b, ?_⟩;rintro (h' | h')
    ·omega
    ·exact c h'
   ·rintro ⟨a, b, c⟩;refine ⟨?_, b, fun h' => c (Or.inr h')⟩;by_cases hn2 : n ≤ r.2
    ·exact absurd (Or.inl ⟨by omega, hn2⟩) c
    ·omega
theorem notR_right : ∀ (l : List Rg) (f : Int), rightFrom (f - 1) l → inI64 l → -9223372036854775808 ≤ f → (∀ b, b < f → rightFrom b (notR f l)) ∧ inI64 (notR f l) ∧ (notR f l).length ≤ l.length + 1
 | [], f, _, _, h => by
  unfold notR
  split
  ·refine ⟨fun b hb => ⟨hb, by dsimp only; omega, trivial⟩, fun x hx => ?_, by simp⟩
   simp at hx; rw [hx]; dsimp only; omega
  ·exact ⟨fun b hb => trivial, fun x hx => by simp at hx, by simp⟩
 | r :: l, f, ⟨h1, h2, h3⟩, hi, h => by
  have hr := hi r (by simp);obtain ⟨i1, i2, i3⟩ := notR_right l (r.2 + 1) (rightFrom_mono h3 (by omega)) (fun x hx => hi x (by simp [hx])) (by omega);unfold notR
  split
  ·refine ⟨fun b hb => ⟨hb, by dsimp only; omega, ?_⟩, fun x hx => ?_, by simp; omega⟩
   ·have := i1 r.1 (by omega);dsimp only;rw [show r.1 - 1 + 1 = r.1 by omega]; exact this
   ·rcases List.mem_cons.1 hx with rfl | hx
    ·dsimp only; omega
    ·exact i2 x hx
  ·exact ⟨fun b hb => i1 b (by omega), i2, by simp; omega⟩
def insR (r : Rg) : List Rg → List Rg
 | [] => [r]
 | q :: l => if r.2 + 1 < q.1 then r :: q :: l else if q.2 + 1 < r.1 then q :: insR r l else insR (min r.1 q.1, max r.2 q.2) l
theorem insR_mem : ∀ (l : List Rg) (r : Rg), r.1 ≤ r.2 → rightR l → ∀ n, memR (insR r l) n ↔ (r.1 ≤ n ∧ n ≤ r.2) ∨ memR l n
 | [], r, _, _, n => by unfold insR; rw [memR_cons]
 | q :: l, r, h, ⟨h1, h2⟩, n => by
  unfold insR
  split
  ·rw [memR_cons]
  ·split
   ·rw [memR_cons, insR_mem l r h (rightFrom_right h2) n, memR_cons]
    constructor
    ·rintro (a | a | a)
     ·exact Or.inr (Or.inl a)
     ·exact Or.inl a
     ·exact Or.inr (Or.inr a)
    ·rintro (a | a | a)
     ·exact Or.inr (Or.inl a)
     ·exact Or.inl a
     ·exact Or.inr (Or.inr a)
   ·rw [insR_mem l _ (by dsimp only; omega) (rightFrom_right h2) n, memR_cons];dsimp only
    constructor
    ·rintro (a | a)
     ·by_cases x : r.1 ≤ n ∧ n ≤ r.2
      ·exact Or.inl x
      ·right; left; omega
     ·exact Or.inr (Or.inr a)
    ·rintro (a | a | a)
     ·left; omega
     ·left; omega
     ·exact Or.inr a
theorem insR_right : ∀ (l : List Rg) (r : Rg) (b : Int), r.1 ≤ r.2 → b < r.1 → rightFrom b l → rightFrom b (insR r l)
 | [], r, b, h, hb, _ => ⟨hb, h, trivial⟩
 | q :: l, r, b, h, hb, ⟨h0, h1, h2⟩ => by
  unfold insR
  split
  ·exact ⟨hb, h, by omega, h1, h2⟩
  ·split
   ·exact ⟨h0, h1, insR_right l r (q.2 + 1) h (by omega) h2⟩
   ·exact insR_right l _ b (by dsimp only; omega) (by dsimp only; omega) (rightFrom_mono h2 (by omega))
theorem insR_i64 : ∀ (l : List Rg) (r : Rg), (-9223372036854775808 ≤ r.1 ∧ r.1 ≤ 9223372036854775807 ∧ -9223372036854775808 ≤ r.2 ∧ r.2 ≤ 9223372036854775807) → inI64 l → inI64 (insR r l)
 | [], r, h, _ => fun x hx => by unfold insR at hx; simp at hx; rw [hx]; exact h
 | q :: l, r, h, hl => by
  have hq := hl q (by simp);have hl' : inI64 l := fun x hx => hl x (by simp [hx])
  unfold insR
  split
  ·intro x hx;rcases List.mem_cons.1 hx with rfl | hx
   ·exact h
   ·exact hl x hx
  ·split
   ·intro x hx;rcases List.mem_cons.1 hx with rfl | hx
    ·exact hq
    ·exact insR_i64 l r h hl' x hx
   ·exact insR_i64 l _ (by dsimp only; omega) hl'
theorem insR_len : ∀ (l : List Rg) (r : Rg), (insR r l).length ≤ l.length + 1
 | [], r => by simp [insR]
 | q :: l, r => by
  unfold insR
  split
  ·simp
  ·split
   ·have := insR_len l r; simp; omega
   ·have := insR_len l (min r.1 q.1, max r.2 q.2); simp; omega
def orR : List Rg → List Rg → List Rg
 | [], b => b
 | r :: a, b => insR r (orR a b)
theorem rightR_lt {l : List Rg} (h : rightR l) : ∃ b, rightFrom b l := by
 cases l with
 | nil => exact ⟨0, trivial⟩
 | cons r l => exact ⟨r.1 - 1, rightR_from h⟩
theorem orR_all : ∀ (a b : List Rg), (∀ r ∈ a, r.1 ≤ r.2) → inI64 a → rightR b → inI64 b → rightR (orR a b) ∧ inI64 (orR a b) ∧ (orR a b).length ≤ a.length + b.length ∧ ∀ n, memR (orR a b) n ↔ memR a n ∨ memR b n
 | [], b, _, _, hb, ib => ⟨hb, ib, by simp [orR], fun n => by simp [orR, memR_nil]⟩
 | r :: a, b, ha, ia, hb, ib => by
  obtain ⟨h1, h2, h3, h4⟩ := orR_all a b (fun x hx => ha x (by simp [hx])) (fun x hx => ia x (by simp [hx])) hb ib;have hr := ha r (by simp);refine ⟨?_, insR_i64 _ r (ia r (by simp)) h2, ?_, fun n => ?_⟩
  ·obtain ⟨c, hc⟩ := rightR_lt h1;exact rightFrom_right (insR_right (orR a b) r (min c (r.1 - 1)) hr (by omega) (rightFrom_mono hc (by omega)))
  ·have := insR_len (orR a b) r;show (insR r (orR a b)).length ≤ _
   simp; omega
  ·show memR (insR r (orR a b)) n ↔ _;rw [insR_mem _ r hr h1 n, h4 n, memR_cons, or_assoc]
theorem rightR_le {l : List Rg} (h : rightR l) : ∀ r ∈ l, r.1 ≤ r.2 := by
 have aux : ∀ (l : List Rg) (b : Int), rightFrom b l → ∀ r ∈ l, r.1 ≤ r.2 := by
  intro l
  induction l with
  | nil => intro b _ r hr; simp at hr
  | cons q l ih =>
   intro b ⟨_, h1, h2⟩ r hr;rcases List.mem_cons.1 hr with rfl | hr
   ·exact h1
   ·exact ih _ h2 r hr
 obtain ⟨b, hb⟩ := rightR_lt h;exact aux l b hb
def insS (s : ByteArray) : List ByteArray → List ByteArray
 | [] => [s]
 | t :: l => if Op.bytesLess s.toList t.toList then s :: t :: l else if Op.bytesLess t.toList s.toList then t :: insS s l else t :: l
def orS : List ByteArray → List ByteArray → List ByteArray
 | [], b => b
 | s :: a, b => insS s (orS a b)
theorem insS_mem : ∀ (l : List ByteArray) (s x : ByteArray), x ∈ insS s l ↔ x = s ∨ x ∈ l
 | [], s, x => by simp [insS]
 | t :: l, s, x => by
  unfold insS
  split
  ·simp
  ·split
   ·rw [List.mem_cons, insS_mem l s x, List.mem_cons]
    constructor
    ·rintro (a | a | a) <;> simp [a]
    ·rintro (a | a | a) <;> simp [a]
   ·rename_i h1 h2
    have e : s = t := by
     rcases lessB_tri s.toList t.toList with h | h | h
     ·exact absurd h h1
     ·exact toList_inj h
     ·exact absurd h h2
    rw [List.mem_cons]
    constructor
    ·exact fun h => Or.inr h
    ·rintro (h | h)
     ·left; rw [h, e]
     ·exact h
theorem insS_rises : ∀ (l : List ByteArray) (s : ByteArray), risesS (l.map fun b => b.toList) → risesS ((insS s l).map fun b => b.toList)
 | [], s, _ => by simp [insS, risesS]
 | t :: l, s, ⟨h1, h2⟩ => by
  unfold insS
  split
  ·rename_i h
   refine ⟨fun b hb => ?_, h1, h2⟩;rcases List.mem_cons.1 hb with rfl | hb
   ·exact h
   ·exact lessB_trans _ _ _ h (h1 b hb)
  ·split
   ·rename_i h
    refine ⟨fun b hb => ?_, insS_rises l s h2⟩;obtain ⟨x, hx, rfl⟩ := List.mem_map.1 hb;rcases (insS_mem l s x).1 hx with rfl | hx
    ·exact h
    ·exact h1 _ (List.mem_map.2 ⟨x, hx, rfl⟩)
   ·exact ⟨h1, h2⟩
theorem insS_len : ∀ (l : List ByteArray) (s : ByteArray), (insS s l).length ≤ l.length + 1
 | [], s => by simp [insS]
 | t :: l, s => by
  unfold insS
  split
  ·simp
  ·split
   ·have := insS_len l s; simp; omega
   ·simp
theorem orS_all : ∀ (a b : List ByteArray), (∀ s ∈ a, s.size ≤ 8) → rightS b → rightS (orS a b) ∧ (orS a b).length ≤ a.length + b.length ∧ ∀ x, x ∈ orS a b ↔ x ∈ a ∨ x ∈ b
 | [], b, _, hb => ⟨hb, by simp [orS], fun x => by simp [orS]⟩
 | s :: a, b, ha, hb => by
  obtain ⟨h1, h2, h3⟩ := orS_all a b (fun x hx => ha x (by simp [hx])) hb;have hm : ∀ x, x ∈ orS (s :: a) b ↔ x ∈ s :: a ∨ x ∈ b := fun x => by
   show x ∈ insS s (orS a b) ↔ _;rw [insS_mem, h3, List.mem_cons, or_assoc]
  refine ⟨⟨fun x hx => ?_, insS_rises _ s h1.2⟩, ?_, hm⟩
  ·rcases (hm x).1 hx with hx | hx
   ·exact ha x hx
   ·exact hb.1 x hx
  ·have := insS_len (orS a b) s;show (insS s (orS a b)).length ≤ _
   simp; omega
theorem filter_rises : ∀ (l : List ByteArray) (p : ByteArray → Bool), risesS (l.map fun b => b.toList) → risesS ((l.filter p).map fun b => b.toList)
 | [], p, _ => by simp [risesS]
 | t :: l, p, ⟨h1, h2⟩ => by
  rw [List.filter_cons]
  split
  ·refine ⟨fun b hb => ?_, filter_rises l p h2⟩;obtain ⟨x, hx, rfl⟩ := List.mem_map.1 hb;exact h1 _ (List.mem_map.2 ⟨x, (List.mem_filter.1 hx).1, rfl⟩)
  ·exact filter_rises l p h2
theorem filter_right (l : List ByteArray) (p : ByteArray → Bool) (h : rightS l) : rightS (l.filter p) := ⟨fun s hs => h.1 s (List.mem_filter.1 hs).1, filter_rises l p h.2⟩
def allV : SetV := ⟨true, [(-9223372036854775808, 9223372036854775807)], true, []⟩
def notV (S : SetV) : SetV := ⟨!S.absent, notR (-9223372036854775808) S.ints, !S.co, S.strs⟩
def orStr (A B : SetV) : List ByteArray :=
 if A.co then (if B.co then A.strs.filter (fun s => inStrsB B.strs s) else A.strs.filter (fun s => !inStrsB B.strs s))
 else (if B.co then B.strs.filter (fun s => !inStrsB A.strs s) else orS A.strs B.strs)
def orV (A B : SetV) : SetV := ⟨A.absent || B.absent, orR A.ints B.ints, A.co || B.co, orStr A B⟩
def andV (A B : SetV) : SetV := notV (orV (notV A) (notV B))
structure Good (S : SetV) : Prop where
 r : rightSet S = true
 i : inI64 S.ints
theorem Good.ri {S : SetV} (h : Good S) : rightR S.ints := ((rightSet_iff S).1 h.r).1
theorem Good.rs {S : SetV} (h : Good S) : rightS S.strs := ((rightSet_iff S).1 h.r).2
theorem rightR_low {l : List Rg} (h : rightR l) (hi : inI64 l) : rightFrom (-9223372036854775808 - 1) l := by
 cases l with
 | nil => trivial
 | cons r l => exact ⟨by have := hi r (by simp); omega, h.1, h.2⟩
theorem notV_good {S : SetV} (h : Good S) : Good (notV S) := by
 obtain ⟨h1, h2, _⟩ := notR_right S.ints (-9223372036854775808) (rightR_low h.ri h.i) h.i (by omega);exact ⟨(rightSet_iff _).2 ⟨rightFrom_right (h1 (-9223372036854775809) (by omega)), h.rs⟩, h2⟩
theorem notV_len (S : SetV) (h : Good S) : (notV S).ints.length ≤ S.ints.length + 1 ∧ (notV S).strs.length = S.strs.length :=
 ⟨(notR_right S.ints (-9223372036854775808) (rightR_low h.ri h.i) h.i (by omega)).2.2, rfl⟩
theorem bool_of_iff {a b : Bool} (h : a = true ↔ b = true) : a = b := by
 cases a <;> cases b <;> simp at h ⊢
theorem notV_has {S : SetV} (h : Good S) (p : Va) (b0 : -9223372036854775808 ≤ p.2.1) (b1 : p.2.1 ≤ 9223372036854775807) : hasP (notV S) p = (rightB p.1 p.2.1 p.2.2 && !hasP S p) := by
 by_cases hp : rightV p
 ·have hp' : rightB p.1 p.2.1 p.2.2 = true := hp;rw [hp', Bool.true_and];rcases rightV_cases hp with rfl | ⟨n, rfl⟩ | ⟨s, hs, rfl⟩
  ·rw [has_abs, has_abs]; rfl
  ·rw [has_num, has_num];refine bool_of_iff ?_;rw [inInts_iff];show memR (notR _ S.ints) n ↔ _;rw [notR_mem S.ints _ (rightR_low h.ri h.i) h.i n, ← inInts_iff];dsimp only at b0 b1
   simp [b0, b1]
  ·rw [has_str _ hs, has_str _ hs];show (inStrsB S.strs s != !S.co) = !(inStrsB S.strs s != S.co);cases inStrsB S.strs s <;> cases S.co <;> rfl
 ·rw [has_wrong _ hp, has_wrong _ hp];have : rightB p.1 p.2.1 p.2.2 = false := by
   cases e : rightB p.1 p.2.1 p.2.2
   ·rfl
   ·exact absurd e hp
  rw [this]; rfl
theorem orV_good {A B : SetV} (hA : Good A) (hB : Good B) : Good (orV A B) := by
 obtain ⟨h1, h2, _, _⟩ := orR_all A.ints B.ints (rightR_le hA.ri) hA.i hB.ri hB.i;refine ⟨(rightSet_iff _).2 ⟨h1, ?_⟩, h2⟩;show rightS (orStr A B);unfold orStr
 split
 ·split
  ·exact filter_right _ _ hA.rs
  ·exact filter_right _ _ hA.rs
 ·split
  ·exact filter_right _ _ hB.rs
  ·exact (orS_all A.strs B.strs hA.rs.1 hB.rs).1
theorem orV_len {A B : SetV} (hA : Good A) (hB : Good B) : (orV A B).ints.length ≤ A.ints.length + B.ints.length ∧ (orV A B).strs.length ≤ A.strs.length + B.strs.length := by
 refine ⟨(orR_all A.ints B.ints (rightR_le hA.ri) hA.i hB.ri hB.i).2.2.1, ?_⟩;show (orStr A B).length ≤ _;unfold orStr
 split
 ·split
  ·exact Nat.le_trans (List.length_filter_le _ _) (by omega)
  ·exact Nat.le_trans (List.length_filter_le _ _) (by omega)
 ·split
  ·exact Nat.le_trans (List.length_filter_le _ _) (by omega)
  ·exact (orS_all A.strs B.strs hA.rs.1 hB.rs).2.1
theorem inStrs_filter (l : List ByteArray) (p : ByteArray → Bool) (s : ByteArray) : inStrsB (l.filter p) s = (inStrsB l s && p s) := by
 refine bool_of_iff ?_;rw [inStrs_iff, List.mem_filter, Bool.and_eq_true, inStrs_iff]
theorem orV_has {A B : SetV} (hA : Good A) (hB : Good B) (p : Va) : hasP (orV A B) p = (hasP A p || hasP B p) := by
 by_cases hp : rightV p
 ·rcases rightV_cases hp with rfl | ⟨n, rfl⟩ | ⟨s, hs, rfl⟩
  ·rw [has_abs, has_abs, has_abs]; rfl
  ·rw [has_num, has_num, has_num];refine bool_of_iff ?_;rw [inInts_iff, Bool.or_eq_true, inInts_iff, inInts_iff];exact (orR_all A.ints B.ints (rightR_le hA.ri) hA.i hB.ri hB.i).2.2.2 n
  ·rw [has_str _ hs, has_str _ hs, has_str _ hs];show (inStrsB (orStr A B) s != (A.co || B.co)) = _;have hor : inStrsB (orS A.strs B.strs) s = (inStrsB A.strs s || inStrsB B.strs s) := by
    refine bool_of_iff ?_;rw [inStrs_iff, Bool.or_eq_true, inStrs_iff, inStrs_iff];exact (orS_all A.strs B.strs hA.rs.1 hB.rs).2.2 s
   unfold orStr;cases hAc : A.co <;> cases hBc : B.co <;> simp only [if_true, if_false, Bool.false_eq_true, hor, inStrs_filter] <;> cases inStrsB A.strs s <;> cases inStrsB B.strs s <;> rfl
 ·rw [has_wrong _ hp, has_wrong _ hp, has_wrong _ hp]; rfl
theorem andV_good {A B : SetV} (hA : Good A) (hB : Good B) : Good (andV A B) := notV_good (orV_good (notV_good hA) (notV_good hB))
theorem andV_len {A B : SetV} (hA : Good A) (hB : Good B) : (andV A B).ints.length ≤ A.ints.length + B.ints.length + 3 ∧ (andV A B).strs.length ≤ A.strs.length + B.strs.length := by
 have h1 := notV_len A hA;have h2 := notV_len B hB;have h3 := orV_len (notV_good hA) (notV_good hB);have h4 := notV_len _ (orV_good (notV_good hA) (notV_good hB));unfold andV;omega
theorem andV_has {A B : SetV} (hA : Good A) (hB : Good B) (p : Va) (b0 : -9223372036854775808 ≤ p.2.1) (b1 : p.2.1 ≤ 9223372036854775807) : hasP (andV A B) p = (hasP A p && hasP B p) := by
 unfold andV;rw [notV_has (orV_good (notV_good hA) (notV_good hB)) p b0 b1, orV_has (notV_good hA) (notV_good hB), notV_has hA p b0 b1, notV_has hB p b0 b1];by_cases hp : rightV p
 ·have hp' : rightB p.1 p.2.1 p.2.2 = true := hp;rw [hp'];cases hasP A p <;> cases hasP B p <;> rfl
 ·rw [has_wrong A hp, has_wrong B hp];cases rightB p.1 p.2.1 p.2.2 <;> rfl
end Go.Proofs.YtlmdcaemjaldfaaGreat
namespace Go.Proofs.YtlmdcaemjaldfaaGreat
open Go.RowKit
def emptyB (S : SetV) : Bool := ((!S.absent && S.ints.isEmpty) && !S.co) && S.strs.isEmpty
def inB (A B : SetV) : Bool := sameB (andV A B) A
structure Fit (S : SetV) : Prop where
 good : Good S
 ni : S.ints.length ≤ 1000
 ns : S.strs.length ≤ 1000
structure SetProg : Prop where
 all : ∀ w : World, Calls Tryz.prog 138 #[] w fun r w' => (∃ u, r = .returned u ∧ SetAt w' u allV) ∧ Below w.heap.size w w'
 not : ∀ (v : Value) (S : SetV) (w : World), SetAt w v S → Fit S → Calls Tryz.prog 137 #[v] w fun r w' => (∃ u, r = .returned u ∧ SetAt w' u (notV S)) ∧ Below w.heap.size w w'
 and : ∀ (v u : Value) (A B : SetV) (w : World), SetAt w v A → SetAt w u B → Fit A → Fit B → Calls Tryz.prog 160 #[v, u] w fun r w' => (∃ x, r = .returned x ∧ SetAt w' x (andV A B)) ∧ Below w.heap.size w w'
 in_ : ∀ (v u : Value) (A B : SetV) (w : World), SetAt w v A → SetAt w u B → Fit A → Fit B → Calls Tryz.prog 170 #[v, u] w fun r w' => r = .returned (.bool (inB A B)) ∧ Below w.heap.size w w'
 empty : ∀ (v : Value) (S : SetV) (w : World), SetAt w v S → Fit S → Calls Tryz.prog 153 #[v] w fun r w' => r = .returned (.bool (emptyB S)) ∧ Below w.heap.size w w'
 same : ∀ (v u : Value) (A B : SetV) (w : World), SetAt w v A → SetAt w u B → Fit A → Fit B → Calls Tryz.prog 152 #[v, u] w fun r w' => r = .returned (.bool (sameB A B)) ∧ Below w.heap.size w w'
 has : ∀ (v : Value) (S : SetV) (k n : Int) (s : ByteArray) (w : World), SetAt w v S → Fit S → -9223372036854775808 ≤ n → n ≤ 9223372036854775807 → s.size ≤ maxLen → Calls Tryz.prog 105 #[v, .agg #[.int .i64 k, .int .i64 n, .string s]] w fun r w' => r = .returned (.bool (hasB S k n s)) ∧ Below w.heap.size w w'
theorem strs_none (w : World) : StrsAt w (.slice none 0 0) [] := ⟨fun _ h => by simp at h, by simp, none, 0, rfl, fun i hi => by simp at hi⟩
theorem OwnR.rngs {w : World} {B : Nat} {v : Value} {l : List Rg} (h : OwnR w B v l) (hi : inI64 l) (hl : l.length ≤ 9223372036854775807) : RngsAt w v l := by
 refine ⟨hi, hl, ?_⟩;rcases h.2 with ⟨e, h0⟩ | ⟨g, cap, cur, e, _, hg, hc, _⟩
 ·exact ⟨none, 0, by rw [e, h0]; rfl, fun i hi' => by omega⟩
 ·obtain ⟨sp, hsp⟩ := capOf_of (a := some ⟨g, 0, none⟩) hc (fun e => by cases e);subst e;refine ⟨_, sp, by rw [← hsp], fun i hi' => ⟨g, 0, rfl, lt_heap hg, ?_, ?_⟩⟩
  ·rw [Nat.zero_add]; exact (h.at i hi').1
  ·rw [Nat.zero_add]; exact (h.at i hi').2
theorem noSet_good : Good noSet := ⟨rfl, fun _ h => by simp [noSet] at h⟩
end Go.Proofs.YtlmdcaemjaldfaaGreat
namespace Go.Proofs.YtlmdcaemjaldfaaGreat
theorem good_ext {A B : SetV} (hA : Good A) (hB : Good B) (hn : A.strs.length + B.strs.length < 100000)
  (h : ∀ p : Va, -9223372036854775808 ≤ p.2.1 → p.2.1 ≤ 9223372036854775807 → hasP A p = hasP B p) : A = B := set_ext A B hA.r hB.r hA.i hB.i hn h
theorem has_right {S : SetV} {p : Va} (h : hasP S p = true) : rightB p.1 p.2.1 p.2.2 = true := by
 cases e : rightB p.1 p.2.1 p.2.2
 ·have : ¬ rightV p := fun hp => by
   have hp' : rightB p.1 p.2.1 p.2.2 = true := hp;rw [e] at hp'; simp at hp'
  rw [has_wrong S this] at h; simp at h
 ·rfl
theorem inB_iff {A B : SetV} (hA : Good A) (hB : Good B) (hn : A.strs.length + A.strs.length + B.strs.length < 100000) : inB A B = true ↔ inSet A B := by
 unfold inB;rw [sameB_iff]
 constructor
 ·intro h p b0 b1 ha;have e := andV_has hA hB p b0 b1;rw [h, ha] at e
  simpa using e.symm
 ·intro h;have l := (andV_len hA hB).2;refine good_ext (andV_good hA hB) hA (by omega) fun p b0 b1 => ?_
  rw [andV_has hA hB p b0 b1];cases e : hasP A p
  ·rfl
  ·rw [h p b0 b1 e]; rfl
end Go.Proofs.YtlmdcaemjaldfaaGreat
namespace Go.Proofs.YtlmdcaemjaldfaaGreat
open Go.RowKit
structure Two (w0 w : World) (o1 o2 : Obj) : Prop where
 e1 : w.heap[w0.heap.size]? = some o1
 e2 : w.heap[w0.heap.size + 1]? = some o2
 b : Below w0.heap.size w0 w
theorem Two.on {w0 w w' : World} {o1 o2 : Obj} (h : Two w0 w o1 o2) (hb : Below w.heap.size w w') : Two w0 w' o1 o2 :=
 ⟨(hb.block _ (lt_heap h.e1)).trans h.e1, (hb.block _ (lt_heap h.e2)).trans h.e2, h.b.trans (hb.mono h.b.size)⟩
theorem Two.start (w : World) (o1 o2 : Obj) : Two w ((w.alloc o1).alloc o2) o1 o2 := ⟨(two_bx w o1 o2).1, (two_bx w o1 o2).2.1, (two_bx w o1 o2).2.2⟩
theorem Two.al {w0 w : World} {o1 o2 : Obj} (h : Two w0 w o1 o2) (x : Obj) : Two w0 (w.alloc x) o1 o2 := h.on ((Below.refl _ w).alloc (Nat.le_refl _) x)
theorem setCells {w : World} {b : Nat} {x0 x1 x2 x3 : Value} {t : TypeId} (h : w.heap[b]? = some (.cells #[x0, x1, x2, x3] t (0, 0))) : w.cell? ⟨b, 0, none⟩ = some x0 ∧ w.cell? ⟨b, 1, none⟩ = some x1 ∧ w.cell? ⟨b, 2, none⟩ = some x2 ∧ w.cell? ⟨b, 3, none⟩ = some x3 :=
 ⟨cell_heap h 0, cell_heap h 1, cell_heap h 2, cell_heap h 3⟩
end Go.Proofs.YtlmdcaemjaldfaaGreat
namespace Go.Proofs.YtlmdcaemjaldfaaGreat
structure BoxV where
 s0 : SetV
 s1 : SetV
 s2 : SetV
 s3 : SetV
structure EvV where
 v0 : Va
 v1 : Va
 v2 : Va
 v3 : Va
def BoxV.get (b : BoxV) : Nat → SetV
 | 0 => b.s0
 | 1 => b.s1
 | 2 => b.s2
 | _ => b.s3
def EvV.get (e : EvV) : Nat → Va
 | 0 => e.v0
 | 1 => e.v1
 | 2 => e.v2
 | _ => e.v3
def BoxV.put (b : BoxV) (i : Nat) (s : SetV) : BoxV := match i with
 | 0 => { b with s0 := s }
 | 1 => { b with s1 := s }
 | 2 => { b with s2 := s }
 | 3 => { b with s3 := s }
 | _ => b
def EvV.put (e : EvV) (i : Nat) (p : Va) : EvV := match i with
 | 0 => { e with v0 := p }
 | 1 => { e with v1 := p }
 | 2 => { e with v2 := p }
 | 3 => { e with v3 := p }
 | _ => e
theorem BoxV.get_put (b : BoxV) (i j : Nat) (s : SetV) (hi : i < 4) (hj : j < 4) : (b.put i s).get j = if j = i then s else b.get j := by
 match i, hi, j, hj with
 | 0, _, 0, _ => rfl
 | 0, _, 1, _ => rfl
 | 0, _, 2, _ => rfl
 | 0, _, 3, _ => rfl
 | 1, _, 0, _ => rfl
 | 1, _, 1, _ => rfl
 | 1, _, 2, _ => rfl
 | 1, _, 3, _ => rfl
 | 2, _, 0, _ => rfl
 | 2, _, 1, _ => rfl
 | 2, _, 2, _ => rfl
 | 2, _, 3, _ => rfl
 | 3, _, 0, _ => rfl
 | 3, _, 1, _ => rfl
 | 3, _, 2, _ => rfl
 | 3, _, 3, _ => rfl
theorem EvV.get_put (e : EvV) (i j : Nat) (p : Va) (hi : i < 4) (hj : j < 4) : (e.put i p).get j = if j = i then p else e.get j := by
 match i, hi, j, hj with
 | 0, _, 0, _ => rfl
 | 0, _, 1, _ => rfl
 | 0, _, 2, _ => rfl
 | 0, _, 3, _ => rfl
 | 1, _, 0, _ => rfl
 | 1, _, 1, _ => rfl
 | 1, _, 2, _ => rfl
 | 1, _, 3, _ => rfl
 | 2, _, 0, _ => rfl
 | 2, _, 1, _ => rfl
 | 2, _, 2, _ => rfl
 | 2, _, 3, _ => rfl
 | 3, _, 0, _ => rfl
 | 3, _, 1, _ => rfl
 | 3, _, 2, _ => rfl
 | 3, _, 3, _ => rfl
def all4 (f : Nat → Bool) : Bool := ((f 0 && f 1) && f 2) && f 3
theorem all4_iff (f : Nat → Bool) : all4 f = true ↔ ∀ i, i < 4 → f i = true := by
 unfold all4;rw [Bool.and_eq_true, Bool.and_eq_true, Bool.and_eq_true]
 constructor
 ·rintro ⟨⟨⟨h0, h1⟩, h2⟩, h3⟩ i hi
  match i, hi with
  | 0, _ => exact h0
  | 1, _ => exact h1
  | 2, _ => exact h2
  | 3, _ => exact h3
 ·intro h;exact ⟨⟨⟨h 0 (by omega), h 1 (by omega)⟩, h 2 (by omega)⟩, h 3 (by omega)⟩
structure GoodB (b : BoxV) : Prop where
 g : ∀ i, i < 4 → Good (b.get i)
 l : ∀ i, i < 4 → (b.get i).strs.length ≤ 1000
def inE (e : EvV) : Prop := ∀ i, i < 4 → -9223372036854775808 ≤ (e.get i).2.1 ∧ (e.get i).2.1 ≤ 9223372036854775807
def hasE (b : BoxV) (e : EvV) : Bool := all4 fun i => hasP (b.get i) (e.get i)
def rightE (e : EvV) : Bool := all4 fun i => rightB (e.get i).1 (e.get i).2.1 (e.get i).2.2
def emptyBx (b : BoxV) : Bool := !all4 fun i => !emptyB (b.get i)
def inBx (a b : BoxV) : Bool := emptyBx a || all4 fun i => inB (a.get i) (b.get i)
def sameBx (a b : BoxV) : Bool := all4 fun i => sameB (a.get i) (b.get i)
theorem hasE_iff (b : BoxV) (e : EvV) : hasE b e = true ↔ ∀ i, i < 4 → hasP (b.get i) (e.get i) = true := all4_iff _
theorem emptyBx_iff (b : BoxV) : emptyBx b = false ↔ ∀ i, i < 4 → emptyB (b.get i) = false := by
 unfold emptyBx;rw [Bool.not_eq_false', all4_iff]
 constructor
 ·intro h i hi; simpa using h i hi
 ·intro h i hi; simpa using h i hi
theorem noSet_has (p : Va) : hasP noSet p = false := by
 cases hn : hasP noSet p
 ·rfl
 ·exfalso
  rcases rightV_cases (has_right hn) with e | ⟨n, e⟩ | ⟨s, hs, e⟩
  ·rw [e, has_abs] at hn; exact absurd hn (by simp [noSet])
  ·rw [e, has_num] at hn; exact absurd hn (by simp [noSet, inIntsB])
  ·rw [e, has_str _ hs] at hn; exact absurd hn (by simp [noSet, inStrsB])
theorem empty_iff (S : SetV) : emptyB S = true ↔ S = noSet := by
 rw [← sameB_iff];obtain ⟨xa, xi, xc, xs⟩ := S;cases xa <;> cases xi <;> cases xc <;> cases xs <;> simp [emptyB, sameB, noSet, rngEqB, strEqB]
theorem some_has {S : SetV} (h : Good S) (l : S.strs.length ≤ 1000) (hne : emptyB S = false) : ∃ p : Va, -9223372036854775808 ≤ p.2.1 ∧ p.2.1 ≤ 9223372036854775807 ∧ hasP S p = true := by
 refine Classical.byContradiction fun hno => ?_
 have : S = noSet := good_ext h noSet_good (by simp [noSet]; omega) (fun p b0 b1 => by
  rw [noSet_has];cases hp : hasP S p
  ·rfl
  ·exact absurd ⟨p, b0, b1, hp⟩ hno)
 rw [(empty_iff S).2 this] at hne;cases hne
theorem inB_has {A B : SetV} (hA : Good A) (hB : Good B) (lA : A.strs.length ≤ 1000) (lB : B.strs.length ≤ 1000) : inB A B = true ↔ ∀ p : Va, -9223372036854775808 ≤ p.2.1 → p.2.1 ≤ 9223372036854775807 → hasP A p = true → hasP B p = true :=
 inB_iff hA hB (by omega)
theorem inBx_iff {a b : BoxV} (ha : GoodB a) (hb : GoodB b) : inBx a b = true ↔ ∀ e, inE e → hasE a e = true → hasE b e = true := by
 unfold inBx;cases he : emptyBx a
 ·rw [Bool.false_or, all4_iff];have hne := (emptyBx_iff a).1 he
  constructor
  ·intro h e hr hh;rw [hasE_iff] at hh ⊢;exact fun i hi => (inB_has (ha.g i hi) (hb.g i hi) (ha.l i hi) (hb.l i hi)).1 (h i hi) _ (hr i hi).1 (hr i hi).2 (hh i hi)
  ·intro h i hi;refine (inB_has (ha.g i hi) (hb.g i hi) (ha.l i hi) (hb.l i hi)).2 fun p p0 p1 hp => ?_
   obtain ⟨q0, x0, y0, z0⟩ := some_has (ha.g 0 (by omega)) (ha.l 0 (by omega)) (hne 0 (by omega));obtain ⟨q1, x1, y1, z1⟩ := some_has (ha.g 1 (by omega)) (ha.l 1 (by omega)) (hne 1 (by omega));obtain ⟨q2, x2, y2, z2⟩ := some_has (ha.g 2 (by omega)) (ha.l 2 (by omega)) (hne 2 (by omega));obtain ⟨q3, x3, y3, z3⟩ := some_has (ha.g 3 (by omega)) (ha.l 3 (by omega)) (hne 3 (by omega));have hq : ∀ j, j < 4 → (-9223372036854775808 ≤ ((⟨q0, q1, q2, q3⟩ : EvV).get j).2.1 ∧ ((⟨q0, q1, q2, q3⟩ : EvV).get j).2.1 ≤ 9223372036854775807) ∧ hasP (a.get j) ((⟨q0, q1, q2, q3⟩ : EvV).get j) = true := fun j hj => by
    match j, hj with
    | 0, _ => exact ⟨⟨x0, y0⟩, z0⟩
    | 1, _ => exact ⟨⟨x1, y1⟩, z1⟩
    | 2, _ => exact ⟨⟨x2, y2⟩, z2⟩
    | 3, _ => exact ⟨⟨x3, y3⟩, z3⟩
   generalize (⟨q0, q1, q2, q3⟩ : EvV) = e at hq;have h1 := h (e.put i p) (fun j hj => by
    rw [EvV.get_put e i j p hi hj]
    split
    ·exact ⟨p0, p1⟩
    ·exact (hq j hj).1) ((hasE_iff _ _).2 fun j hj => by
    rw [EvV.get_put e i j p hi hj]
    split
    ·rename_i e'; subst e'; exact hp
    ·exact (hq j hj).2)
   have h2 := (hasE_iff _ _).1 h1 i hi;rw [EvV.get_put e i i p hi hi, if_pos rfl] at h2;exact h2
 ·rw [Bool.true_or];refine ⟨fun _ e hr hh => ?_, fun _ => rfl⟩
  exfalso
  have : ¬ emptyBx a = false := by rw [he]; simp
  refine this ((emptyBx_iff a).2 fun i hi => ?_);cases hx : emptyB (a.get i)
  ·rfl
  ·have h1 := (hasE_iff _ _).1 hh i hi;rw [(empty_iff _).1 hx, noSet_has] at h1;cases h1
theorem inBx_refl {a : BoxV} (ha : GoodB a) : inBx a a = true := (inBx_iff ha ha).2 fun _ _ h => h
theorem inBx_trans {a b c : BoxV} (ha : GoodB a) (hb : GoodB b) (hc : GoodB c) (h1 : inBx a b = true) (h2 : inBx b c = true) : inBx a c = true :=
 (inBx_iff ha hc).2 fun e he h => (inBx_iff hb hc).1 h2 e he ((inBx_iff ha hb).1 h1 e he h)
theorem sameBx_refl (a : BoxV) : sameBx a a = true := (all4_iff _).2 fun i _ => (sameB_iff _ _).2 rfl
end Go.Proofs.YtlmdcaemjaldfaaGreat
namespace Go.Proofs.YtlmdcaemjaldfaaGreat
open Go.RowKit
attribute [local go_sem ↓] Go.wp_at_zero Go.wp_at_succ
set_option maxHeartbeats 400000 in
theorem refRight_any (k n : Int) (s : ByteArray) (w : World) (_hs : s.size ≤ maxLen) :
  Calls Tryz.prog 71 #[.agg #[.int .i64 k, .int .i64 n, .string s]] w fun e w' => e = .returned (.bool (rightB k n s)) ∧ Below w.heap.size w w' := by
 unfold maxLen at _hs;by_cases k0 : k = 0
 ·subst k0;by_cases hn : n = 0
  ·subst hn;go_enter Tryz.func71, Tryz.ntmps71
   go_wp2
   go_ret
   exact ⟨ret_bool (by simp [rightB]), (Below.refl _ _).alloc (Nat.le_refl _) _⟩
  ·have hn' : (n == 0) = false := by simp [hn]
   go_enter Tryz.func71, Tryz.ntmps71
   go_wp2
   go_ret
   exact ⟨ret_bool (by simp [rightB, hn]), (Below.refl _ _).alloc (Nat.le_refl _) _⟩
 have k0' : (k == 0) = false := by simp [k0]
 by_cases k1 : k = 1
 ·subst k1;go_enter Tryz.func71, Tryz.ntmps71
  go_wp2
  go_ret
  exact ⟨ret_bool (by simp [rightB]), (Below.refl _ _).alloc (Nat.le_refl _) _⟩
 have k1' : (k == 1) = false := by simp [k1]
 by_cases k2 : k = 2
 ·subst k2;by_cases hn : n = 0
  ·subst hn;go_enter Tryz.func71, Tryz.ntmps71
   go_wp2
   go_ret
   exact ⟨ret_bool (by simp [rightB]), (Below.refl _ _).alloc (Nat.le_refl _) _⟩
  ·have hn' : (n == 0) = false := by simp [hn]
   go_enter Tryz.func71, Tryz.ntmps71
   go_wp2
   go_ret
   exact ⟨ret_bool (by simp [rightB, hn]), (Below.refl _ _).alloc (Nat.le_refl _) _⟩
 have k2' : (k == 2) = false := by simp [k2]
 go_enter Tryz.func71, Tryz.ntmps71
 go_wp2
 go_ret
 exact ⟨ret_bool (by simp [rightB, k0, k1, k2]), (Below.refl _ _).alloc (Nat.le_refl _) _⟩
end Go.Proofs.YtlmdcaemjaldfaaGreat
namespace Go.Proofs.YtlmdcaemjaldfaaGreat
open Go.RowKit
def evVal (e : EvV) : Value := .agg #[.int .i64 e.v0.1, .int .i64 e.v0.2.1, .string e.v0.2.2, .int .i64 e.v1.1, .int .i64 e.v1.2.1, .string e.v1.2.2, .int .i64 e.v2.1, .int .i64 e.v2.2.1, .string e.v2.2.2, .int .i64 e.v3.1, .int .i64 e.v3.2.1, .string e.v3.2.2]
def evFit (e : EvV) : Prop := e.v0.2.2.size ≤ maxLen ∧ e.v1.2.2.size ≤ maxLen ∧ e.v2.2.2.size ≤ maxLen ∧ e.v3.2.2.size ≤ maxLen
theorem evCells {w : World} {g : Nat} {t : TypeId} {x0 x1 x2 x3 x4 x5 x6 x7 x8 x9 x10 x11 : Value} (h : w.heap[g]? = some (.cells #[x0, x1, x2, x3, x4, x5, x6, x7, x8, x9, x10, x11] t (0, 0))) : w.cell? ⟨g, 0, none⟩ = some x0 ∧ w.cell? ⟨g, 1, none⟩ = some x1 ∧ w.cell? ⟨g, 2, none⟩ = some x2 ∧ w.cell? ⟨g, 3, none⟩ = some x3 ∧ w.cell? ⟨g, 4, none⟩ = some x4 ∧ w.cell? ⟨g, 5, none⟩ = some x5 ∧ w.cell? ⟨g, 6, none⟩ = some x6 ∧ w.cell? ⟨g, 7, none⟩ = some x7 ∧ w.cell? ⟨g, 8, none⟩ = some x8 ∧ w.cell? ⟨g, 9, none⟩ = some x9 ∧ w.cell? ⟨g, 10, none⟩ = some x10 ∧ w.cell? ⟨g, 11, none⟩ = some x11 :=
 ⟨cell_heap h 0, cell_heap h 1, cell_heap h 2, cell_heap h 3, cell_heap h 4, cell_heap h 5, cell_heap h 6, cell_heap h 7, cell_heap h 8, cell_heap h 9, cell_heap h 10, cell_heap h 11⟩
def EvIn (w : World) (g : Nat) (e : EvV) : Prop := w.heap[g]? = some (.cells #[.int .i64 e.v0.1, .int .i64 e.v0.2.1, .string e.v0.2.2, .int .i64 e.v1.1, .int .i64 e.v1.2.1, .string e.v1.2.2, .int .i64 e.v2.1, .int .i64 e.v2.2.1, .string e.v2.2.2, .int .i64 e.v3.1, .int .i64 e.v3.2.1, .string e.v3.2.2] 44 (0, 0))
end Go.Proofs.YtlmdcaemjaldfaaGreat
namespace Go.Proofs.YtlmdcaemjaldfaaGreat
open Go.RowKit
set_option maxHeartbeats 400000 in
theorem valRight_any (k n : Int) (s : ByteArray) (w : World) (_hs : s.size ≤ maxLen) :
  Calls Tryz.prog 119 #[.agg #[.int .i64 k, .int .i64 n, .string s]] w fun e w' => e = .returned (.bool (rightB k n s)) ∧ Below w.heap.size w w' := by
 unfold maxLen at _hs;by_cases k0 : k = 0
 ·subst k0;by_cases hn : n = 0
  ·subst hn;go_enter Tryz.func119, Tryz.ntmps119
   go_wp2
   go_ret
   exact ⟨ret_bool (by simp [rightB]), (Below.refl _ _).alloc (Nat.le_refl _) _⟩
  ·have hn' : (n == 0) = false := by simp [hn]
   go_enter Tryz.func119, Tryz.ntmps119
   go_wp2
   go_ret
   exact ⟨ret_bool (by simp [rightB, hn]), (Below.refl _ _).alloc (Nat.le_refl _) _⟩
 have k0' : (k == 0) = false := by simp [k0]
 by_cases k1 : k = 1
 ·subst k1;go_enter Tryz.func119, Tryz.ntmps119
  go_wp2
  go_ret
  exact ⟨ret_bool (by simp [rightB]), (Below.refl _ _).alloc (Nat.le_refl _) _⟩
 have k1' : (k == 1) = false := by simp [k1]
 by_cases k2 : k = 2
 ·subst k2;by_cases hn : n = 0
  ·subst hn;go_enter Tryz.func119, Tryz.ntmps119
   go_wp2
   go_ret
   exact ⟨ret_bool (by simp [rightB]), (Below.refl _ _).alloc (Nat.le_refl _) _⟩
  ·have hn' : (n == 0) = false := by simp [hn]
   go_enter Tryz.func119, Tryz.ntmps119
   go_wp2
   go_ret
   exact ⟨ret_bool (by simp [rightB, hn]), (Below.refl _ _).alloc (Nat.le_refl _) _⟩
 have k2' : (k == 2) = false := by simp [k2]
 go_enter Tryz.func119, Tryz.ntmps119
 go_wp2
 go_ret
 exact ⟨ret_bool (by simp [rightB, k0, k1, k2]), (Below.refl _ _).alloc (Nat.le_refl _) _⟩
theorem infoSet : (Tryz.prog.info? 25).map (·.size) = some 4 := by kernel_rfl
theorem rngs_at {w : World} {g : Nat} {cs : Array Value} (h : w.heap[g]? = some (.cells cs 114)) (l : List Rg) (hc : cs.toList = rgCells l) (hi : inI64 l) (hl : l.length ≤ 1000) (k c : Nat) (hk : k = l.length) (hkc : k ≤ c := by omega) : RngsAt w (.slice (some ⟨g, 0, none⟩) k c) l := by
 subst hk;obtain ⟨sp, rfl⟩ := capOf_of (a := some ⟨g, 0, none⟩) hkc (fun e => by cases e);refine ⟨hi, by omega, _, sp, rfl, fun i hi' => ⟨_, 0, rfl, lt_heap h, ?_, ?_⟩⟩
 ·rw [cell_heap h, ← (rgCells_at l i hi').1, ← hc]; simp
 ·rw [cell_heap h, ← (rgCells_at l i hi').2, ← hc]; simp
set_option maxHeartbeats 1000000 in
set_option maxRecDepth 100000 in
theorem all_any (w : World) : Calls Tryz.prog 138 #[] w fun r w' => (∃ u, r = .returned u ∧ SetAt w' u allV) ∧ Below w.heap.size w w' := by
 go_enter Tryz.func138, Tryz.ntmps138
 go_wp2
 obtain ⟨e1, e2, b⟩ := two_boxes w (Obj.cells #[Value.bool true, Value.slice (some { block := w.heap.size + 1, off := 0 }) 1 1, Value.bool true, Value.slice none 0 0] 25) (Obj.cells #[Value.int IntKind.i64 (-9223372036854775808), Value.int IntKind.i64 9223372036854775807] 114);refine bodyPost_ret (results_cell_row rfl _ _ w.heap.size 25 _ (0, 0) _ rfl e1 Tryz.underlying25 rfl infoSet) rfl ⟨⟨_, rfl, _, _, rfl, ?_, strs_none _⟩, b⟩;exact rngs_at e2 [(-9223372036854775808, 9223372036854775807)] rfl (fun r hr => by simp at hr; rw [hr]; dsimp only; omega) (by simp) 1 1 rfl
set_option maxHeartbeats 1000000 in
set_option maxRecDepth 100000 in
theorem empty_any (v : Value) (S : SetV) (w : World) (hv : SetAt w v S) : Calls Tryz.prog 153 #[v] w fun r w' => r = .returned (.bool (emptyB S)) ∧ Below w.heap.size w w' := by
 obtain ⟨vi, vs, rfl, hI, hS⟩ := hv;obtain ⟨ai, ci, rfl⟩ := hI.form;obtain ⟨aq, cq, rfl⟩ := hS.form;obtain ⟨sa, si, sc, ss⟩ := S;dsimp only at *;have HB : Hid (emptyB ⟨sa, si, sc, ss⟩ = (((!sa && decide (si.length = 0)) && !sc) && decide (ss.length = 0))) := hide (by
  unfold emptyB;dsimp only;cases si <;> cases ss <;> simp)
 have l1 := hI.2.1;have l2 := hS.2.1;clear hI hS;generalize si.length = nI at *;generalize ss.length = nS at *;cases sa
 ·by_cases h1 : nI = 0
  ·subst h1;cases sc
   ·by_cases h2 : nS = 0
    ·subst h2;go_enter Tryz.func153, Tryz.ntmps153
     go_wp2
     go_ret
     exact ⟨ret_bool (by rw [HB.out]; rfl), (Below.refl _ _).alloc (Nat.le_refl _) _⟩
    ·have h2' : ((nS : Int) == 0) = false := by simp; omega
     go_enter Tryz.func153, Tryz.ntmps153
     go_wp2
     go_ret
     exact ⟨ret_bool (by rw [HB.out]; simp [h2]), (Below.refl _ _).alloc (Nat.le_refl _) _⟩
   ·go_enter Tryz.func153, Tryz.ntmps153
    go_wp2
    go_ret
    exact ⟨ret_bool (by rw [HB.out]; rfl), (Below.refl _ _).alloc (Nat.le_refl _) _⟩
  ·have h1' : ((nI : Int) == 0) = false := by simp; omega
   go_enter Tryz.func153, Tryz.ntmps153
   go_wp2
   go_ret
   exact ⟨ret_bool (by rw [HB.out]; simp [h1]), (Below.refl _ _).alloc (Nat.le_refl _) _⟩
 ·go_enter Tryz.func153, Tryz.ntmps153
  go_wp2
  go_ret
  exact ⟨ret_bool (by rw [HB.out]; rfl), (Below.refl _ _).alloc (Nat.le_refl _) _⟩
set_option maxHeartbeats 1000000 in
set_option maxRecDepth 100000 in
theorem apart_any (a b : Rg) (w : World) (h0 : -9223372036854775808 ≤ b.1) (h1 : b.1 ≤ 9223372036854775807) (h2 : -9223372036854775808 ≤ a.2) :
  Calls Tryz.prog 167 #[.agg #[.int .i64 a.1, .int .i64 a.2], .agg #[.int .i64 b.1, .int .i64 b.2]] w fun r w' => r = .returned (.bool (decide (a.2 + 1 < b.1))) ∧ Below w.heap.size w w' := by
 have ba := fun (o1 o2 : Obj) => hide (two_boxes w o1 o2)
 by_cases h : a.2 < b.1
 ·have hw : IntKind.i64.wrap (b.1 - 1) = b.1 - 1 := by rw [IntKind.wrap_i64]; omega
  go_enter Tryz.func167, Tryz.ntmps167
  go_wp2
  go_ret
  exact ⟨ret_bool (by rw [decide_eq_decide]; omega), (ba _ _).out.2.2⟩
 ·go_enter Tryz.func167, Tryz.ntmps167
  go_wp2
  go_ret
  exact ⟨ret_bool (by symm; rw [decide_eq_false_iff_not]; omega), (ba _ _).out.2.2⟩
set_option maxHeartbeats 1000000 in
set_option maxRecDepth 100000 in
theorem hasNumber_any (v : Value) (l : List Rg) (n : Int) (w : World) (hv : RngsAt w v l) :
  Calls Tryz.prog 142 #[v, .int .i64 n] w fun r w' => r = .returned (.bool (inIntsB l n)) ∧ Below w.heap.size w w' := by
 have HV := hide hv;obtain ⟨_, hlen, a, cap, rfl, hel⟩ := hv;clear hel;generalize hB : inIntsB l n = B;have HB : Hid ((l.drop 0).any (fun r => decide (r.1 ≤ n) && decide (n ≤ r.2)) = B) := hide (by rw [List.drop_zero]; exact hB);clear hB;obtain ⟨N, hN⟩ : ∃ N : Nat, N = l.length := ⟨_, rfl⟩
 rw [← hN] at hlen HV ⊢;have HN := hide hN;clear hN;go_enter Tryz.func142, Tryz.ntmps142
 go_wp2
 go_loopw [9] (fun i wr => ∃ k : Nat, i = .int .i64 k ∧ k ≤ N ∧ Hid (Below w.heap.size w wr) ∧ Hid ((l.drop k).any (fun r => decide (r.1 ≤ n) && decide (n ≤ r.2)) = B)) (fun i _ => N - (intOf i).toNat)
 case atStart => exact ⟨0, rfl, by omega, hide (Below.refl _ _), HB⟩
 case round =>
  obtain ⟨k, rfl, hk, HW, HD⟩ := hrel;clear HB;by_cases hlt : k < N
  ·obtain ⟨b, off, ha, hb, c0, c1⟩ := (HV.out.on HW.out).at.2 k (by rw [← HN.out]; exact hlt);subst ha;have D0 := HD.out;rw [drop_getD l k (0, 0) (by rw [← HN.out]; exact hlt), List.any_cons] at D0;generalize l.getD k (0, 0) = q at *;have HD0 := hide D0;clear D0 HD;by_cases h1 : q.1 ≤ n
   ·by_cases h2 : n ≤ q.2
    ·go_wp2
     go_ret
     exact ⟨ret_bool (by rw [← HD0.out]; simp [h1, h2]), HW.out.alloc HW.out.size _⟩
    ·go_wp2
     exact ⟨⟨k + 1, by go_num, by omega, hide (HW.out.alloc HW.out.size _), hide (by rw [← HD0.out]; simp [h1]; omega)⟩, by simp [intOf]; omega⟩
   ·go_wp2
    exact ⟨⟨k + 1, by go_num, by omega, hide (HW.out.alloc HW.out.size _), hide (by rw [← HD0.out]; simp; omega)⟩, by simp [intOf]; omega⟩
  ·have hge : (N : Int) ≤ (k : Int) := by omega
   have E : Hid (B = false) := hide (by rw [← HD.out, List.drop_eq_nil_of_le (by have := HN.out; omega)]; rfl)
   go_wp2
   go_ret
   exact ⟨ret_bool E.out.symm, HW.out⟩
end Go.Proofs.YtlmdcaemjaldfaaGreat
namespace Go.Proofs.YtlmdcaemjaldfaaGreat
open Go.RowKit
set_option maxRecDepth 100000 in
theorem run_ev0 (w : World) (e : EvV) : (Instr.index 44 (.agg #[.int .i64 e.v0.1, .int .i64 e.v0.2.1, .string e.v0.2.2, .int .i64 e.v1.1, .int .i64 e.v1.2.1, .string e.v1.2.2, .int .i64 e.v2.1, .int .i64 e.v2.2.1, .string e.v2.2.2, .int .i64 e.v3.1, .int .i64 e.v3.2.1, .string e.v3.2.2]) (.int .i64 0)).run Tryz.prog w = .ok (.agg #[.int .i64 e.v0.1, .int .i64 e.v0.2.1, .string e.v0.2.2]) w := by
 simp [Instr.index, run_underlying Tryz.underlying44, asIntOf, go_sem, part]
set_option maxRecDepth 100000 in
theorem run_ev1 (w : World) (e : EvV) : (Instr.index 44 (.agg #[.int .i64 e.v0.1, .int .i64 e.v0.2.1, .string e.v0.2.2, .int .i64 e.v1.1, .int .i64 e.v1.2.1, .string e.v1.2.2, .int .i64 e.v2.1, .int .i64 e.v2.2.1, .string e.v2.2.2, .int .i64 e.v3.1, .int .i64 e.v3.2.1, .string e.v3.2.2]) (.int .i64 1)).run Tryz.prog w = .ok (.agg #[.int .i64 e.v1.1, .int .i64 e.v1.2.1, .string e.v1.2.2]) w := by
 simp [Instr.index, run_underlying Tryz.underlying44, asIntOf, go_sem, part]
set_option maxRecDepth 100000 in
theorem run_ev2 (w : World) (e : EvV) : (Instr.index 44 (.agg #[.int .i64 e.v0.1, .int .i64 e.v0.2.1, .string e.v0.2.2, .int .i64 e.v1.1, .int .i64 e.v1.2.1, .string e.v1.2.2, .int .i64 e.v2.1, .int .i64 e.v2.2.1, .string e.v2.2.2, .int .i64 e.v3.1, .int .i64 e.v3.2.1, .string e.v3.2.2]) (.int .i64 2)).run Tryz.prog w = .ok (.agg #[.int .i64 e.v2.1, .int .i64 e.v2.2.1, .string e.v2.2.2]) w := by
 simp [Instr.index, run_underlying Tryz.underlying44, asIntOf, go_sem, part]
set_option maxRecDepth 100000 in
theorem run_ev3 (w : World) (e : EvV) : (Instr.index 44 (.agg #[.int .i64 e.v0.1, .int .i64 e.v0.2.1, .string e.v0.2.2, .int .i64 e.v1.1, .int .i64 e.v1.2.1, .string e.v1.2.2, .int .i64 e.v2.1, .int .i64 e.v2.2.1, .string e.v2.2.2, .int .i64 e.v3.1, .int .i64 e.v3.2.1, .string e.v3.2.2]) (.int .i64 3)).run Tryz.prog w = .ok (.agg #[.int .i64 e.v3.1, .int .i64 e.v3.2.1, .string e.v3.2.2]) w := by
 simp [Instr.index, run_underlying Tryz.underlying44, asIntOf, go_sem, part]
set_option maxHeartbeats 4000000 in
set_option maxRecDepth 100000 in
theorem event_any (e : EvV) (w : World) (hf : evFit e) :
  Calls Tryz.prog 70 #[evVal e] w fun r w' => r = .returned (.bool (rightE e)) ∧ Below w.heap.size w w' := by
 unfold evVal;have HR : Hid (rightE e = (((rightB e.v0.1 e.v0.2.1 e.v0.2.2 && rightB e.v1.1 e.v1.2.1 e.v1.2.2) && rightB e.v2.1 e.v2.2.1 e.v2.2.2) && rightB e.v3.1 e.v3.2.1 e.v3.2.2)) := hide rfl;have R0 := fun (W : World) => hide (valRight_any e.v0.1 e.v0.2.1 e.v0.2.2 W hf.1)
 have R1 := fun (W : World) => hide (valRight_any e.v1.1 e.v1.2.1 e.v1.2.2 W hf.2.1)
 have R2 := fun (W : World) => hide (valRight_any e.v2.1 e.v2.2.1 e.v2.2.2 W hf.2.2.1)
 have R3 := fun (W : World) => hide (valRight_any e.v3.1 e.v3.2.1 e.v3.2.2 W hf.2.2.2)
 generalize rightB e.v0.1 e.v0.2.1 e.v0.2.2 = q0 at HR R0;generalize rightB e.v1.1 e.v1.2.1 e.v1.2.2 = q1 at HR R1;generalize rightB e.v2.1 e.v2.2.1 e.v2.2.2 = q2 at HR R2;generalize rightB e.v3.1 e.v3.2.1 e.v3.2.2 = q3 at HR R3;have B0 := hide ((Below.refl _ w).alloc (Nat.le_refl _) (Obj.cells #[.int .i64 e.v0.1, .int .i64 e.v0.2.1, .string e.v0.2.2, .int .i64 e.v1.1, .int .i64 e.v1.2.1, .string e.v1.2.2, .int .i64 e.v2.1, .int .i64 e.v2.2.1, .string e.v2.2.2, .int .i64 e.v3.1, .int .i64 e.v3.2.1, .string e.v3.2.2] 44));clear hf;go_enter Tryz.func70, Tryz.ntmps70
 go_wp2
 go_loopw [6] (fun i wr => ∃ k : Int, i = .int .i64 k ∧ (k = 0 ∨ (k = 1 ∧ Hid (q0 = true)) ∨ (k = 2 ∧ Hid (q0 = true ∧ q1 = true)) ∨ (k = 3 ∧ Hid (q0 = true ∧ q1 = true ∧ q2 = true)) ∨ (k = 4 ∧ Hid (rightE e = true))) ∧ Hid (Below w.heap.size w wr)) (fun i _ => (4 - intOf i).toNat)
 case atStart => exact ⟨0, rfl, Or.inl rfl, B0⟩
 case round =>
  clear B0;obtain ⟨k, rfl, hk, HB⟩ := hrel;rcases hk with rfl | ⟨rfl, HP⟩ | ⟨rfl, HP⟩ | ⟨rfl, HP⟩ | ⟨rfl, HP⟩
  ·have X := R0 (wr.alloc (Obj.cells #[.int .i64 e.v0.1, .int .i64 e.v0.2.1, .string e.v0.2.2] 42));have B1 := hide (HB.out.alloc HB.out.size (Obj.cells #[.int .i64 e.v0.1, .int .i64 e.v0.2.1, .string e.v0.2.2] 42));have RX := run_ev0 wr e;clear R0 R1 R2 R3
   go_wp2_with fail
   refine (unhide X).mono ?_;rintro r w2 ⟨rfl, b2⟩;have B2 := hide (B1.out.trans (b2.mono B1.out.size));clear X b2 B1;cases hr : q0
   ·have HF : Hid (rightE e = false) := hide (by rw [HR.out, hr]; simp)
    go_wp2
    go_ret
    exact ⟨ret_bool HF.out.symm, B2.out⟩
   ·go_wp2
    exact ⟨⟨1, rfl, Or.inr (Or.inl ⟨rfl, hide hr⟩), B2⟩, by simp [intOf]⟩
  ·have X := R1 (wr.alloc (Obj.cells #[.int .i64 e.v1.1, .int .i64 e.v1.2.1, .string e.v1.2.2] 42));have B1 := hide (HB.out.alloc HB.out.size (Obj.cells #[.int .i64 e.v1.1, .int .i64 e.v1.2.1, .string e.v1.2.2] 42));have RX := run_ev1 wr e;clear R0 R1 R2 R3
   go_wp2_with fail
   refine (unhide X).mono ?_;rintro r w2 ⟨rfl, b2⟩;have B2 := hide (B1.out.trans (b2.mono B1.out.size));clear X b2 B1;cases hr : q1
   ·have HF : Hid (rightE e = false) := hide (by rw [HR.out, hr]; simp)
    go_wp2
    go_ret
    exact ⟨ret_bool HF.out.symm, B2.out⟩
   ·go_wp2
    exact ⟨⟨2, rfl, Or.inr (Or.inr (Or.inl ⟨rfl, hide ⟨HP.out, hr⟩⟩)), B2⟩, by simp [intOf]⟩
  ·have X := R2 (wr.alloc (Obj.cells #[.int .i64 e.v2.1, .int .i64 e.v2.2.1, .string e.v2.2.2] 42));have B1 := hide (HB.out.alloc HB.out.size (Obj.cells #[.int .i64 e.v2.1, .int .i64 e.v2.2.1, .string e.v2.2.2] 42));have RX := run_ev2 wr e;clear R0 R1 R2 R3
   go_wp2_with fail
   refine (unhide X).mono ?_;rintro r w2 ⟨rfl, b2⟩;have B2 := hide (B1.out.trans (b2.mono B1.out.size));clear X b2 B1;cases hr : q2
   ·have HF : Hid (rightE e = false) := hide (by rw [HR.out, hr]; simp)
    go_wp2
    go_ret
    exact ⟨ret_bool HF.out.symm, B2.out⟩
   ·go_wp2
    exact ⟨⟨3, rfl, Or.inr (Or.inr (Or.inr (Or.inl ⟨rfl, hide ⟨HP.out.1, HP.out.2, hr⟩⟩))), B2⟩, by simp [intOf]⟩
  ·have X := R3 (wr.alloc (Obj.cells #[.int .i64 e.v3.1, .int .i64 e.v3.2.1, .string e.v3.2.2] 42));have B1 := hide (HB.out.alloc HB.out.size (Obj.cells #[.int .i64 e.v3.1, .int .i64 e.v3.2.1, .string e.v3.2.2] 42));have RX := run_ev3 wr e;clear R0 R1 R2 R3
   go_wp2_with fail
   refine (unhide X).mono ?_;rintro r w2 ⟨rfl, b2⟩;have B2 := hide (B1.out.trans (b2.mono B1.out.size));clear X b2 B1;cases hr : q3
   ·have HF : Hid (rightE e = false) := hide (by rw [HR.out, hr]; simp)
    go_wp2
    go_ret
    exact ⟨ret_bool HF.out.symm, B2.out⟩
   ·go_wp2
    exact ⟨⟨4, rfl, Or.inr (Or.inr (Or.inr (Or.inr ⟨rfl, hide (by rw [HR.out, HP.out.1, HP.out.2.1, HP.out.2.2, hr]; rfl)⟩))), B2⟩, by simp [intOf]⟩
  ·go_wp2
   go_ret
   exact ⟨ret_bool HP.out.symm, HB.out⟩
end Go.Proofs.YtlmdcaemjaldfaaGreat
namespace Go.Proofs.YtlmdcaemjaldfaaGreat
def smallB (s : SetV) : Bool := decide (s.ints.length ≤ 6) && decide (s.strs.length ≤ 6)
end Go.Proofs.YtlmdcaemjaldfaaGreat
namespace Go.Proofs.YtlmdcaemjaldfaaGreat
open Go.RowKit
structure SC where
 a : Bool
 p : Option Addr
 n : Nat
 c : Nat
 d : Bool
 q : Option Addr
 m : Nat
 e : Nat
def SC.val (s : SC) : Value := .agg #[.bool s.a, .slice s.p s.n s.c, .bool s.d, .slice s.q s.m s.e]
def SC.zero : SC := ⟨false, none, 0, 0, false, none, 0, 0⟩
theorem SetAt.sc {w : World} {v : Value} {S : SetV} (h : SetAt w v S) : ∃ s : SC, v = s.val := by
 obtain ⟨vi, vs, rfl, hI, hS⟩ := h;obtain ⟨ai, ci, rfl⟩ := hI.form;obtain ⟨aq, cq, rfl⟩ := hS.form;exact ⟨⟨_, _, _, _, _, _, _, _⟩, rfl⟩
theorem SetAt.scForm {w : World} {s : SC} {S : SetV} (h : SetAt w s.val S) : s.a = S.absent ∧ s.n = S.ints.length ∧ s.d = S.co ∧ s.m = S.strs.length := by
 obtain ⟨vi, vs, e, hI, hS⟩ := h;obtain ⟨ai, ci, rfl⟩ := hI.form;obtain ⟨aq, cq, rfl⟩ := hS.form;unfold SC.val at e
 simp at e
 obtain ⟨e1, ⟨e2, e3, e4⟩, e5, e6, e7, e8⟩ := e;exact ⟨e1, e3, e5, e7⟩
def StIn (w : World) (g : Nat) (s : SC) : Prop := w.heap[g]? = some (.cells #[.bool s.a, .slice s.p s.n s.c, .bool s.d, .slice s.q s.m s.e] 25 (0, 0))
theorem StIn.on {w w' : World} {g : Nat} {s : SC} (h : StIn w g s) (hb : Below w.heap.size w w') : StIn w' g s := (hb.block _ (lt_heap h)).trans h
end Go.Proofs.YtlmdcaemjaldfaaGreat
namespace Go.Proofs.YtlmdcaemjaldfaaGreat
open Go.Deep Go.ChangeShapes Go.WideShapes Go.ChangeAt Go.WideMaps Go.WideElems Go.RowKit Go.Joins
structure EC where
 k : Int
 t : Int
 s : SC
 p : Option Addr
 n : Nat
 c : Nat
end Go.Proofs.YtlmdcaemjaldfaaGreat
namespace Go.Proofs.YtlmdcaemjaldfaaGreat
open Go.RowKit
set_option maxHeartbeats 2000000 in
set_option maxRecDepth 100000 in
theorem equalR_any (v u : Value) (si ti : List Rg) (w : World) (hv : RngsAt w v si) (hu : RngsAt w u ti) :
  Calls Tryz.prog 168 #[v, u] w fun r w' => r = .returned (.bool (rngEqB si ti)) ∧ Below w.heap.size w w' := by
 have HI := hide hv;have HJ := hide hu;have nIle := hv.2.1;have nJle := hu.2.1;have lI := rngEqB_len si ti;obtain ⟨ai, ci, rfl⟩ := hv.form;obtain ⟨bi, di, rfl⟩ := hu.form;clear hv hu;obtain ⟨nI, hnI⟩ : ∃ n : Nat, n = si.length := ⟨_, rfl⟩
 obtain ⟨nJ, hnJ⟩ : ∃ n : Nat, n = ti.length := ⟨_, rfl⟩
 rw [← hnI] at nIle lI HI ⊢;rw [← hnJ] at nJle lI HJ ⊢;have HnI := hide hnI;have HnJ := hide hnJ;have LI := hide lI;clear hnI hnJ lI;by_cases eI : nI = nJ
 ·subst eI;clear LI;have b1 : ((nI : Int) != (nI : Int)) = false := by simp
  go_enter Tryz.func168, Tryz.ntmps168
  go_wp2
  go_loopw [13] (fun i wr => ∃ k : Nat, i = .int .i64 k ∧ k ≤ nI ∧ Hid (rngEqB (si.drop k) (ti.drop k) = rngEqB si ti) ∧ Hid (Below w.heap.size w wr)) (fun i _ => nI - (intOf i).toNat)
  case atStart => exact ⟨0, rfl, by omega, hide rfl, hide (Below.refl _ _)⟩
  case round =>
   obtain ⟨k, rfl, hk, HG, HB⟩ := hrel;by_cases hlt : k < nI
   ·have hk1 : k < si.length := by rw [← HnI.out]; exact hlt
    have hk2 : k < ti.length := by rw [← HnJ.out]; exact hlt
    obtain ⟨b, off, rfl, hb, x0, x1⟩ := (HI.out.on HB.out).at.2 k hk1;obtain ⟨b', off', rfl, hb', y0, y1⟩ := (HJ.out.on HB.out).at.2 k hk2;have G0 := HG.out;rw [drop_getD si k (0, 0) hk1, drop_getD ti k (0, 0) hk2] at G0;generalize si.getD k (0, 0) = r at *;generalize ti.getD k (0, 0) = q at *;simp only [rngEqB] at G0;have G1 := hide G0;clear G0 HG;cases f1 : (r.1 == q.1)
    ·have G2 : Hid (rngEqB si ti = false) := hide (by rw [← G1.out, f1]; rfl);clear G1
     go_wp2
     go_quiet (fail)
     go_wp2
     go_ret
     exact ⟨ret_bool (by rw [G2.out]), below_drewN HB.out _⟩
    ·cases f2 : (r.2 == q.2)
     ·have G2 : Hid (rngEqB si ti = false) := hide (by rw [← G1.out, f1, f2]; rfl);clear G1
      go_wp2
      go_quiet (fail)
      go_wp2
      go_ret
      exact ⟨ret_bool (by rw [G2.out]), below_drewN HB.out _⟩
     ·have G2 : Hid (rngEqB (si.drop (k + 1)) (ti.drop (k + 1)) = rngEqB si ti) := hide (by rw [← G1.out, f1, f2]; rfl);clear G1
      go_wp2
      go_quiet (fail)
      go_wp2
      exact ⟨⟨k + 1, by go_num, by omega, G2, hide (below_drewN HB.out _)⟩, by simp [intOf]; omega⟩
   ·have hge : (nI : Int) ≤ (k : Int) := by omega
    have G2 : Hid (rngEqB si ti = true) := hide (by
     rw [← HG.out, List.drop_eq_nil_of_le (by have := HnI.out; omega), List.drop_eq_nil_of_le (by have := HnJ.out; omega)]; rfl)
    clear HG
    go_wp2
    go_ret
    exact ⟨ret_bool (by rw [G2.out]), HB.out⟩
 ·have b1 : ((nI : Int) != (nJ : Int)) = true := by rw [bne_iff_ne]; omega
  have G := hide (LI.out eI);go_enter Tryz.func168, Tryz.ntmps168
  go_wp2
  go_ret
  exact ⟨ret_bool (by rw [G.out]), Below.refl _ _⟩
set_option maxHeartbeats 2000000 in
set_option maxRecDepth 100000 in
theorem equalS_any (v u : Value) (ss ts : List ByteArray) (w : World) (hv : StrsAt w v ss) (hu : StrsAt w u ts) :
  Calls Tryz.prog 169 #[v, u] w fun r w' => r = .returned (.bool (strEqB ss ts)) ∧ Below w.heap.size w w' := by
 have HI := hide hv;have HJ := hide hu;have nIle := hv.2.1;have nJle := hu.2.1;have lI := strEqB_len ss ts;obtain ⟨ai, ci, rfl⟩ := hv.form;obtain ⟨bi, di, rfl⟩ := hu.form;clear hv hu;obtain ⟨nI, hnI⟩ : ∃ n : Nat, n = ss.length := ⟨_, rfl⟩
 obtain ⟨nJ, hnJ⟩ : ∃ n : Nat, n = ts.length := ⟨_, rfl⟩
 rw [← hnI] at nIle lI HI ⊢;rw [← hnJ] at nJle lI HJ ⊢;have HnI := hide hnI;have HnJ := hide hnJ;have LI := hide lI;clear hnI hnJ lI;by_cases eI : nI = nJ
 ·subst eI;clear LI;have b1 : ((nI : Int) != (nI : Int)) = false := by simp
  go_enter Tryz.func169, Tryz.ntmps169
  go_wp2
  go_loopw [13] (fun i wr => ∃ k : Nat, i = .int .i64 k ∧ k ≤ nI ∧ Hid (strEqB (ss.drop k) (ts.drop k) = strEqB ss ts) ∧ Hid (Below w.heap.size w wr)) (fun i _ => nI - (intOf i).toNat)
  case atStart => exact ⟨0, rfl, by omega, hide rfl, hide (Below.refl _ _)⟩
  case round =>
   obtain ⟨k, rfl, hk, HG, HB⟩ := hrel;by_cases hlt : k < nI
   ·have hk1 : k < ss.length := by rw [← HnI.out]; exact hlt
    have hk2 : k < ts.length := by rw [← HnJ.out]; exact hlt
    obtain ⟨b, off, rfl, hb, x0⟩ := (HI.out.on HB.out).at.2 k hk1;obtain ⟨b', off', rfl, hb', y0⟩ := (HJ.out.on HB.out).at.2 k hk2;have G0 := HG.out;rw [drop_getD ss k ⟨#[]⟩ hk1, drop_getD ts k ⟨#[]⟩ hk2] at G0;generalize ss.getD k ⟨#[]⟩ = r at *;generalize ts.getD k ⟨#[]⟩ = q at *;simp only [strEqB] at G0;have G1 := hide G0;clear G0 HG;cases f1 : (r.toList == q.toList)
    ·have G2 : Hid (strEqB ss ts = false) := hide (by rw [← G1.out, f1]; rfl);clear G1
     go_wp2
     go_quiet (fail)
     go_wp2
     go_ret
     exact ⟨ret_bool (by rw [G2.out]), below_drewN HB.out _⟩
    ·have G2 : Hid (strEqB (ss.drop (k + 1)) (ts.drop (k + 1)) = strEqB ss ts) := hide (by rw [← G1.out, f1]; rfl);clear G1
     go_wp2
     go_quiet (fail)
     go_wp2
     exact ⟨⟨k + 1, by go_num, by omega, G2, hide (below_drewN HB.out _)⟩, by simp [intOf]; omega⟩
   ·have hge : (nI : Int) ≤ (k : Int) := by omega
    have G2 : Hid (strEqB ss ts = true) := hide (by
     rw [← HG.out, List.drop_eq_nil_of_le (by have := HnI.out; omega), List.drop_eq_nil_of_le (by have := HnJ.out; omega)]; rfl)
    clear HG
    go_wp2
    go_ret
    exact ⟨ret_bool (by rw [G2.out]), HB.out⟩
 ·have b1 : ((nI : Int) != (nJ : Int)) = true := by rw [bne_iff_ne]; omega
  have G := hide (LI.out eI);go_enter Tryz.func169, Tryz.ntmps169
  go_wp2
  go_ret
  exact ⟨ret_bool (by rw [G.out]), Below.refl _ _⟩
set_option maxHeartbeats 2000000 in
set_option maxRecDepth 100000 in
theorem same_any (v u : Value) (A B : SetV) (w : World) (hv : SetAt w v A) (hu : SetAt w u B) :
  Calls Tryz.prog 152 #[v, u] w fun r w' => r = .returned (.bool (sameB A B)) ∧ Below w.heap.size w w' := by
 obtain ⟨vi, vs, rfl, hI, hS⟩ := hv;obtain ⟨ui, us, rfl, hJ, hT⟩ := hu;obtain ⟨sa, si, sc, ss⟩ := A;obtain ⟨ta, ti, tc, ts⟩ := B;dsimp only at *;have HI := hide hI;have HS := hide hS;have HJ := hide hJ;have HT := hide hT;clear hI hS hJ hT;have HG : Hid (sameB ⟨sa, si, sc, ss⟩ ⟨ta, ti, tc, ts⟩ = (((sa == ta) && rngEqB si ti) && (sc == tc) && strEqB ss ts)) := hide (by
  unfold sameB;dsimp only;cases (sa == ta) <;> cases (sc == tc) <;> cases rngEqB si ti <;> cases strEqB ss ts <;> rfl)
 generalize sameB ⟨sa, si, sc, ss⟩ ⟨ta, ti, tc, ts⟩ = G at *;have ba := fun (o1 o2 : Obj) => hide (two_boxes w o1 o2)
 have hta : ta = sa ∨ ta = !sa := by cases ta <;> cases sa <;> simp
 rcases hta with rfl | rfl
 ·have hb1 : (ta == ta) = true := by simp
  obtain ⟨e1, e2, b2⟩ := (ba (.cells #[.bool ta, vi, .bool sc, vs] 25) (.cells #[.bool ta, ui, .bool tc, us] 25)).out;have X := hide (equalR_any _ _ si ti _ (HI.out.on b2) (HJ.out.on b2));have Y := fun (w1 : World) (h : Below w.heap.size w w1) => hide (equalS_any _ _ ss ts w1 (HS.out.on h) (HT.out.on h))
  have B2 := hide b2;have E1 := hide e1;have E2 := hide e2;clear e1 e2 b2 ba HI HJ HS HT;go_enter Tryz.func152, Tryz.ntmps152
  go_wp2_with fail
  refine (unhide X).mono ?_;rintro r w1 ⟨rfl, b1⟩;have c2 := cell_heap ((b1.block _ (lt_heap E1.out)).trans E1.out) 2;have c3 := cell_heap ((b1.block _ (lt_heap E1.out)).trans E1.out) 3;have d2 := cell_heap ((b1.block _ (lt_heap E2.out)).trans E2.out) 2;have d3 := cell_heap ((b1.block _ (lt_heap E2.out)).trans E2.out) 3;simp only [List.getElem?_toArray, List.getElem?_cons_zero, List.getElem?_cons_succ] at c2 c3 d2 d3;have B3 := hide (B2.out.trans (b1.mono B2.out.size));clear X B2 b1 E1 E2;cases hr : rngEqB si ti
  ·have HE : Hid (G = false) := hide (by rw [HG.out, hr]; simp)
   go_wp2
   go_ret
   exact ⟨ret_bool HE.out.symm, B3.out⟩
  ·have htc : tc = sc ∨ tc = !sc := by cases tc <;> cases sc <;> simp
   rcases htc with rfl | rfl
   ·have hb2 : (tc == tc) = true := by simp
    have HE : Hid (G = strEqB ss ts) := hide (by rw [HG.out, hr]; simp);have Z := Y _ B3.out;clear Y HG
    go_wp2_with fail
    refine (unhide Z).mono ?_;rintro r w4 ⟨rfl, b4⟩
    go_wp2
    go_ret
    exact ⟨ret_bool HE.out.symm, B3.out.trans (b4.mono B3.out.size)⟩
   ·have HE : Hid (G = false) := hide (by rw [HG.out]; cases sc <;> simp)
    go_wp2
    go_ret
    exact ⟨ret_bool (by rw [HE.out]), B3.out⟩
 ·have HE : Hid (G = false) := hide (by rw [HG.out]; cases sa <;> simp);go_enter Tryz.func152, Tryz.ntmps152
  go_wp2
  go_ret
  exact ⟨ret_bool (by rw [HE.out]), (ba _ _).out.2.2⟩
end Go.Proofs.YtlmdcaemjaldfaaGreat
namespace Go.Proofs.YtlmdcaemjaldfaaGreat
open Go.RowKit
set_option maxHeartbeats 1000000 in
set_option maxRecDepth 100000 in
theorem inInts_any (v : Value) (l : List Rg) (n : Int) (w : World) (hv : RngsAt w v l) :
  Calls Tryz.prog 144 #[v, .int .i64 n] w fun r w' => r = .returned (.bool (inIntsB l n)) ∧ w' = w := by
 have HV := hide hv;obtain ⟨_, hlen, a, cap, rfl, hel⟩ := hv;have HE := hide hel;clear hel;generalize hB : inIntsB l n = B;have HB : Hid ((l.drop 0).any (fun r => decide (r.1 ≤ n) && decide (n ≤ r.2)) = B) := hide (by rw [List.drop_zero]; exact hB);clear hB;obtain ⟨N, hN⟩ : ∃ N : Nat, N = l.length := ⟨_, rfl⟩
 rw [← hN] at hlen ⊢;have HN := hide hN;clear hN;go_enter Tryz.func144, Tryz.ntmps144
 go_wp2
 go_loopw [5] (fun i wr => ∃ k : Nat, i = .int .i64 k ∧ k ≤ N ∧ wr = w ∧ Hid ((l.drop k).any (fun r => decide (r.1 ≤ n) && decide (n ≤ r.2)) = B)) (fun i _ => N - (intOf i).toNat)
 case atStart => exact ⟨0, rfl, by omega, rfl, HB⟩
 case round =>
  obtain ⟨k, rfl, hk, rfl, HD⟩ := hrel;clear HB;by_cases hlt : k < N
  ·obtain ⟨b, off, rfl, hb, c0, c1⟩ := HE.out k (by rw [← HN.out]; exact hlt);have D0 := HD.out;rw [drop_getD l k (0, 0) (by rw [← HN.out]; exact hlt), List.any_cons] at D0;generalize l.getD k (0, 0) = q at *;have HD0 := hide D0;clear D0 HD;by_cases h1 : q.1 ≤ n
   ·by_cases h2 : n ≤ q.2
    ·go_wp2
     go_ret
     exact ⟨ret_bool (by rw [← HD0.out]; simp [h1, h2]), rfl⟩
    ·go_wp2
     exact ⟨⟨k + 1, by go_num, by omega, trivial, hide (by rw [← HD0.out]; simp [h1]; omega)⟩, by simp [intOf]; omega⟩
   ·go_wp2
    exact ⟨⟨k + 1, by go_num, by omega, trivial, hide (by rw [← HD0.out]; simp; omega)⟩, by simp [intOf]; omega⟩
  ·have hge : (N : Int) ≤ (k : Int) := by omega
   have E : Hid (B = false) := hide (by rw [← HD.out, List.drop_eq_nil_of_le (by have := HN.out; omega)]; rfl)
   go_wp2
   go_ret
   exact ⟨ret_bool E.out.symm, rfl⟩
set_option maxHeartbeats 1000000 in
set_option maxRecDepth 100000 in
theorem inStrs_any (v : Value) (l : List ByteArray) (s : ByteArray) (w : World) (hv : StrsAt w v l) :
  Calls Tryz.prog 145 #[v, .string s] w fun r w' => r = .returned (.bool (inStrsB l s)) ∧ w' = w := by
 obtain ⟨_, hlen, a, cap, rfl, hel⟩ := hv;have HE := hide hel;clear hel;generalize hB : inStrsB l s = B;have HB : Hid ((l.drop 0).any (fun t => t.toList == s.toList) = B) := hide (by rw [List.drop_zero]; exact hB);clear hB;obtain ⟨N, hN⟩ : ∃ N : Nat, N = l.length := ⟨_, rfl⟩
 rw [← hN] at hlen ⊢;have HN := hide hN;clear hN;go_enter Tryz.func145, Tryz.ntmps145
 go_wp2
 go_loopw [5] (fun i wr => ∃ k : Nat, i = .int .i64 k ∧ k ≤ N ∧ wr = w ∧ Hid ((l.drop k).any (fun t => t.toList == s.toList) = B)) (fun i _ => N - (intOf i).toNat)
 case atStart => exact ⟨0, rfl, by omega, rfl, HB⟩
 case round =>
  obtain ⟨k, rfl, hk, rfl, HD⟩ := hrel;clear HB;by_cases hlt : k < N
  ·obtain ⟨b, off, rfl, hb, c0⟩ := HE.out k (by rw [← HN.out]; exact hlt);have D0 := HD.out;rw [drop_getD l k ⟨#[]⟩ (by rw [← HN.out]; exact hlt), List.any_cons] at D0;generalize l.getD k ⟨#[]⟩ = q at *;have HD0 := hide D0;clear D0 HD;cases h1 : (q.toList == s.toList)
   ·go_wp2
    exact ⟨⟨k + 1, by go_num, by omega, trivial, hide (by rw [← HD0.out, h1]; rfl)⟩, by simp [intOf]; omega⟩
   ·go_wp2
    go_ret
    exact ⟨ret_bool (by rw [← HD0.out, h1]; rfl), rfl⟩
  ·have hge : (N : Int) ≤ (k : Int) := by omega
   have E : Hid (B = false) := hide (by rw [← HD.out, List.drop_eq_nil_of_le (by have := HN.out; omega)]; rfl)
   go_wp2
   go_ret
   exact ⟨ret_bool E.out.symm, rfl⟩
set_option maxHeartbeats 2000000 in
set_option maxRecDepth 100000 in
theorem refHas_any (v : Value) (S : SetV) (k n : Int) (s : ByteArray) (w : World) (hv : SetAt w v S) (hs : s.size ≤ maxLen) :
  Calls Tryz.prog 106 #[v, .agg #[.int .i64 k, .int .i64 n, .string s]] w fun r w' => r = .returned (.bool (hasB S k n s)) ∧ Below w.heap.size w w' := by
 obtain ⟨vi, vs, rfl, hI, hS⟩ := hv;obtain ⟨ai, ci, rfl⟩ := hI.form;obtain ⟨aq, cq, rfl⟩ := hS.form;obtain ⟨sa, si, sc, ss⟩ := S;dsimp only at *;have HI := hide hI;have HS := hide hS;have HR := fun (W : World) => hide (refRight_any k n s W hs)
 generalize hH : hasB ⟨sa, si, sc, ss⟩ k n s = B;have HH := hide hH;have R2 : rightB k n s = true → k ≠ 0 → k ≠ 1 → k = 2 := fun h h0 h1 => by
  unfold rightB at h;rw [if_neg h0, if_neg h1] at h
  split at h
  ·assumption
  ·simp at h
 have HR2 := hide R2;clear hI hS hH R2;generalize si.length = nI at *;generalize ss.length = nS at *;cases hr : rightB k n s
 ·rw [hr] at HR;have E : Hid (B = false) := hide (by rw [← HH.out]; unfold hasB; rw [hr]; rfl);clear HH hr;go_enter Tryz.func106, Tryz.ntmps106
  go_wp2_with fail
  refine (unhide (HR _)).mono ?_;rintro r w1 ⟨rfl, b1⟩;have B1 := hide b1;clear b1
  go_wp2
  go_ret
  exact ⟨ret_bool E.out.symm, (two_new B1.out).2.2⟩
 ·rw [hr] at HR;have hB := HH.out;unfold hasB at hB;rw [hr, Bool.true_and] at hB;have HB := hide hB;have k2 := HR2.out hr;have K2 := hide k2;clear HH hr hB k2 HR2;go_enter Tryz.func106, Tryz.ntmps106
  go_wp2_with fail
  refine (unhide (HR _)).mono ?_;rintro r w1 ⟨rfl, b1⟩;obtain ⟨e1, e2, b2⟩ := two_new b1;have c0 := cell_heap e1 0;have c1 := cell_heap e1 1;have c2 := cell_heap e1 2;have c3 := cell_heap e1 3;have d0 := cell_heap e2 0;have d1 := cell_heap e2 1;have d2 := cell_heap e2 2;simp only [List.getElem?_toArray, List.getElem?_cons_zero, List.getElem?_cons_succ] at c0 c1 c2 c3 d0 d1 d2;have B2 := hide b2;have I1 := hide (HI.out.on b2);have S1 := hide (HS.out.on b2);clear b1 b2 e1 e2 HR HI HS;by_cases k0 : k = 0
  ·subst k0;have E : Hid (B = sa) := hide (by rw [← HB.out, if_pos rfl]);clear HB
   go_wp2
   go_ret
   exact ⟨ret_bool E.out.symm, B2.out⟩
  ·have kb : (k == 0) = false := beq_eq_false_iff_ne.2 k0;by_cases k1 : k = 1
   ·subst k1;have E : Hid (B = inIntsB si n) := hide (by rw [← HB.out, if_neg (by omega), if_pos rfl]);have X := hide (inInts_any _ _ n _ I1.out);clear HB I1 S1
    go_wp2_with fail
    refine (unhide X).mono ?_;rintro r w2 ⟨rfl, rfl⟩
    go_wp2
    go_ret
    exact ⟨ret_bool E.out.symm, B2.out⟩
   ·have kb1 : (k == 1) = false := beq_eq_false_iff_ne.2 k1;have E : Hid (B = (inStrsB ss s != sc)) := hide (by rw [← HB.out, if_neg k0, if_neg k1]);have X := fun (d : Nat) (os : Array Obj) => hide (Calls.regrown_of ((inStrs_any _ _ s (Sort.grow (redrawn w1 d) os) (S1.out.on (below_regrown w1 d os))).mono (by rintro r w2 ⟨rfl, rfl⟩; exact ⟨rfl, Below.refl _ _⟩)))
    generalize inStrsB ss s = IB at *;have p0 := cell_regrown c2;have p1 := cell_regrown c3;have p2 := cell_regrown d2;have p3 := cell_regrown d0;have p4 := cell_regrown d1;clear HB I1 S1
    go_wp2
    clear c0 c1 c2 c3 d0 d1 d2;refine wp_region_quiet_below mixed (by kernel_rfl) ?_
    repeat (first | go_big_quiet_step (exact unhide (X _ _)) | quiet_step (exact unhide (X _ _)))
    refine wpQuiet_nil ?_;intro _ hw';obtain ⟨⟨dq, osq⟩, hw''⟩ := hw';subst hw''
    go_wp2
    go_ret
    refine ⟨ret_bool (by rw [E.out]; cases IB <;> cases sc <;> rfl), B2.out.trans ((below_regrown w1 dq osq).mono B2.out.size)⟩
end Go.Proofs.YtlmdcaemjaldfaaGreat
namespace Go.Proofs.YtlmdcaemjaldfaaGreat
open Go.RowKit
set_option maxHeartbeats 4000000 in
set_option maxRecDepth 100000 in
theorem refRightSet_any (v : Value) (S : SetV) (w : World) (hv : SetAt w v S) :
  Calls Tryz.prog 107 #[v] w fun r w' => r = .returned (.bool (rightSet S)) ∧ Below w.heap.size w w' := by
 obtain ⟨vi, vs, rfl, hI, hS⟩ := hv;obtain ⟨ai, ci, rfl⟩ := hI.form;obtain ⟨aq, cq, rfl⟩ := hS.form;obtain ⟨sa, si, sc, ss⟩ := S;dsimp only at *;have HI := hide hI;have HS := hide hS;have nIle := hI.2.1;have nSle := hS.2.1;clear hI hS;unfold rightSet;dsimp only;obtain ⟨nI, hnI⟩ : ∃ n : Nat, n = si.length := ⟨_, rfl⟩
 obtain ⟨nS, hnS⟩ : ∃ n : Nat, n = ss.length := ⟨_, rfl⟩
 rw [← hnI] at nIle ⊢;rw [← hnS] at nSle ⊢;have HnI := hide hnI;have HnS := hide hnS;clear hnI hnS;go_enter Tryz.func107, Tryz.ntmps107
 go_wp2
 go_loopw [3] (fun i wr => ∃ k : Nat, i = .int .i64 k ∧ k ≤ nI ∧ Hid (rgB (prevR si k) (si.drop k) = rgB none si) ∧ Hid (wr.heap[w.heap.size]? = some (.cells #[.bool sa, .slice ai nI ci, .bool sc, .slice aq nS cq] 25 (0, 0))) ∧ Hid (Below w.heap.size w wr)) (fun i _ => nI - (intOf i).toNat)
 case atStart => exact ⟨0, rfl, by omega, hide rfl, hide (heap_new _ _), hide ((Below.refl _ _).alloc (Nat.le_refl _) _)⟩
 case round =>
  obtain ⟨k, rfl, hk, HG, HH, HB⟩ := hrel;have c0 := cell_heap HH.out 0;have c1 := cell_heap HH.out 1;have c2 := cell_heap HH.out 2;have c3 := cell_heap HH.out 3;simp only [List.getElem?_toArray, List.getElem?_cons_zero, List.getElem?_cons_succ] at c0 c1 c2 c3;have ltB := lt_heap HH.out;by_cases hlt : k < nI
  ·have IW := HI.out.on HB.out;have hk' : k < si.length := by rw [← HnI.out]; exact hlt
   obtain ⟨b, off, rfl, hb, d0, d1⟩ := IW.at.2 k hk';obtain ⟨q0, q1, q2, q3⟩ := IW.bound k hk';have G0 := HG.out;rw [drop_getD si k (0, 0) hk'] at G0;have prv : k ≠ 0 → ∃ h : Int, prevR si k = some h ∧ wr.cell? ⟨b, off + (k - 1) * 2 + 1, none⟩ = some (.int .i64 h) ∧ -9223372036854775808 ≤ h ∧ h ≤ 9223372036854775807 := fun h0 => by
    obtain ⟨b', off', ha, _, _, e1⟩ := IW.at.2 (k - 1) (by omega);obtain ⟨_, _, r2, r3⟩ := IW.bound (k - 1) (by omega)
    simp at ha
    obtain ⟨rfl, rfl⟩ := ha;exact ⟨_, by unfold prevR; rw [if_neg h0], e1, r2, r3⟩
   have PRV := hide prv;have nxt : prevR si (k + 1) = some (si.getD k (0, 0)).2 := by unfold prevR; rw [if_neg (by omega)]; rfl
   have NXT := hide nxt;generalize si.getD k (0, 0) = r at *;clear IW prv nxt;have G1 := hide G0;clear G0 HG;have hb5 := fun (o : Obj) => (Below.refl _ wr).alloc (Nat.le_refl _) o
   clear c0 c2 c3;by_cases h1 : r.1 ≤ r.2
   ·by_cases k0 : k = 0
    ·have dk : decide (0 < k) = false := decide_eq_false (by omega);have G2 : Hid (rgB (prevR si (k + 1)) (si.drop (k + 1)) = rgB none si) := hide (by
      have := G1.out;rw [show prevR si k = none by unfold prevR; rw [if_pos k0]] at this;rw [← this, NXT.out]
      simp [rgB, h1])
     clear G1 k0 PRV NXT
     go_wp2
     have HH5 := (hb5 (Obj.cells #[Value.int IntKind.i64 r.1, Value.int IntKind.i64 r.2] 114)).block _ ltB;rw [HH.out] at HH5;have N5 := heap_new wr (Obj.cells #[Value.int IntKind.i64 r.1, Value.int IntKind.i64 r.2] 114);have B5 := hide (HB.out.alloc HB.out.size (Obj.cells #[Value.int IntKind.i64 r.1, Value.int IntKind.i64 r.2] 114));clear c1;generalize wr.alloc (Obj.cells #[Value.int IntKind.i64 r.1, Value.int IntKind.i64 r.2] 114) = w5 at *;have c1 := cell_heap HH5 1;have n0 := cell_heap N5 0;simp only [List.getElem?_toArray, List.getElem?_cons_zero, List.getElem?_cons_succ] at c1 n0;have H5 := hide HH5;clear HH5 N5 hb5 HH HB d0 d1
     go_quiet (fail)
     go_wp2
     exact ⟨⟨k + 1, by go_num, by omega, G2, H5, hide (below_drewN B5.out _)⟩, by simp [intOf]; omega⟩
    ·obtain ⟨h, hp, pc, p0, p1⟩ := PRV.out k0;have dk : decide (0 < k) = true := decide_eq_true (by omega);have k1 : 1 ≤ k := by omega
     have G1' := G1.out;rw [hp] at G1';clear PRV hp k0 G1;by_cases h2 : r.1 ≤ h
     ·have e2 : decide (r.1 ≤ h) = true := decide_eq_true h2;have G2 : Hid (rgB none si = false) := hide (by rw [← G1']; simp [rgB]; intro _ h3; omega);clear G1' NXT
      go_wp2
      have HH5 := (hb5 (Obj.cells #[Value.int IntKind.i64 r.1, Value.int IntKind.i64 r.2] 114)).block _ ltB;rw [HH.out] at HH5;have N5 := heap_new wr (Obj.cells #[Value.int IntKind.i64 r.1, Value.int IntKind.i64 r.2] 114);have B5 := hide (HB.out.alloc HB.out.size (Obj.cells #[Value.int IntKind.i64 r.1, Value.int IntKind.i64 r.2] 114));have pc5 := (hb5 (Obj.cells #[Value.int IntKind.i64 r.1, Value.int IntKind.i64 r.2] 114)).cell (p := ⟨b, off + (k - 1) * 2 + 1, none⟩) hb;rw [pc] at pc5;clear c1 pc;generalize wr.alloc (Obj.cells #[Value.int IntKind.i64 r.1, Value.int IntKind.i64 r.2] 114) = w5 at *;have c1 := cell_heap HH5 1;have n0 := cell_heap N5 0;simp only [List.getElem?_toArray, List.getElem?_cons_zero, List.getElem?_cons_succ] at c1 n0;have H5 := hide HH5;clear HH5 N5 hb5 HH HB d0 d1
      go_quiet (fail)
      go_wp2
      go_ret
      exact ⟨ret_bool (by rw [G2.out]; rfl), below_drewN B5.out _⟩
     ·have e2 : decide (r.1 ≤ h) = false := decide_eq_false h2;by_cases h3 : r.1 ≤ h + 1
      ·have e3 : decide (r.1 ≤ h + 1) = true := decide_eq_true h3;have G2 : Hid (rgB none si = false) := hide (by rw [← G1']; simp [rgB]; intro _ h3; omega);clear G1' NXT
       go_wp2
       have HH5 := (hb5 (Obj.cells #[Value.int IntKind.i64 r.1, Value.int IntKind.i64 r.2] 114)).block _ ltB;rw [HH.out] at HH5;have N5 := heap_new wr (Obj.cells #[Value.int IntKind.i64 r.1, Value.int IntKind.i64 r.2] 114);have B5 := hide (HB.out.alloc HB.out.size (Obj.cells #[Value.int IntKind.i64 r.1, Value.int IntKind.i64 r.2] 114));have pc5 := (hb5 (Obj.cells #[Value.int IntKind.i64 r.1, Value.int IntKind.i64 r.2] 114)).cell (p := ⟨b, off + (k - 1) * 2 + 1, none⟩) hb;rw [pc] at pc5;clear c1 pc;generalize wr.alloc (Obj.cells #[Value.int IntKind.i64 r.1, Value.int IntKind.i64 r.2] 114) = w5 at *;have c1 := cell_heap HH5 1;have n0 := cell_heap N5 0;simp only [List.getElem?_toArray, List.getElem?_cons_zero, List.getElem?_cons_succ] at c1 n0;have H5 := hide HH5;clear HH5 N5 hb5 HH HB d0 d1
       go_quiet (fail)
       go_wp2
       go_ret
       exact ⟨ret_bool (by rw [G2.out]; rfl), below_drewN B5.out _⟩
      ·have e3 : decide (r.1 ≤ h + 1) = false := decide_eq_false h3;have G2 : Hid (rgB (prevR si (k + 1)) (si.drop (k + 1)) = rgB none si) := hide (by
        rw [← G1', NXT.out];have h4 : h + 1 < r.1 := by omega
        simp [rgB, h1, h4])
       clear G1' NXT
       go_wp2
       have HH5 := (hb5 (Obj.cells #[Value.int IntKind.i64 r.1, Value.int IntKind.i64 r.2] 114)).block _ ltB;rw [HH.out] at HH5;have N5 := heap_new wr (Obj.cells #[Value.int IntKind.i64 r.1, Value.int IntKind.i64 r.2] 114);have B5 := hide (HB.out.alloc HB.out.size (Obj.cells #[Value.int IntKind.i64 r.1, Value.int IntKind.i64 r.2] 114));have pc5 := (hb5 (Obj.cells #[Value.int IntKind.i64 r.1, Value.int IntKind.i64 r.2] 114)).cell (p := ⟨b, off + (k - 1) * 2 + 1, none⟩) hb;rw [pc] at pc5;clear c1 pc;generalize wr.alloc (Obj.cells #[Value.int IntKind.i64 r.1, Value.int IntKind.i64 r.2] 114) = w5 at *;have c1 := cell_heap HH5 1;have n0 := cell_heap N5 0;simp only [List.getElem?_toArray, List.getElem?_cons_zero, List.getElem?_cons_succ] at c1 n0;have H5 := hide HH5;clear HH5 N5 hb5 HH HB d0 d1
       go_quiet (fail)
       go_wp2
       exact ⟨⟨k + 1, by go_num, by omega, G2, H5, hide (below_drewN B5.out _)⟩, by simp [intOf]; omega⟩
   ·have G2 : Hid (rgB none si = false) := hide (by
     rw [← G1.out];cases prevR si k <;> simp [rgB, h1])
    have B5 := fun (o : Obj) => hide (HB.out.alloc HB.out.size o)
    clear G1 PRV NXT
    go_wp2
    go_ret
    exact ⟨ret_bool (by rw [G2.out]; rfl), (B5 _).out⟩
  ·have hge : (nI : Int) ≤ (k : Int) := by omega
   have G2 : Hid (rgB none si = true) := hide (by
    rw [← HG.out, List.drop_eq_nil_of_le (by have := HnI.out; omega)];cases prevR si k <;> rfl)
   clear HG
   go_wp2
   go_loopw [5] (fun i wr => ∃ k : Nat, i = .int .i64 k ∧ k ≤ nS ∧ Hid (stB (prevS ss k) (ss.drop k) = stB none ss) ∧ Hid (wr.heap[w.heap.size]? = some (.cells #[.bool sa, .slice ai nI ci, .bool sc, .slice aq nS cq] 25 (0, 0))) ∧ Hid (Below w.heap.size w wr)) (fun i _ => nS - (intOf i).toNat)
   case atStart => exact ⟨0, rfl, by omega, hide rfl, HH, HB⟩
   case round =>
    clear HH HB c0 c1 c2 c3 ltB hge hlt hk;obtain ⟨j, rfl, hj, HG, HH, HB⟩ := hrel;have c0 := cell_heap HH.out 0;have c1 := cell_heap HH.out 1;have c2 := cell_heap HH.out 2;have c3 := cell_heap HH.out 3;simp only [List.getElem?_toArray, List.getElem?_cons_zero, List.getElem?_cons_succ] at c0 c1 c2 c3;have ltB := lt_heap HH.out;by_cases hlt : j < nS
    ·have IW := HS.out.on HB.out;have hj' : j < ss.length := by rw [← HnS.out]; exact hlt
     obtain ⟨b, off, rfl, hb, d0⟩ := IW.at.2 j hj';have q0 := IW.bound j hj';have G0 := HG.out;rw [drop_getD ss j ⟨#[]⟩ hj'] at G0;have prv : j ≠ 0 → ∃ h : ByteArray, prevS ss j = some h ∧ wr.cell? ⟨b, off + (j - 1), none⟩ = some (.string h) := fun h0 => by
      obtain ⟨b', off', ha, _, e1⟩ := IW.at.2 (j - 1) (by omega)
      simp at ha
      obtain ⟨rfl, rfl⟩ := ha;exact ⟨_, by unfold prevS; rw [if_neg h0], e1⟩
     have PRV := hide prv;have nxt : prevS ss (j + 1) = some (ss.getD j ⟨#[]⟩) := by unfold prevS; rw [if_neg (by omega)]; rfl
     have NXT := hide nxt;generalize ss.getD j ⟨#[]⟩ = r at *;clear IW prv nxt;have G1 := hide G0;clear G0 HG;by_cases h1 : r.size ≤ 8
     ·have e1 : decide (8 < r.size) = false := decide_eq_false (by omega);have e1' : decide ((8 : Int) < (r.size : Int)) = false := decide_eq_false (by omega);by_cases j0 : j = 0
      ·have dj : decide (0 < j) = false := decide_eq_false (by omega);have G3 : Hid (stB (prevS ss (j + 1)) (ss.drop (j + 1)) = stB none ss) := hide (by
        have := G1.out;rw [show prevS ss j = none by unfold prevS; rw [if_pos j0]] at this;rw [← this, NXT.out]
        simp [stB, h1])
       clear G1 j0 PRV NXT
       go_wp2
       go_quiet (fail)
       go_wp2
       exact ⟨⟨j + 1, by go_num, by omega, G3, HH, hide (below_drewN HB.out _)⟩, by simp [intOf]; omega⟩
      ·obtain ⟨h, hp, pc⟩ := PRV.out j0;have dj : decide (0 < j) = true := decide_eq_true (by omega);have j1 : 1 ≤ j := by omega
       have G1' := G1.out;rw [hp] at G1';clear PRV hp j0 G1;cases h2 : Op.bytesLess h.toList r.toList
       ·have G3 : Hid (stB none ss = false) := hide (by rw [← G1']; simp [stB, h2]);clear G1' NXT
        go_wp2
        go_quiet (fail)
        go_wp2
        go_ret
        exact ⟨ret_bool (by rw [G3.out]; cases rgB none si <;> rfl), below_drewN HB.out _⟩
       ·have G3 : Hid (stB (prevS ss (j + 1)) (ss.drop (j + 1)) = stB none ss) := hide (by rw [← G1', NXT.out]; simp [stB, h1, h2]);clear G1' NXT
        go_wp2
        go_quiet (fail)
        go_wp2
        exact ⟨⟨j + 1, by go_num, by omega, G3, HH, hide (below_drewN HB.out _)⟩, by simp [intOf]; omega⟩
     ·have e1 : decide (8 < r.size) = true := decide_eq_true (by omega);have e1' : decide ((8 : Int) < (r.size : Int)) = true := decide_eq_true (by omega);have G3 : Hid (stB none ss = false) := hide (by
       rw [← G1.out];cases prevS ss j <;> simp [stB, h1])
      clear G1 PRV NXT
      go_wp2
      go_quiet (fail)
      go_wp2
      go_ret
      exact ⟨ret_bool (by rw [G3.out]; cases rgB none si <;> rfl), below_drewN HB.out _⟩
    ·have hge : (nS : Int) ≤ (j : Int) := by omega
     have G3 : Hid (stB none ss = true) := hide (by
      rw [← HG.out, List.drop_eq_nil_of_le (by have := HnS.out; omega)];cases prevS ss j <;> rfl)
     clear HG
     go_wp2
     go_ret
     exact ⟨ret_bool (by rw [G2.out, G3.out]; rfl), HB.out⟩
end Go.Proofs.YtlmdcaemjaldfaaGreat
namespace Go.Proofs.YtlmdcaemjaldfaaGreat
open Go.RowKit
set_option maxHeartbeats 4000000 in
set_option maxRecDepth 100000 in
theorem rightRanges_any (v : Value) (l : List Rg) (w : World) (hv : RngsAt w v l) :
  Calls Tryz.prog 150 #[v] w fun r w' => r = .returned (.bool (rgB none l)) ∧ Below w.heap.size w w' := by
 obtain ⟨a, c, rfl⟩ := hv.form;have HV := hide hv;have nle := hv.2.1;obtain ⟨N, hN⟩ : ∃ n : Nat, n = l.length := ⟨_, rfl⟩
 rw [← hN] at nle ⊢;have HN := hide hN;clear hv hN;go_enter Tryz.func150, Tryz.ntmps150
 go_wp2
 go_loopw [7] (fun i wr => ∃ k : Nat, i = .int .i64 k ∧ k ≤ N ∧ Hid (rgB (prevR l k) (l.drop k) = rgB none l) ∧ Hid (Below w.heap.size w wr)) (fun i _ => N - (intOf i).toNat)
 case atStart => exact ⟨0, rfl, by omega, hide rfl, hide (Below.refl _ _)⟩
 case round =>
  obtain ⟨k, rfl, hk, HG, HB⟩ := hrel;by_cases hlt : k < N
  ·have hk' : k < l.length := by rw [← HN.out]; exact hlt
   have IW := HV.out.on HB.out;obtain ⟨b, off, rfl, hb, d0, d1⟩ := IW.at.2 k hk';have bd := IW.bound k hk';have G0 := HG.out;rw [drop_getD l k (0, 0) hk'] at G0;have prv : k ≠ 0 → ∃ q : Rg, prevR l k = some q.2 ∧ wr.cell? ⟨b, off + (k - 1) * 2, none⟩ = some (.int .i64 q.1) ∧ wr.cell? ⟨b, off + (k - 1) * 2 + 1, none⟩ = some (.int .i64 q.2) ∧ -9223372036854775808 ≤ q.2 ∧ q.2 ≤ 9223372036854775807 := fun h0 => by
    obtain ⟨b', off', ha, _, e0, e1⟩ := IW.at.2 (k - 1) (by omega);obtain ⟨_, _, r2, r3⟩ := IW.bound (k - 1) (by omega)
    simp at ha
    obtain ⟨rfl, rfl⟩ := ha;exact ⟨_, by unfold prevR; rw [if_neg h0], e0, e1, r2, r3⟩
   have PRV := hide prv;have NXT : Hid (prevR l (k + 1) = some (l.getD k (0, 0)).2) := hide (by unfold prevR; rw [if_neg (by omega)]; rfl);generalize l.getD k (0, 0) = r at *;have G1 := hide G0;clear IW prv G0 HG;have n0 := cell_heap (heap_new wr (Obj.cells #[Value.int IntKind.i64 r.1, Value.int IntKind.i64 r.2] 114)) 0;have n1 := cell_heap (heap_new wr (Obj.cells #[Value.int IntKind.i64 r.1, Value.int IntKind.i64 r.2] 114)) 1;simp only [List.getElem?_toArray, List.getElem?_cons_zero, List.getElem?_cons_succ] at n0 n1;have B5 := hide (HB.out.alloc HB.out.size (Obj.cells #[Value.int IntKind.i64 r.1, Value.int IntKind.i64 r.2] 114));have C5 := fun {o : Nat} => ((Below.refl _ wr).alloc (Nat.le_refl _) (Obj.cells #[Value.int IntKind.i64 r.1, Value.int IntKind.i64 r.2] 114)).cell (p := ⟨b, o, none⟩) hb
   by_cases h1 : r.1 ≤ r.2
   ·have e1 : decide (r.2 < r.1) = false := decide_eq_false (by omega);by_cases k0 : k = 0
    ·have dk : decide (0 < k) = false := decide_eq_false (by omega);have G2 : Hid (rgB (prevR l (k + 1)) (l.drop (k + 1)) = rgB none l) := hide (by
      have := G1.out;rw [show prevR l k = none by unfold prevR; rw [if_pos k0]] at this;rw [← this, NXT.out]
      simp [rgB, h1])
     clear G1 PRV NXT C5 k0
     go_wp2
     clear d0 d1
     go_quiet (fail)
     go_wp2
     exact ⟨⟨k + 1, by go_num, by omega, G2, hide (below_drewN B5.out _)⟩, by simp [intOf]; omega⟩
    ·obtain ⟨q, hp, pc0, pc1, p0, p1⟩ := PRV.out k0;have x0 := C5.trans pc0;have x1 := C5.trans pc1;have HX := fun (W : World) => hide (apart_any q r W bd.1 bd.2.1 p0)
     have dk : decide (0 < k) = true := decide_eq_true (by omega);have k1 : 1 ≤ k := by omega
     have G1' := G1.out;rw [hp] at G1';have HG1 := hide G1';clear PRV hp k0 G1 G1' C5 pc0 pc1
     go_wp2
     generalize wr.alloc (Obj.cells #[Value.int IntKind.i64 r.1, Value.int IntKind.i64 r.2] 114) = w5 at *;clear d0 d1;have X := fun (d : Nat) (os : Array Obj) => hide (Calls.regrown_of (HX (Sort.grow (redrawn w5 d) os)).out)
     have p0' := cell_regrown n0;have p1' := cell_regrown n1;have p2' := cell_regrown x0;have p3' := cell_regrown x1;clear HX;refine wp_region_quiet_below mixed (by kernel_rfl) ?_
     repeat (first | go_big_quiet_step (exact unhide (X _ _)) | quiet_step (exact unhide (X _ _)))
     refine wpQuiet_nil ?_;intro _ hw';obtain ⟨⟨dq, osq⟩, hw''⟩ := hw';subst hw'';have bq := below_regrown w5 dq osq;have B6 := hide (B5.out.trans (bq.mono B5.out.size));clear p0' p1' p2' p3' X x0 x1 n0 n1 B5 bq bd;dsimp only;generalize Sort.grow (redrawn w5 dq) osq = w6 at B6 ⊢;by_cases hap : q.2 + 1 < r.1
     ·have da : decide (q.2 + 1 < r.1) = true := decide_eq_true hap;have G2 : Hid (rgB (prevR l (k + 1)) (l.drop (k + 1)) = rgB none l) := hide (by
       rw [← HG1.out, NXT.out]
       simp [rgB, h1, hap])
      simp only [da, Bool.not_true]
      go_wp2
      exact ⟨⟨k + 1, by go_num, by omega, G2, B6⟩, by simp [intOf]; omega⟩
     ·have da : decide (q.2 + 1 < r.1) = false := decide_eq_false hap;have G2 : Hid (rgB none l = false) := hide (by
       rw [← HG1.out]
       simp [rgB]
       intro _ h;exact absurd h hap)
      simp only [da, Bool.not_false]
      go_wp2
      go_ret
      exact ⟨ret_bool G2.out.symm, B6.out⟩
   ·have e1 : decide (r.2 < r.1) = true := decide_eq_true (by omega);have G2 : Hid (rgB none l = false) := hide (by
     rw [← G1.out];cases prevR l k <;> simp [rgB] <;> intro h <;> omega)
    clear G1 PRV NXT C5
    go_wp2
    clear d0 d1
    go_quiet (fail)
    go_wp2
    go_ret
    exact ⟨ret_bool G2.out.symm, below_drewN B5.out _⟩
  ·have hge : decide ((k : Int) < (N : Int)) = false := by simp; omega
   have G2 : Hid (rgB none l = true) := hide (by
    rw [← HG.out, List.drop_eq_nil_of_le (by have := HN.out; omega)];cases prevR l k <;> rfl)
   go_wp2
   go_ret
   exact ⟨ret_bool G2.out.symm, HB.out⟩
set_option maxHeartbeats 4000000 in
set_option maxRecDepth 100000 in
theorem rightStrings_any (v : Value) (ss : List ByteArray) (w : World) (hv : StrsAt w v ss) :
  Calls Tryz.prog 151 #[v] w fun r w' => r = .returned (.bool (stB none ss)) ∧ Below w.heap.size w w' := by
 obtain ⟨a, c, rfl⟩ := hv.form;have HS := hide hv;have nle := hv.2.1;obtain ⟨nS, hnS⟩ : ∃ n : Nat, n = ss.length := ⟨_, rfl⟩
 rw [← hnS] at nle ⊢;have HnS := hide hnS;clear hv hnS;go_enter Tryz.func151, Tryz.ntmps151
 go_wp2
 go_loopw [7] (fun i wr => ∃ k : Nat, i = .int .i64 k ∧ k ≤ nS ∧ Hid (stB (prevS ss k) (ss.drop k) = stB none ss) ∧ Hid (Below w.heap.size w wr)) (fun i _ => nS - (intOf i).toNat)
 case atStart => exact ⟨0, rfl, by omega, hide rfl, hide (Below.refl _ _)⟩
 case round =>
  obtain ⟨j, rfl, hj, HG, HB⟩ := hrel;by_cases hlt : j < nS
  ·have IW := HS.out.on HB.out;have hj' : j < ss.length := by rw [← HnS.out]; exact hlt
   obtain ⟨b, off, rfl, hb, d0⟩ := IW.at.2 j hj';have q0 := IW.bound j hj';have G0 := HG.out;rw [drop_getD ss j ⟨#[]⟩ hj'] at G0;have prv : j ≠ 0 → ∃ h : ByteArray, prevS ss j = some h ∧ wr.cell? ⟨b, off + (j - 1), none⟩ = some (.string h) := fun h0 => by
    obtain ⟨b', off', ha, _, e1⟩ := IW.at.2 (j - 1) (by omega)
    simp at ha
    obtain ⟨rfl, rfl⟩ := ha;exact ⟨_, by unfold prevS; rw [if_neg h0], e1⟩
   have PRV := hide prv;have nxt : prevS ss (j + 1) = some (ss.getD j ⟨#[]⟩) := by unfold prevS; rw [if_neg (by omega)]; rfl
   have NXT := hide nxt;generalize ss.getD j ⟨#[]⟩ = r at *;clear IW prv nxt;have G1 := hide G0;clear G0 HG;by_cases h1 : r.size ≤ 8
   ·have e1 : decide (8 < r.size) = false := decide_eq_false (by omega);have e1' : decide ((8 : Int) < (r.size : Int)) = false := decide_eq_false (by omega);by_cases j0 : j = 0
    ·have dj : decide (0 < j) = false := decide_eq_false (by omega);have G3 : Hid (stB (prevS ss (j + 1)) (ss.drop (j + 1)) = stB none ss) := hide (by
      have := G1.out;rw [show prevS ss j = none by unfold prevS; rw [if_pos j0]] at this;rw [← this, NXT.out]
      simp [stB, h1])
     clear G1 j0 PRV NXT
     go_wp2
     exact ⟨⟨j + 1, by go_num, by omega, G3, HB⟩, by simp [intOf]; omega⟩
    ·obtain ⟨h, hp, pc⟩ := PRV.out j0;have dj : decide (0 < j) = true := decide_eq_true (by omega);have j1 : 1 ≤ j := by omega
     have G1' := G1.out;rw [hp] at G1';clear PRV hp j0 G1;cases h2 : Op.bytesLess h.toList r.toList
     ·have G3 : Hid (stB none ss = false) := hide (by rw [← G1']; simp [stB, h2]);clear G1' NXT
      go_wp2
      go_ret
      exact ⟨ret_bool G3.out.symm, HB.out⟩
     ·have G3 : Hid (stB (prevS ss (j + 1)) (ss.drop (j + 1)) = stB none ss) := hide (by rw [← G1', NXT.out]; simp [stB, h1, h2]);clear G1' NXT
      go_wp2
      exact ⟨⟨j + 1, by go_num, by omega, G3, HB⟩, by simp [intOf]; omega⟩
   ·have e1 : decide (8 < r.size) = true := decide_eq_true (by omega);have e1' : decide ((8 : Int) < (r.size : Int)) = true := decide_eq_true (by omega);have G3 : Hid (stB none ss = false) := hide (by
     rw [← G1.out];cases prevS ss j <;> simp [stB, h1])
    clear G1 PRV NXT
    go_wp2
    go_ret
    exact ⟨ret_bool G3.out.symm, HB.out⟩
  ·have hge : (nS : Int) ≤ (j : Int) := by omega
   have G3 : Hid (stB none ss = true) := hide (by
    rw [← HG.out, List.drop_eq_nil_of_le (by have := HnS.out; omega)];cases prevS ss j <;> rfl)
   clear HG
   go_wp2
   go_ret
   exact ⟨ret_bool G3.out.symm, HB.out⟩
set_option maxHeartbeats 4000000 in
set_option maxRecDepth 100000 in
theorem setRight_any (v : Value) (S : SetV) (w : World) (hv : SetAt w v S) :
  Calls Tryz.prog 129 #[v] w fun r w' => r = .returned (.bool (rightSet S)) ∧ Below w.heap.size w w' := by
 obtain ⟨vi, vs, rfl, hI, hS⟩ := hv;have HI := hide hI;have HS := hide hS;obtain ⟨ai, ci, rfl⟩ := hI.form;obtain ⟨aq, cq, rfl⟩ := hS.form;have B0 := fun (o : Obj) => hide ((Below.refl _ w).alloc (Nat.le_refl _) o)
 unfold rightSet;cases e1 : rgB none S.ints
 ·have X := fun (o : Obj) => hide (rightRanges_any _ _ _ (HI.out.on (B0 o).out))
  clear HI HS hI hS;go_enter Tryz.func129, Tryz.ntmps129
  go_wp2_with fail
  refine (unhide (X _)).mono ?_;rintro r w1 ⟨rfl, b1⟩;have B1 := hide ((B0 _).out.trans (b1.mono (B0 _).out.size));rw [e1];clear X B0 b1
  go_wp2
  go_ret
  exact ⟨rfl, B1.out⟩
 ·have X := fun (o : Obj) => hide (rightRanges_any _ _ _ (HI.out.on (B0 o).out))
  have Y := fun (W : World) (b : Below w.heap.size w W) => hide (rightStrings_any _ _ _ (HS.out.on b))
  clear HI HS hI hS;go_enter Tryz.func129, Tryz.ntmps129
  go_wp2_with fail
  refine (unhide (X _)).mono ?_;rintro r w1 ⟨rfl, b1⟩;have B1 := hide ((B0 _).out.trans (b1.mono (B0 _).out.size));have hE1 := (b1.block w.heap.size (by simp)).trans (heap_new w _);have c3 := cell_heap hE1 3;simp only [List.getElem?_toArray, List.getElem?_cons_zero, List.getElem?_cons_succ] at c3;rw [e1];clear X B0 b1 hE1
  go_wp2_with fail
  refine (unhide (Y _ B1.out)).mono ?_;rintro r w2 ⟨rfl, b2⟩;have B2 := hide (B1.out.trans (b2.mono B1.out.size));clear Y b2 B1 c3
  go_wp2
  go_ret
  exact ⟨rfl, B2.out⟩
set_option maxHeartbeats 4000000 in
set_option maxRecDepth 100000 in
theorem small_any (v : Value) (S : SetV) (w : World) (hv : SetAt w v S) :
  Calls Tryz.prog 128 #[v] w fun r w' => r = .returned (.bool (decide (S.ints.length ≤ 6) && decide (S.strs.length ≤ 6))) ∧ Below w.heap.size w w' := by
 obtain ⟨vi, vs, rfl, hI, hS⟩ := hv;obtain ⟨ai, ci, rfl⟩ := hI.form;obtain ⟨aq, cq, rfl⟩ := hS.form;have B0 := fun (o : Obj) => hide ((Below.refl _ w).alloc (Nat.le_refl _) o)
 have n1 := hI.2.1;have n2 := hS.2.1;clear hI hS;generalize S.ints.length = a at *;generalize S.strs.length = b at *;by_cases h1 : a ≤ 6
 ·have e1 : decide ((a : Int) ≤ 6) = true := decide_eq_true (by omega);have e1' : decide (a ≤ 6) = true := decide_eq_true h1;go_enter Tryz.func128, Tryz.ntmps128
  go_wp2
  go_ret
  exact ⟨ret_bool (by rw [e1', Bool.true_and]; exact decide_eq_decide.2 (by omega)), (B0 _).out⟩
 ·have e1 : decide ((a : Int) ≤ 6) = false := decide_eq_false (by omega);have e1' : decide (a ≤ 6) = false := decide_eq_false h1;go_enter Tryz.func128, Tryz.ntmps128
  go_wp2
  go_ret
  exact ⟨ret_bool (by rw [e1', Bool.false_and]), (B0 _).out⟩
end Go.Proofs.YtlmdcaemjaldfaaGreat
namespace Go.Proofs.YtlmdcaemjaldfaaGreat
open Go.RowKit
def evObj (e : EvV) : Obj := Obj.cells #[.int .i64 e.v0.1, .int .i64 e.v0.2.1, .string e.v0.2.2, .int .i64 e.v1.1, .int .i64 e.v1.2.1, .string e.v1.2.2, .int .i64 e.v2.1, .int .i64 e.v2.2.1, .string e.v2.2.2, .int .i64 e.v3.1, .int .i64 e.v3.2.1, .string e.v3.2.2] 44
end Go.Proofs.YtlmdcaemjaldfaaGreat
namespace Go.Proofs.YtlmdcaemjaldfaaGreat
open Go.RowKit
structure Kept (m : Nat) (w w' : World) : Prop where
 size : w.heap.size ≤ w'.heap.size
 block : ∀ g, m ≤ g → g < w.heap.size → w'.heap[g]? = w.heap[g]?
theorem Kept.refl (m : Nat) (w : World) : Kept m w w := ⟨Nat.le_refl _, fun _ _ _ => rfl⟩
theorem Kept.ofBelow {m : Nat} {w w' : World} (h : Below w.heap.size w w') : Kept m w w' := ⟨h.size, fun g _ hg => h.block g hg⟩
theorem Kept.trans {m : Nat} {w w' w'' : World} (h : Kept m w w') (k : Kept m w' w'') : Kept m w w'' := ⟨Nat.le_trans h.size k.size, fun g hm hg => (k.block g hm (Nat.lt_of_lt_of_le hg h.size)).trans (h.block g hm hg)⟩
theorem Kept.mono {m m' : Nat} {w w' : World} (h : Kept m w w') (hm : m ≤ m') : Kept m' w w' := ⟨h.size, fun g hg => h.block g (Nat.le_trans hm hg)⟩
theorem ownsRow_kept {w w' : World} {B : Nat} {e : TypeId} {size : Nat} {v : Value} {n : Nat} {xs : List Value} (h : w.ownsRow B e size v n xs) (hk : Kept B w w') : w'.ownsRow B e size v n xs := by
 refine ⟨h.1, ?_⟩;rcases h.2 with h2 | ⟨g, cap, cur, e1, hg, hc, hr⟩
 ·exact Or.inl h2
 ·exact Or.inr ⟨g, cap, cur, e1, hg, (hk.block g hg (Array.getElem?_eq_some_iff.1 hc).1).trans hc, hr⟩
theorem soft_heap {w : World} {g : Nat} {cs : Array Value} {t : TypeId} (h : w.heap[g]? = some (.cells cs t (0, 0))) (i : Nat) : w.frozen? ⟨g, i, none⟩ = false := by
 unfold World.frozen?;rw [h]
 simp
theorem ownsRow_form {w : World} {B : Nat} {e : TypeId} {size : Nat} {v : Value} {n : Nat} {xs : List Value} (h : w.ownsRow B e size v n xs) : ∃ p c, v = .slice p n c ∧ n ≤ c ∧ c ≤ maxLen ∧ (p = none → n = 0 ∧ c = 0) := by
 rcases h.2 with ⟨rfl, rfl⟩ | ⟨g, cap, cur, rfl, _, _, h1, h2, _⟩
 ·exact ⟨none, 0, rfl, Nat.le_refl _, by unfold maxLen; omega, fun _ => ⟨rfl, rfl⟩⟩
 ·exact ⟨_, cap, rfl, h1, h2, fun e => by cases e⟩
theorem ownsRow_cell {w : World} {B : Nat} {e : TypeId} {size : Nat} {g n c : Nat} {xs : List Value} (h : w.ownsRow B e size (.slice (some ⟨g, 0, none⟩) n c) n xs) (i : Nat) (u : Value) (hi : xs[i]? = some u) : w.cell? ⟨g, i, none⟩ = some u := by
 rcases h.2 with ⟨h0, _⟩ | ⟨g', cap, cur, e1, _, hc, _, _, _, ht⟩
 ·cases h0
 ·injection e1 with e1 _ _
  injection e1 with e1
  injection e1 with e1 _ _
  subst e1;have hl : i < n * size := by rw [← h.1]; exact (List.getElem?_eq_some_iff.1 hi).1
  rw [cell_heap hc, ← hi, ← ht, List.getElem?_take, if_pos hl]
  simp
theorem cInfoR : (Tryz.prog.info? 114).map (fun i => (i.zero, i.size, i.bytes)) = some (some (.agg #[.int .i64 0, .int .i64 0]), 2, 16) := by kernel_rfl
theorem cInfoS : (Tryz.prog.info? 9).map (fun i => (i.zero, i.size, i.bytes)) = some (some (.string ⟨#[]⟩), 1, 16) := by kernel_rfl
end Go.Proofs.YtlmdcaemjaldfaaGreat
namespace Go.Proofs.YtlmdcaemjaldfaaGreat
open Go.RowKit
def stObj (s : SC) : Obj := Obj.cells #[.bool s.a, .slice s.p s.n s.c, .bool s.d, .slice s.q s.m s.e] 25
theorem stCells {w : World} {g : Nat} {t : TypeId} {x0 x1 x2 x3 : Value} (h : w.heap[g]? = some (.cells #[x0, x1, x2, x3] t (0, 0))) : w.cell? ⟨g, 0, none⟩ = some x0 ∧ w.cell? ⟨g, 1, none⟩ = some x1 ∧ w.cell? ⟨g, 2, none⟩ = some x2 ∧ w.cell? ⟨g, 3, none⟩ = some x3 :=
 ⟨cell_heap h 0, cell_heap h 1, cell_heap h 2, cell_heap h 3⟩
theorem infoSet4 : (Tryz.prog.info? 25).map (·.size) = some 4 := by kernel_rfl
end Go.Proofs.YtlmdcaemjaldfaaGreat
namespace Go.Proofs.YtlmdcaemjaldfaaGreat
open Go.RowKit
section
variable {ops : Array Oper} {Q : Exit → Act → World → Prop} {S : World → Prop} {o : Oper} {a : Act}
theorem yl_move (hw : Region.wanted o (yielded ops a.tmps) = true) (x : Operand) (ho : o.op = .move x) (v : Value) (hx : a.eval x = v) : YieldsIf Tryz.prog ops S o v a :=
 Or.inl ⟨hw, fun w _ => by simp [execOp, ho, hx]⟩
theorem yl_assign (hw : Region.wanted o (yielded ops a.tmps) = true) (x : Operand) (ho : o.op = .assign x) (v : Value) (hx : a.eval x = v) : YieldsIf Tryz.prog ops S o v a :=
 Or.inl ⟨hw, fun w _ => by simp [execOp, ho, hx]⟩
theorem yl_not (hw : Region.wanted o (yielded ops a.tmps) = true) (t : TypeId) (x : Operand) (ho : o.op = .unOp .not t x) (b : Bool) (hx : a.eval x = .bool b) : YieldsIf Tryz.prog ops S o (.bool (!b)) a :=
 Or.inl ⟨hw, fun w _ => by simp [execOp, ho, hx]; go_simp⟩
theorem yl_pickT (hw : Region.wanted o (yielded ops a.tmps) = true) (c x y : Operand) (ho : o.op = .pick c x y) (hc : a.eval c = .bool true) (v : Value) (hx : a.eval x = v) : YieldsIf Tryz.prog ops S o v a :=
 Or.inl ⟨hw, fun w _ => by simp [execOp, ho, hc, hx]; go_simp⟩
theorem yl_pickF (hw : Region.wanted o (yielded ops a.tmps) = true) (c x y : Operand) (ho : o.op = .pick c x y) (hc : a.eval c = .bool false) (v : Value) (hx : a.eval y = v) : YieldsIf Tryz.prog ops S o v a :=
 Or.inl ⟨hw, fun w _ => by simp [execOp, ho, hc, hx]; go_simp⟩
theorem yl_undef (hw : Region.wanted o (yielded ops a.tmps) = false) : YieldsIf Tryz.prog ops S o undef a := Or.inr ⟨hw, rfl⟩
theorem run_call {f : Nat} {fn : Func} (hf : Tryz.prog.funcs[f]? = some fn) (hn : (fn.name == "runtime.NumGoroutine") = false) (hb : fn.body.isNone = false) (W : World) (A : Array Value) : (callFunc f A).run Tryz.prog W = .ok (.enter f A) W := by
 simp [callFunc, go_sem, hf, -beq_iff_eq, -Option.isNone_iff_eq_none, hn, hb]
theorem held_call {md : Region.Mode} {fuel : Nat} {listed : Array Bool} {w : World} (i : Nat) (hr : Region.ready md ops listed = [i]) (hi : ops[i]? = some o) (hw : Region.wanted o (yielded ops a.tmps) = true)
  (f : Nat) (xs : Array Operand) (ts : Array TypeId) (ho : o.op = .call { callee := .value (.func f), args := xs, argTypes := ts }) (vs : Array Value) (hv : xs.toList.map a.eval = vs.toList)
  (hrun : ∀ (W : World) (A : Array Value), (callFunc f A).run Tryz.prog W = .ok (.enter f A) W)
  (hc : Calls Tryz.prog f vs w fun r w' => ∃ v, r = .returned v ∧ S w' ∧ (S w' → wpAnyH Tryz.prog md ops Q S fuel (listed.setIfInBounds i true) (a.put o.dst v) w')) :
  wpAnyH Tryz.prog md ops Q S (fuel + 1) listed a w := by
 refine wpAnyH_all hr (by simp) ?_;intro j hj
 simp at hj
 subst hj;unfold wpOp;simp only [hi];rw [if_pos hw];refine Or.inl ?_;have hv : xs.map a.eval = vs := by
  rw [← Array.toList_inj, Array.toList_map];exact hv
 have he : a.eval (.func f) = .func (.func f) #[] #[] := rfl;have hx : (execOp a.eval o).run Tryz.prog w = .ok (.enter f vs) w := by
  have := hrun w vs
  simp [execOp, ho, resolve, he, hv, Deferred.ofValue, invoke, this]
 unfold Oper.wp;rw [hx, Oper.upon_enter];refine hc.mono ?_;rintro e w' ⟨v, rfl, h1, h2⟩;exact ⟨h1, h2 h1⟩
theorem wl_yield {rest : List Oper} {w : World} (v : Value) (hy : YieldsIf Tryz.prog ops (fun x => x = w) o v a) (h : wpList Tryz.prog ops Q rest (a.put o.dst v) w) : wpList Tryz.prog ops Q (o :: rest) a w := by
 unfold wpList;rcases hy with ⟨hw, hv⟩ | ⟨hw, rfl⟩
 ·rw [if_pos hw]
  left
  unfold Oper.wp;rw [hv w rfl];exact h
 ·rw [if_neg (by rw [hw]; simp)];exact h
theorem wl_run {rest : List Oper} {w : World} (hw : Region.wanted o (yielded ops a.tmps) = true) (v : Value) (w' : World) (hr : (execOp a.eval o).run Tryz.prog w = .ok (.value v) w') (h : wpList Tryz.prog ops Q rest (a.put o.dst v) w') : wpList Tryz.prog ops Q (o :: rest) a w := by
 unfold wpList;rw [if_pos hw]
 left
 unfold Oper.wp;rw [hr];exact h
theorem wl_skip {rest : List Oper} {w : World} (hw : Region.wanted o (yielded ops a.tmps) = true) (w' : World) (hr : (execOp a.eval o).run Tryz.prog w = .ok .skip w') (h : wpList Tryz.prog ops Q rest (a.put o.dst undef) w') : wpList Tryz.prog ops Q (o :: rest) a w := by
 unfold wpList;rw [if_pos hw]
 left
 unfold Oper.wp;rw [hr];exact h
theorem wl_call {rest : List Oper} {w : World} (hw : Region.wanted o (yielded ops a.tmps) = true)
  (f : Nat) (xs : Array Operand) (ts : Array TypeId) (ho : o.op = .call { callee := .value (.func f), args := xs, argTypes := ts }) (vs : Array Value) (hv : xs.toList.map a.eval = vs.toList)
  (hrun : ∀ (W : World) (A : Array Value), (callFunc f A).run Tryz.prog W = .ok (.enter f A) W)
  (hc : Calls Tryz.prog f vs w fun r w' => ∃ v, r = .returned v ∧ wpList Tryz.prog ops Q rest (a.put o.dst v) w') : wpList Tryz.prog ops Q (o :: rest) a w := by
 unfold wpList;rw [if_pos hw]
 left
 have hv : xs.map a.eval = vs := by
  rw [← Array.toList_inj, Array.toList_map];exact hv
 have he : a.eval (.func f) = .func (.func f) #[] #[] := rfl;have hx : (execOp a.eval o).run Tryz.prog w = .ok (.enter f vs) w := by
  have := hrun w vs
  simp [execOp, ho, resolve, he, hv, Deferred.ofValue, invoke, this]
 unfold Oper.wp;rw [hx, Oper.upon_enter];refine hc.mono ?_;rintro e w' ⟨v, rfl, h1⟩;exact h1
end
end Go.Proofs.YtlmdcaemjaldfaaGreat
namespace Go.Proofs.YtlmdcaemjaldfaaGreat
open Go.RowKit
section
variable {ops : Array Oper} {Q : Exit → Act → World → Prop} {S : World → Prop} {o : Oper} {a : Act}
set_option maxHeartbeats 1000000 in
set_option maxRecDepth 100000 in
theorem yl_set (hw : Region.wanted o (yielded ops a.tmps) = true) (x : Operand) (ho : o.op = .load 25 x) (g : Nat) (k : Nat) (hx : a.eval x = .pointer (some ⟨g, k, none⟩)) (x0 x1 x2 x3 : Value)
  (h : ∀ w, S w → w.cell? ⟨g, k, none⟩ = some x0 ∧ w.cell? ⟨g, k + 1, none⟩ = some x1 ∧ w.cell? ⟨g, k + 2, none⟩ = some x2 ∧ w.cell? ⟨g, k + 3, none⟩ = some x3) : YieldsIf Tryz.prog ops S o (.agg #[x0, x1, x2, x3]) a :=
 Or.inl ⟨hw, fun w hS => by
  obtain ⟨c0, c1, c2, c3⟩ := h w hS;simp only [execOp, ho, hx];go_simp⟩
set_option maxHeartbeats 1000000 in
set_option maxRecDepth 100000 in
theorem yl_val (hw : Region.wanted o (yielded ops a.tmps) = true) (x : Operand) (ho : o.op = .load 42 x) (g : Nat) (k : Nat) (hx : a.eval x = .pointer (some ⟨g, k, none⟩)) (x0 x1 x2 : Value)
  (h : ∀ w, S w → w.cell? ⟨g, k, none⟩ = some x0 ∧ w.cell? ⟨g, k + 1, none⟩ = some x1 ∧ w.cell? ⟨g, k + 2, none⟩ = some x2) : YieldsIf Tryz.prog ops S o (.agg #[x0, x1, x2]) a :=
 Or.inl ⟨hw, fun w hS => by
  obtain ⟨c0, c1, c2⟩ := h w hS;simp only [execOp, ho, hx];go_simp⟩
set_option maxHeartbeats 1000000 in
set_option maxRecDepth 100000 in
theorem yl_ev (hw : Region.wanted o (yielded ops a.tmps) = true) (x : Operand) (ho : o.op = .load 44 x) (g : Nat) (k : Nat) (hx : a.eval x = .pointer (some ⟨g, k, none⟩)) (x0 x1 x2 x3 x4 x5 x6 x7 x8 x9 x10 x11 : Value)
  (h : ∀ w, S w → w.cell? ⟨g, k, none⟩ = some x0 ∧ w.cell? ⟨g, k + 1, none⟩ = some x1 ∧ w.cell? ⟨g, k + 2, none⟩ = some x2 ∧ w.cell? ⟨g, k + 3, none⟩ = some x3 ∧ w.cell? ⟨g, k + 4, none⟩ = some x4 ∧ w.cell? ⟨g, k + 5, none⟩ = some x5 ∧ w.cell? ⟨g, k + 6, none⟩ = some x6 ∧ w.cell? ⟨g, k + 7, none⟩ = some x7 ∧ w.cell? ⟨g, k + 8, none⟩ = some x8 ∧ w.cell? ⟨g, k + 9, none⟩ = some x9 ∧ w.cell? ⟨g, k + 10, none⟩ = some x10 ∧ w.cell? ⟨g, k + 11, none⟩ = some x11) : YieldsIf Tryz.prog ops S o (.agg #[x0, x1, x2, x3, x4, x5, x6, x7, x8, x9, x10, x11]) a :=
 Or.inl ⟨hw, fun w hS => by
  obtain ⟨c0, c1, c2, c3, c4, c5, c6, c7, c8, c9, c10, c11⟩ := h w hS;simp only [execOp, ho, hx];go_simp⟩
set_option maxHeartbeats 1000000 in
set_option maxRecDepth 100000 in
theorem yl_atEv (hw : Region.wanted o (yielded ops a.tmps) = true) (x y : Operand) (ho : o.op = .indexAddr 44 x y) (g : Nat) (i : Nat) (hx : a.eval x = .pointer (some ⟨g, 0, none⟩)) (hy : a.eval y = .int .i64 i) (hi : i < 4) : YieldsIf Tryz.prog ops S o (.pointer (some ⟨g, i * 3, none⟩)) a :=
 Or.inl ⟨hw, fun w hS => by
  simp only [execOp, ho, hx, hy]
  match i, hi with
  | 0, _ => go_simp
  | 1, _ => go_simp
  | 2, _ => go_simp
  | 3, _ => go_simp⟩
theorem yl_eqI (hw : Region.wanted o (yielded ops a.tmps) = true) (x y : Operand) (t : TypeId) (ho : o.op = .binOp .eql 3 x y t) (p q : Int) (hx : a.eval x = .int .i64 p) (hy : a.eval y = .int .i64 q) : YieldsIf Tryz.prog ops S o (.bool (p == q)) a :=
 Or.inl ⟨hw, fun w hS => by
  simp only [execOp, ho, hx, hy];go_simp⟩
end
end Go.Proofs.YtlmdcaemjaldfaaGreat
namespace Go.Proofs.YtlmdcaemjaldfaaGreat
open Go.RowKit
section
variable {ops : Array Oper} {Q : Exit → Act → World → Prop} {S : World → Prop} {o : Oper} {a : Act}
theorem yl_lssI (hw : Region.wanted o (yielded ops a.tmps) = true) (x y : Operand) (t : TypeId) (ho : o.op = .binOp .lss 3 x y t) (p q : Int) (r : Bool) (hx : a.eval x = .int .i64 p) (hy : a.eval y = .int .i64 q) (hr : decide (p < q) = r) : YieldsIf Tryz.prog ops S o (.bool r) a :=
 Or.inl ⟨hw, fun w hS => by
  subst hr;simp only [execOp, ho, hx, hy];go_simp⟩
theorem yl_gtrI (hw : Region.wanted o (yielded ops a.tmps) = true) (x y : Operand) (t : TypeId) (ho : o.op = .binOp .gtr 3 x y t) (p q : Int) (r : Bool) (hx : a.eval x = .int .i64 p) (hy : a.eval y = .int .i64 q) (hr : decide (q < p) = r) : YieldsIf Tryz.prog ops S o (.bool r) a :=
 Or.inl ⟨hw, fun w hS => by
  subst hr;simp only [execOp, ho, hx, hy];go_simp⟩
theorem yl_leqI (hw : Region.wanted o (yielded ops a.tmps) = true) (x y : Operand) (t : TypeId) (ho : o.op = .binOp .leq 3 x y t) (p q : Int) (r : Bool) (hx : a.eval x = .int .i64 p) (hy : a.eval y = .int .i64 q) (hr : decide (p ≤ q) = r) : YieldsIf Tryz.prog ops S o (.bool r) a :=
 Or.inl ⟨hw, fun w hS => by
  subst hr;simp only [execOp, ho, hx, hy];go_simp⟩
theorem yl_extract0 (hw : Region.wanted o (yielded ops a.tmps) = true) (x : Operand) (ho : o.op = .extract x 0) (p q : Value) (hx : a.eval x = .tuple #[p, q]) : YieldsIf Tryz.prog ops S o p a :=
 Or.inl ⟨hw, fun w hS => by
  simp only [execOp, ho, hx];go_simp⟩
theorem yl_extract1 (hw : Region.wanted o (yielded ops a.tmps) = true) (x : Operand) (ho : o.op = .extract x 1) (p q : Value) (hx : a.eval x = .tuple #[p, q]) : YieldsIf Tryz.prog ops S o q a :=
 Or.inl ⟨hw, fun w hS => by
  simp only [execOp, ho, hx];go_simp⟩
end
end Go.Proofs.YtlmdcaemjaldfaaGreat
namespace Go.Proofs.YtlmdcaemjaldfaaGreat
open Go.RowKit
theorem size_setCells (b : Nat) : ∀ (vs : List Value) (o : Nat) (w : World), (w.setCells b o vs).heap.size = w.heap.size
 | [], _, _ => rfl
 | v :: r, o, w => by
  rw [World.setCells, size_setCells b r (o + 1)]
  simp
theorem Below.setCells {B : Nat} {w0 : World} (b : Nat) (hb : B ≤ b) : ∀ (vs : List Value) (o : Nat) (w : World), Below B w0 w → Below B w0 (w.setCells b o vs)
 | [], _, _, h => h
 | v :: r, o, w, h => by
  rw [World.setCells];exact Below.setCells b hb r (o + 1) _ (h.setCell (p := ⟨b, o, none⟩) hb v)
end Go.Proofs.YtlmdcaemjaldfaaGreat
namespace Go.Proofs.YtlmdcaemjaldfaaGreat
open Go.RowKit
theorem infoByte : (Tryz.prog.info? 5).map (fun i => (i.zero, i.size, i.bytes)) = some (some (.int .u8 0), 1, 1) := by kernel_rfl
def Own (w : World) (B : Nat) (v : Value) (l : List UInt8) : Prop := w.ownsRow B 5 1 v l.length (Lib.byteCells l)
theorem Own.alloc {w : World} {B : Nat} {v : Value} {l : List UInt8} (h : Own w B v l) (o : Obj) : Own (w.alloc o) B v l := World.ownsRow.alloc h o
theorem Own.grownB {w w' : World} {B : Nat} {v : Value} {l : List UInt8} (h : Own w B v l) (hB : B ≤ w.heap.size) (hg : w.grownBy w' v.ownBlock) : Below B w w' :=
 (Below.refl _ _).grown hg hB (fun k hk => (World.ownsRow.lt h k hk).1)
theorem wpList_app {ops : Array Oper} {rest : List Oper} {o : Oper} {a : Act} {Q : Exit → Act → World → Prop} (w : World) (hgd : o.guard = none) (s x : Operand)
  (ho : o.op = .call { callee := .builtin .append, args := #[s, x], argTypes := #[94, 94] })
  (B : Nat) (v : Value) (l : List UInt8) (hs : a.eval s = v) (hown : Own w B v l) (g m c : Nat) (cs : Array Value) (news : List UInt8) (hm : news.length = m)
  (hx : a.eval x = .slice (some ⟨g, 0, none⟩) m c) (hb : w.heap[g]? = some (.cells cs 5 (0, 0))) (hcs : cs.toList = Lib.byteCells news) (hlen : l.length + m ≤ 1099511627776) (hB : B ≤ w.heap.size)
  (h : ∀ v' w', Own w' B v' (l ++ news) → Below B w w' → wpList Tryz.prog ops Q rest (a.put o.dst v') w') : wpList Tryz.prog ops Q (o :: rest) a w := by
 obtain ⟨i0, hi, hz0, hz1, hz2⟩ := info_parts infoByte;have hown' : w.ownsRow B 5 1 v l.length (Lib.byteCells l) := hown;refine wpList_append_own w hgd s x 94 ho B 5 i0 (.int .u8 0) 1 1 Tryz.underlying94 hi hz0 hz1 hz2 rfl (by decide) v l.length (Lib.byteCells l) hs hown' ⟨g, 0, none⟩ m c (Lib.byteCells news) hx (by simp [Lib.byteCells, hm]) ?_ (cells_one _) (by unfold maxLen; omega) (by omega) hB ?_
 ·rw [← hcs]; exact World.news_of_block hb
 ·intro v' w' h1 h2 _;refine h v' w' ?_ (Own.grownB hown hB h2);unfold Own;rw [List.length_append, hm]
  simpa [Lib.byteCells] using h1
theorem conv_own {w : World} {B : Nat} {g n cap : Nat} {l : List UInt8} (hown : Own w B (.slice (some ⟨g, 0, none⟩) n cap) l) :
  (convert 94 9 (.slice (some ⟨g, 0, none⟩) n cap)).run Tryz.prog w = .ok (.string ⟨l.toArray⟩) w := by
 have hn : n = l.length := by
  rcases hown.2 with ⟨h, _⟩ | ⟨g', cap', cur, h, _⟩
  ·cases h
  ·injection h
 subst hn;exact run_convert_bytes_back (P := Tryz.prog) w 94 9 5 ⟨g, 0, none⟩ cap l Tryz.underlying94 Tryz.underlying5 Tryz.underlying9 (fun j hj => World.ownsRow.cells hown (g := g) rfl j _ (by simp [Lib.byteCells, hj]))
theorem own_len {w : World} {B : Nat} {g n cap : Nat} {l : List UInt8} (hown : Own w B (.slice (some ⟨g, 0, none⟩) n cap) l) : n = l.length := by
 rcases hown.2 with ⟨h, _⟩ | ⟨g', cap', cur, h, _⟩
 ·cases h
 ·injection h
theorem own_form {w : World} {B : Nat} {v : Value} {l : List UInt8} (hown : Own w B v l) (hne : 0 < l.length) : ∃ g n cap, v = .slice (some ⟨g, 0, none⟩) n cap := by
 rcases hown.2 with ⟨_, h⟩ | ⟨g', cap', cur, h, _⟩
 ·omega
 ·exact ⟨g', _, cap', h⟩
theorem own_new (w : World) (cs : Array Value) (l : List UInt8) (h : cs.toList = Lib.byteCells l) (hl : l.length ≤ 1000) : Own (w.alloc (.cells cs 5)) w.heap.size (.slice (some ⟨w.heap.size, 0, none⟩) l.length l.length) l := by
 have hs : cs.size = l.length := by rw [← Array.length_toList, h]; simp [Lib.byteCells]
 refine ⟨by simp [Lib.byteCells], Or.inr ⟨w.heap.size, l.length, cs, rfl, Nat.le_refl _, heap_top _ _, Nat.le_refl _, by unfold maxLen; omega, by omega, ?_⟩⟩;rw [h, List.take_of_length_le (by simp [Lib.byteCells])]
theorem Own.at {w : World} {B g n cap : Nat} {l : List UInt8} (h : Own w B (.slice (some ⟨g, 0, none⟩) n cap) l) (j : Nat) (hj : j < l.length) : w.cell? ⟨g, j, none⟩ = some (.int .u8 ((l.getD j 0).toNat : Int)) := by
 have hn := own_len h;subst hn;have := World.ownsRow.cellAt (size := 1) h j (by omega);rw [this]
 simp [Lib.byteCells, List.getElem?_eq_getElem hj, List.getD_eq_getElem?_getD]
theorem Own.cold {w : World} {B g n cap : Nat} {l : List UInt8} (h : Own w B (.slice (some ⟨g, 0, none⟩) n cap) l) (j : Nat) : w.frozen? ⟨g, j, none⟩ = false := by
 have hn := own_len h;subst hn;exact World.ownsRow.frozenAt (size := 1) h j
theorem Own.put {w : World} {B g n cap : Nat} {l : List UInt8} (h : Own w B (.slice (some ⟨g, 0, none⟩) n cap) l) (j : Nat) (c : UInt8) : Own (w.setCell ⟨g, j, none⟩ (.int .u8 (c.toNat : Int))) B (.slice (some ⟨g, 0, none⟩) n cap) (l.set j c) ∧ Below B w (w.setCell ⟨g, j, none⟩ (.int .u8 (c.toNat : Int))) := by
 have hn := own_len h;subst hn;have hlt := (World.ownsRow.lt h g rfl).1;refine ⟨?_, (Below.refl _ _).setCell hlt _⟩;have := (World.ownsRow.stored (size := 1) h j (.int .u8 (c.toNat : Int))).1;unfold Own;rw [List.length_set];have e : Lib.byteCells (l.set j c) = (Lib.byteCells l).set j (.int .u8 (c.toNat : Int)) := by simp [Lib.byteCells, List.map_set]
 rw [e];exact this
end Go.Proofs.YtlmdcaemjaldfaaGreat
namespace Go.Proofs.YtlmdcaemjaldfaaGreat
def dF : Nat → Nat → List UInt8
 | 0, _ => []
 | f + 1, n => if n < 128 then [UInt8.ofNat n] else dF f (n / 128) ++ [UInt8.ofNat (n % 128)]
theorem dF_fuel : ∀ (f g n : Nat), n < f → n < g → dF f n = dF g n
 | 0, _, _, h, _ => by omega
 | _, 0, _, _, h => by omega
 | f + 1, g + 1, n, h, k => by
  unfold dF;by_cases hn : n < 128
  ·rw [if_pos hn, if_pos hn]
  ·rw [if_neg hn, if_neg hn, dF_fuel f g (n / 128) (by omega) (by omega)]
def dig (n : Nat) : List UInt8 := dF (n + 1) n
theorem dig_small {n : Nat} (h : n < 128) : dig n = [UInt8.ofNat n] := by unfold dig dF; rw [if_pos h]
theorem dig_big {n : Nat} (h : 128 ≤ n) : dig n = dig (n / 128) ++ [UInt8.ofNat (n % 128)] := by
 unfold dig
 conv => lhs; unfold dF
 rw [if_neg (by omega), dF_fuel n (n / 128 + 1) (n / 128) (by omega) (by omega)]
theorem dig_ne (n : Nat) : dig n ≠ [] := by
 by_cases h : n < 128
 ·rw [dig_small h]; simp
 ·rw [dig_big (by omega)]; simp
theorem dig_lt (n : Nat) : ∀ c ∈ dig n, c.toNat < 128 := by
 induction n using Nat.strongRecOn with
 | _ n ih =>
  intro c hc;by_cases h : n < 128
  ·rw [dig_small h, List.mem_singleton] at hc;rw [hc, UInt8.toNat_ofNat']; omega
  ·rw [dig_big (by omega), List.mem_append, List.mem_singleton] at hc;rcases hc with hc | hc
   ·exact ih (n / 128) (by omega) c hc
   ·rw [hc, UInt8.toNat_ofNat']; omega
theorem dig_len (n : Nat) (k : Nat) (h : n < 128 ^ k) (hk : 1 ≤ k) : (dig n).length ≤ k := by
 induction k generalizing n with
 | zero => omega
 | succ k ih =>
  by_cases hn : n < 128
  ·rw [dig_small hn]; simp
  ·rw [dig_big (by omega), List.length_append, List.length_singleton];have hk1 : 1 ≤ k := by
    cases k with
    | zero => simp at h; omega
    | succ k => omega
   have : n / 128 < 128 ^ k := Nat.div_lt_of_lt_mul (by rw [Nat.mul_comm]; exact (Nat.pow_succ (n := 128) (m := k)) ▸ h);have := ih (n / 128) this hk1;omega
def upB (c : UInt8) : UInt8 := UInt8.ofNat (c.toNat + 128)
theorem upB_val {c : UInt8} (h : c.toNat < 128) : (upB c).toNat = c.toNat + 128 := by unfold upB; rw [UInt8.toNat_ofNat']; omega
def enc (n : Nat) : List UInt8 := if n < 128 then [UInt8.ofNat n] else (dig (n / 128)).map upB ++ [UInt8.ofNat (n % 128)]
theorem enc_small {n : Nat} (h : n < 128) : enc n = [UInt8.ofNat n] := by unfold enc; rw [if_pos h]
theorem enc_big {n : Nat} (h : 128 ≤ n) : enc n = (dig (n / 128)).map upB ++ [UInt8.ofNat (n % 128)] := by unfold enc; rw [if_neg (by omega)]
theorem enc_dig (n : Nat) : enc n = ((dig n).dropLast).map upB ++ [(dig n).getLast (dig_ne n)] := by
 by_cases h : n < 128
 ·simp [enc_small h, dig_small h]
 ·rw [enc_big (by omega)]
  simp [dig_big (show 128 ≤ n by omega)]
theorem enc_len (n : Nat) : (enc n).length = (dig n).length := by
 by_cases h : n < 128
 ·simp [enc_small h, dig_small h]
 ·rw [enc_big (by omega), dig_big (show 128 ≤ n by omega)]; simp
theorem enc_len_le (n : Nat) (h : n < 18446744073709551616) : 1 ≤ (enc n).length ∧ (enc n).length ≤ 10 := by
 rw [enc_len];exact ⟨List.length_pos_iff.2 (dig_ne n), dig_len n 10 (Nat.lt_of_lt_of_le h (by decide)) (by omega)⟩
structure Got where
 err : Nat
 n : Nat
 rest : List UInt8
def decL : Bool → Nat → List UInt8 → Got
 | _, _, [] => ⟨3, 0, []⟩
 | first, n, c :: l =>
  if (first = true ∧ c.toNat = 128) ∨ 144115188075855872 ≤ n then ⟨2, 0, []⟩
  else if c.toNat < 128 then ⟨0, n * 128 + c.toNat % 128, l⟩
  else decL false (n * 128 + c.toNat % 128) l
theorem ofNat_val {n : Nat} (h : n < 256) : (UInt8.ofNat n).toNat = n := by rw [UInt8.toNat_ofNat']; omega
theorem dec_hi (m : Nat) (l : List UInt8) (h1 : 1 ≤ m) (h2 : m < 144115188075855872) : decL true 0 ((dig m).map upB ++ l) = decL false m l := by
 induction m using Nat.strongRecOn generalizing l with
 | _ m ih =>
  by_cases h : m < 128
  ·have e : ((dig m).map upB ++ l) = upB (UInt8.ofNat m) :: l := by simp [dig_small h]
   have v : (upB (UInt8.ofNat m)).toNat = m + 128 := by rw [upB_val (by rw [ofNat_val (by omega)]; omega), ofNat_val (by omega)]
   rw [e]
   conv => lhs; unfold decL
   rw [v, if_neg (by omega), if_neg (by omega)]
   congr 1; omega
  ·have hd := dig_big (show 128 ≤ m by omega);have hm : m % 128 < 128 := by omega
   have v : (upB (UInt8.ofNat (m % 128))).toNat = m % 128 + 128 := by rw [upB_val (by rw [ofNat_val (by omega)]; omega), ofNat_val (by omega)]
   rw [hd, List.map_append, List.append_assoc, ih (m / 128) (by omega) _ (by omega) (by omega)];simp only [List.map_cons, List.map_nil, List.cons_append, List.nil_append]
   conv => lhs; unfold decL
   rw [v, if_neg (by simp; omega), if_neg (by omega)]
   congr 1; omega
theorem dec_enc (n : Nat) (rest : List UInt8) (h : n < 18446744073709551616) : decL true 0 (enc n ++ rest) = ⟨0, n, rest⟩ := by
 by_cases hn : n < 128
 ·rw [enc_small hn];simp only [List.cons_append, List.nil_append];unfold decL;rw [ofNat_val (by omega), if_neg (by omega), if_pos hn]
  congr 1; omega
 ·rw [enc_big (by omega), List.append_assoc, dec_hi _ _ (by omega) (by omega)];simp only [List.cons_append, List.nil_append];unfold decL;rw [ofNat_val (by omega), if_neg (by simp; omega), if_pos (by omega)]
  congr 1; omega
theorem dec_more (l : List UInt8) : ∀ (m n : Nat) (rest : List UInt8), 1 ≤ m → decL false m l = ⟨0, n, rest⟩ → ∃ ds, l = ds ++ rest ∧ enc n = (dig m).map upB ++ ds ∧ n < 18446744073709551616 := by
 induction l with
 | nil => intro m n rest _ h; simp [decL] at h
 | cons c l ih =>
  intro m n rest h1 h;have hc := c.toNat_lt;unfold decL at h;by_cases hf : (false = true ∧ c.toNat = 128) ∨ 144115188075855872 ≤ m
  ·rw [if_pos hf] at h; simp at h
  rw [if_neg hf] at h;have hm : m < 144115188075855872 := by
   rcases Nat.lt_or_ge m 144115188075855872 with h' | h'
   ·exact h'
   ·exact absurd (Or.inr h') hf
  by_cases hl : c.toNat < 128
  ·rw [if_pos hl] at h;simp only [Got.mk.injEq] at h;obtain ⟨_, hn, hr⟩ := h;subst hr;refine ⟨[c], rfl, ?_, by omega⟩;rw [enc_big (by omega)];have e1 : n / 128 = m := by omega
   have e2 : n % 128 = c.toNat := by omega
   rw [e1, e2]; simp
  ·rw [if_neg hl] at h;obtain ⟨ds, el, en, hb⟩ := ih _ n rest (by omega) h;refine ⟨c :: ds, by rw [el]; rfl, ?_, hb⟩;rw [en, dig_big (by omega)];have e1 : (m * 128 + c.toNat % 128) / 128 = m := by omega
   have e2 : (m * 128 + c.toNat % 128) % 128 = c.toNat % 128 := by omega
   have e3 : upB (UInt8.ofNat (c.toNat % 128)) = c := by
    refine UInt8.toNat_inj.1 ?_;rw [upB_val (by rw [ofNat_val (by omega)]; omega), ofNat_val (by omega)]; omega
   rw [e1, e2, List.map_append]
   simp [e3]
theorem dec_inv (l : List UInt8) (n : Nat) (rest : List UInt8) (h : decL true 0 l = ⟨0, n, rest⟩) : l = enc n ++ rest ∧ n < 18446744073709551616 := by
 cases l with
 | nil => simp [decL] at h
 | cons c l =>
  have hc := c.toNat_lt;unfold decL at h;by_cases h8 : c.toNat = 128
  ·rw [if_pos (Or.inl ⟨rfl, h8⟩)] at h; simp at h
  rw [if_neg (by omega)] at h;by_cases hl : c.toNat < 128
  ·rw [if_pos hl] at h;simp only [Got.mk.injEq] at h;obtain ⟨_, hn, hr⟩ := h;have e : n = c.toNat := by omega
   subst hr;rw [e, enc_small hl]
   simp; omega
  ·rw [if_neg hl] at h;obtain ⟨ds, el, en, hb⟩ := dec_more l _ n rest (by omega) h;refine ⟨?_, hb⟩;have e1 : 0 * 128 + c.toNat % 128 = c.toNat - 128 := by omega
   rw [e1, dig_small (by omega)] at en;have e3 : upB (UInt8.ofNat (c.toNat - 128)) = c := by
    refine UInt8.toNat_inj.1 ?_;rw [upB_val (by rw [ofNat_val (by omega)]; omega), ofNat_val (by omega)]; omega
   rw [en, el]
   simp [e3]
def zz (n : Int) : Nat := if 0 ≤ n then (2 * n).toNat else (2 * (-1 - n) + 1).toNat
def unzz (n : Nat) : Int := if n % 2 = 1 then -1 - (n / 2 : Nat) else (n / 2 : Nat)
theorem unzz_zz (n : Int) : unzz (zz n) = n := by
 unfold zz unzz
 split <;> split <;> omega
theorem zz_unzz (n : Nat) : zz (unzz n) = n := by
 unfold zz unzz
 split <;> split <;> omega
theorem zz_bd (n : Int) (h0 : -9223372036854775808 ≤ n) (h1 : n ≤ 9223372036854775807) : zz n < 18446744073709551616 := by
 unfold zz; split <;> omega
theorem unzz_bd (n : Nat) (h : n < 18446744073709551616) : -9223372036854775808 ≤ unzz n ∧ unzz n ≤ 9223372036854775807 := by
 unfold unzz; split <;> omega
end Go.Proofs.YtlmdcaemjaldfaaGreat
namespace Go.Proofs.YtlmdcaemjaldfaaGreat
open Go.RowKit
theorem low7 (u : Nat) : (u : Int) % 128 = ((UInt8.ofNat (u % 128)).toNat : Int) := by
 rw [UInt8.toNat_ofNat']; omega
set_option maxHeartbeats 1000000 in
set_option maxRecDepth 100000 in
theorem refDigits_any (u : Nat) : ∀ (w : World), u < 18446744073709551616 →
  Calls Tryz.prog 111 #[.int .u64 (u : Int)] w fun e w' => ∃ v, e = .returned v ∧ Own w' w.heap.size v (dig u) ∧ Below w.heap.size w w' := by
 induction u using Nat.strongRecOn with
 | _ u ih =>
  intro w hu;by_cases h10 : u < 128
  ·have hd := hide (dig_small h10);have h10' : (u : Int) < 128 := by omega
   have hr : Hid ((u : Int) = ((UInt8.ofNat u).toNat : Int)) := hide (by rw [UInt8.toNat_ofNat']; omega);generalize UInt8.ofNat u = c at *;clear ih;go_enter Tryz.func111, Tryz.ntmps111
   go_wp2
   go_ret
   refine ⟨_, rfl, ?_, (Below.refl _ _).alloc (Nat.le_refl _) _⟩;rw [hd.out];exact own_new w _ [c] (by simp [Lib.byteCells, hr.out]) (by simp)
  ·have h10' : ¬ (u : Int) < 128 := by omega
   have hd := dig_big (show 128 ≤ u by omega);have IH : ∀ W : World, Hid (Calls Tryz.prog 111 #[.int .u64 ((u : Int) / 128)] W fun e w' => ∃ v, e = .returned v ∧ Own w' W.heap.size v (dig (u / 128)) ∧ Below W.heap.size W w') := fun W => hide (by
    have h := ih (u / 128) (by omega) W (by omega);rw [show ((u / 128 : Nat) : Int) = (u : Int) / 128 by omega] at h;exact h)
   have hq : IntKind.u64.wrap ((u : Int) / 128) = (u : Int) / 128 := by rw [IntKind.wrap_u64]; omega
   have hr := hide (low7 u);have hn := dig_len (u / 128) 10 (Nat.lt_of_lt_of_le (show u / 128 < 144115188075855872 by omega) (by decide)) (by omega);generalize UInt8.ofNat (u % 128) = c at *;generalize dig (u / 128) = D at *;have Hd := hide hd;clear ih hd;go_enter Tryz.func111, Tryz.ntmps111
   go_wp2_with fail
   refine (unhide (IH _)).mono ?_;rintro e w1 ⟨v1, rfl, hO1, hb1⟩;have hz1 := hb1.size;have HO1 := hide hO1;have HB1 := hide hb1;clear hO1 hb1
   go_wp2_with (at_builtin; refine wpList_app _ rfl _ _ rfl w.heap.size _ D rfl (HO1.out.alloc _) _ 1 1 _ [c] rfl rfl (heap_top _ _) (by simp [Lib.byteCells, hr.out]) (by omega) (by simp; omega) ?_; intro v2 w2 hO2 hb2)
   go_ret
   refine ⟨_, rfl, ?_, (HB1.out.alloc hz1 _).trans hb2⟩;rw [Hd.out];exact hO2
def upK (l : List UInt8) (k : Nat) : List UInt8 := (l.take k).map upB ++ l.drop k
theorem upK_zero (l : List UInt8) : upK l 0 = l := by simp [upK]
theorem upK_at (l : List UInt8) (k : Nat) (h : k < l.length) : (upK l k).getD k 0 = l.getD k 0 := by
 unfold upK;rw [List.getD_eq_getElem?_getD, List.getD_eq_getElem?_getD, List.getElem?_append_right (by simp; omega)]
 simp [Nat.min_eq_left (Nat.le_of_lt h)]
theorem upK_len (l : List UInt8) (k : Nat) : (upK l k).length = l.length := by
 unfold upK; simp; omega
theorem upK_step (l : List UInt8) (k : Nat) (h : k < l.length) : (upK l k).set k (upB (l.getD k 0)) = upK l (k + 1) := by
 unfold upK;have hl : ((l.take k).map upB).length = k := by simp; omega
 have hd : l.drop k = l[k] :: l.drop (k + 1) := List.drop_eq_getElem_cons h;have ht : l.take (k + 1) = l.take k ++ [l[k]] := List.take_succ_eq_append_getElem h;have hg : l.getD k 0 = l[k] := by rw [List.getD_eq_getElem?_getD, List.getElem?_eq_getElem h]; rfl
 rw [List.set_append, if_neg (by omega), hl, Nat.sub_self, hd, ht, List.map_append, List.append_assoc, hg]
 rfl
theorem upK_enc (n : Nat) (k : Nat) (h : k + 1 = (dig n).length) : upK (dig n) k = enc n := by
 rw [enc_dig];unfold upK;have e : k = (dig n).length - 1 := by omega
 rw [List.dropLast_eq_take, ← e]
 congr 1
 rw [List.drop_eq_getElem_cons (by omega), List.drop_eq_nil_of_le (by omega), List.getLast_eq_getElem]
 simp [e]
set_option maxHeartbeats 1000000 in
set_option maxRecDepth 100000 in
theorem refUint_any (u : Nat) (w : World) (hu : u < 18446744073709551616) :
  Calls Tryz.prog 62 #[.int .u64 (u : Int)] w fun e w' => e = .returned (.string ⟨(enc u).toArray⟩) ∧ Below w.heap.size w w' := by
 have HD := fun (W : World) => hide (refDigits_any u W hu)
 have hpos := List.length_pos_iff.2 (dig_ne u);have hlen := dig_len u 10 (Nat.lt_of_lt_of_le hu (by decide)) (by omega);have hlow := hide (dig_lt u);have henc := hide (upK_enc u);generalize dig u = D at *;go_enter Tryz.func62, Tryz.ntmps62
 go_wp2_with fail
 refine (unhide (HD _)).mono ?_;rintro e w1 ⟨v1, rfl, hO1, hb1⟩;obtain ⟨g, n, cap, rfl⟩ := own_form hO1 hpos;have hn := own_len hO1;have Hn := hide hn;have hn1 : 1 ≤ n := by omega
 have hn2 : n ≤ 10 := by omega
 have HO1 : Hid (Own w1 w.heap.size (.slice (some ⟨g, 0, none⟩) n cap) (upK D 0)) := hide (by rw [upK_zero]; exact hO1);have HB1 := hide hb1;clear hn hO1 hb1
 go_wp2
 go_loopw [4] (fun i wr => ∃ k : Nat, i = .int .i64 k ∧ k + 1 ≤ n ∧ Hid (Own wr w.heap.size (.slice (some ⟨g, 0, none⟩) n cap) (upK D k)) ∧ Hid (Below w.heap.size w wr)) (fun i _ => n - (intOf i).toNat)
 case atStart => exact ⟨0, rfl, by omega, HO1, HB1⟩
 case round =>
  obtain ⟨k, rfl, hk, HO, HB⟩ := hrel;clear HO1 HB1;by_cases hlt : k + 1 < n
  ·have hkD : k < D.length := by have := Hn.out; omega
   have c0 := HO.out.at k (by rw [upK_len]; omega);have f0 := HO.out.cold k;rw [upK_at D k hkD] at c0;obtain ⟨O2, B2⟩ := HO.out.put k (upB (D.getD k 0));rw [upK_step D k hkD] at O2;have hl7 : (D.getD k 0).toNat < 128 := hlow.out _ (by rw [List.getD_eq_getElem?_getD, List.getElem?_eq_getElem hkD]; exact List.getElem_mem _);rw [upB_val hl7] at O2 B2;have HO2 := hide O2;have HB2 := hide (HB.out.trans B2);clear O2 B2;generalize D.getD k 0 = c at *;have hc7 : (c.toNat : Int) < 128 := by omega
   have hlt' : (k : Int) < (n : Int) - 1 := by omega
   go_wp2
   exact ⟨⟨k + 1, by go_num, by omega, HO2, HB2⟩, by simp [intOf]; omega⟩
  ·have hcv := conv_own HO.out;have E := hide (henc.out k (by have := Hn.out; omega));have hge : (n : Int) - 1 ≤ (k : Int) := by omega
   go_wp2
   go_ret
   exact ⟨ret_str (by rw [E.out]), HB.out⟩
theorem zz_pos (n : Int) (h : 0 ≤ n) : ((zz n : Nat) : Int) = 2 * n := by unfold zz; rw [if_pos h]; omega
theorem zz_neg (n : Int) (h : ¬ 0 ≤ n) : ((zz n : Nat) : Int) = 2 * (-1 - n) + 1 := by unfold zz; rw [if_neg h]; omega
set_option maxHeartbeats 1000000 in
set_option maxRecDepth 100000 in
theorem refInt_any (n : Int) (w : World) (h0 : -9223372036854775808 ≤ n) (h1 : n ≤ 9223372036854775807) :
  Calls Tryz.prog 72 #[.int .i64 n] w fun e w' => e = .returned (.string ⟨(enc (zz n)).toArray⟩) ∧ Below w.heap.size w w' := by
 have HU := fun (W : World) => refUint_any (zz n) W (zz_bd n h0 h1)
 by_cases hn : 0 ≤ n
 ·rw [zz_pos n hn] at HU;have H := fun W => hide (HU W)
  clear HU;go_enter Tryz.func72, Tryz.ntmps72
  go_wp2_with fail
  refine (unhide (H _)).mono ?_;rintro e w1 ⟨rfl, hb1⟩
  go_wp2
  go_ret
  exact ⟨rfl, hb1⟩
 ·rw [zz_neg n hn] at HU;have H := fun W => hide (HU W)
  clear HU;go_enter Tryz.func72, Tryz.ntmps72
  go_wp2_with fail
  refine (unhide (H _)).mono ?_;rintro e w1 ⟨rfl, hb1⟩
  go_wp2
  go_ret
  exact ⟨rfl, hb1⟩
set_option maxHeartbeats 1000000 in
set_option maxRecDepth 100000 in
theorem refStr_any (s : ByteArray) (w : World) (hs : s.size ≤ 1048576) :
  Calls Tryz.prog 73 #[.string s] w fun e w' => e = .returned (.string (⟨(enc s.size).toArray⟩ ++ s)) ∧ Below w.heap.size w w' := by
 have HU := fun (W : World) => hide (refUint_any s.size W (by omega))
 have hz : ((⟨(enc s.size).toArray⟩ : ByteArray).size) ≤ 10 := by rw [Lib.size_eq]; exact (enc_len_le s.size (by omega)).2
 generalize (⟨(enc s.size).toArray⟩ : ByteArray) = T at *;go_enter Tryz.func73, Tryz.ntmps73
 go_wp2_with fail
 refine (unhide (HU _)).mono ?_;rintro e w1 ⟨rfl, hb1⟩
 go_wp2
 go_ret
 exact ⟨rfl, hb1⟩
end Go.Proofs.YtlmdcaemjaldfaaGreat
namespace Go.Proofs.YtlmdcaemjaldfaaGreat
open Go.RowKit
def hiD (m : Nat) : List UInt8 := if m = 0 then [] else (dig m).map upB
theorem hiD_zero : hiD 0 = [] := by simp [hiD]
theorem hiD_step (m : Nat) (h : 0 < m) : hiD m = hiD (m / 128) ++ [upB (UInt8.ofNat (m % 128))] := by
 unfold hiD;rw [if_neg (by omega)];by_cases hm : m < 128
 ·rw [if_pos (by omega), dig_small hm, show m % 128 = m by omega]; rfl
 ·rw [if_neg (by omega), dig_big (by omega), List.map_append]; rfl
theorem enc_hiD (n : Nat) : enc n = hiD (n / 128) ++ [UInt8.ofNat (n % 128)] := by
 unfold hiD;by_cases h : n < 128
 ·rw [enc_small h, if_pos (by omega), show n % 128 = n by omega]; rfl
 ·rw [enc_big (by omega), if_neg (by omega)]
theorem hiD_pos (m : Nat) (h : 0 < m) : 1 ≤ (hiD m).length := by
 rw [hiD_step m h, List.length_append, List.length_singleton]; omega
set_option maxHeartbeats 1000000 in
set_option maxRecDepth 100000 in
theorem uint_any (u : Nat) (w : World) (hu : u < 18446744073709551616) :
  Calls Tryz.prog 113 #[.int .u64 (u : Int)] w fun e w' => e = .returned (.string ⟨(enc u).toArray⟩) ∧ Below w.heap.size w w' := by
 obtain ⟨U, hU⟩ : ∃ U : Int, U = (u : Int) := ⟨_, rfl⟩
 have hU0 : 0 ≤ U := by omega
 have hU1 : U < 18446744073709551616 := by omega
 have hlen := hide (enc_len_le u hu).2;have henc := hide (enc_hiD u);rw [← hU];have HU := hide hU;clear hU hu;generalize enc u = E at *;have hc : IntKind.u8.wrap (U % 128) = U % 128 := by rw [IntKind.wrap_u8]; omega
 go_enter Tryz.func113, Tryz.ntmps113
 go_wp2
 go_loopw [0, 4] (fun nv av wr => ∃ (M : Int) (k : Nat) (l : List UInt8), nv = .int .u64 M ∧ av = .int .i64 k ∧ 0 ≤ M ∧ M < 18446744073709551616 ∧ k ≤ 9 ∧ Hid (l.length = 10) ∧ Hid (E = hiD M.toNat ++ l.drop k) ∧ Hid (wr.heap[w.heap.size]? = some (.cells (Lib.byteCells l).toArray 155 (0, 0))) ∧ Hid (Below w.heap.size w wr)) (fun nv _ _ => (intOf nv).toNat)
 case atStart =>
  refine ⟨U / 128, 9, [0, 0, 0, 0, 0, 0, 0, 0, 0, UInt8.ofNat (u % 128)], rfl, rfl, by omega, by omega, by omega, hide rfl, hide ?_, hide ?_, hide ?_⟩
  ·rw [henc.out];have e : (U / 128).toNat = u / 128 := by have := HU.out; omega
   rw [e]; rfl
  ·refine (heap_new _ _).trans ?_;have e : U % 128 = ((UInt8.ofNat (u % 128)).toNat : Int) := by have := HU.out; rw [UInt8.toNat_ofNat']; omega
   rw [e]
   rfl
  ·exact (Below.refl _ _).alloc (Nat.le_refl _) _
 case round =>
  obtain ⟨M, k, l, rfl, rfl, hM0, hM1, hk, HL, HE, HH, HB⟩ := hrel;by_cases hz : 0 < M
  ·have hk1 : 1 ≤ k := by
    have h1 := hiD_pos M.toNat (by omega);have h2 := congrArg List.length HE.out;have h3 := hlen.out;rw [List.length_append, List.length_drop, HL.out] at h2;omega
   have hc2 : IntKind.u8.wrap (M % 128) = M % 128 := by rw [IntKind.wrap_u8]; omega
   have hc3 : IntKind.u8.wrap (M % 128 + 128) = M % 128 + 128 := by rw [IntKind.wrap_u8]; omega
   have hq : IntKind.u64.wrap (M / 128) = M / 128 := by rw [IntKind.wrap_u64]; omega
   have f0 := frozen_heap HH.out (k - 1);have c0 : wr.cell? ⟨w.heap.size, k - 1, none⟩ = some (.int .u8 ((l.getD (k - 1) 0).toNat : Int)) := by
    rw [cell_heap HH.out];have := HL.out
    simp [Lib.byteCells, List.getElem?_eq_getElem (show k - 1 < l.length by omega), List.getD_eq_getElem?_getD]
   generalize (l.getD (k - 1) 0).toNat = old at c0;have hset : Hid ((wr.setCell ⟨w.heap.size, k - 1, none⟩ (.int .u8 (M % 128 + 128))).heap[w.heap.size]? = some (.cells (Lib.byteCells (l.set (k - 1) (upB (UInt8.ofNat (M.toNat % 128))))).toArray 155 (0, 0))) := hide (by
    rw [heap_setCell _ HH.out];have e : M % 128 + 128 = ((upB (UInt8.ofNat (M.toNat % 128))).toNat : Int) := by rw [upB_val (by rw [UInt8.toNat_ofNat']; omega), UInt8.toNat_ofNat']; omega
    rw [e]
    simp [Lib.byteCells, List.map_set])
   have hdr : Hid (E = hiD (M / 128).toNat ++ (l.set (k - 1) (upB (UInt8.ofNat (M.toNat % 128)))).drop (k - 1)) := hide (by
    have hl10 := HL.out;rw [HE.out, hiD_step M.toNat (by omega), show (M / 128).toNat = M.toNat / 128 by omega, List.append_assoc]
    congr 1
    have hd : ∀ (m : List UInt8) (c : UInt8) (i : Nat), i < m.length → (m.set i c).drop i = c :: m.drop (i + 1) := fun m c i hi => by
     rw [List.drop_eq_getElem_cons (by rw [List.length_set]; exact hi), List.getElem_set_self, List.drop_set, if_pos (by omega)]
    rw [hd _ _ _ (by omega), show k - 1 + 1 = k by omega]
    rfl)
   have hB2 : Hid (Below w.heap.size w (wr.setCell ⟨w.heap.size, k - 1, none⟩ (.int .u8 (M % 128 + 128)))) := hide (HB.out.setCell (Nat.le_refl _) _)
   go_wp2
   exact ⟨⟨M / 128, k - 1, _, rfl, by go_num, by omega, by omega, by omega, hide (by rw [List.length_set]; exact HL.out), hdr, hset, hB2⟩, by simp [intOf]; omega⟩
  ·have hsl : (Instr.sliceAt 155 (.pointer (some ⟨w.heap.size, 0, none⟩)) (some (.int .i64 (k : Int))) none none).run Tryz.prog wr = .ok (.slice (some ⟨w.heap.size, k, none⟩) (10 - k) (10 - k)) wr := by
    rw [run_sliceAt_array_l wr 155 _ (by kernel_rfl) .i64 k (by omega) (by rw [show Program.arrayLen Tryz.prog 155 = 10 by kernel_rfl]; omega)];rw [show Program.arrayLen Tryz.prog 155 = 10 by kernel_rfl, show Program.elem Tryz.prog 155 = 5 by kernel_rfl, show (sizeOf 5).run Tryz.prog wr = .ok 1 wr by kernel_rfl]
    simp [slicedAt, Addr.add]
    rw [if_neg (by omega)]
    split
    ·rename_i hk0; rw [hk0]
    ·rfl
   have hcv : (convert 94 9 (.slice (some ⟨w.heap.size, k, none⟩) (10 - k) (10 - k))).run Tryz.prog wr = .ok (.string ⟨(l.drop k).toArray⟩) wr := by
    have hl10 := HL.out;have e : (l.drop k).length = 10 - k := by rw [List.length_drop]; omega
    have := run_convert_bytes_back (P := Tryz.prog) wr 94 9 5 ⟨w.heap.size, k, none⟩ (10 - k) (l.drop k) Tryz.underlying94 Tryz.underlying5 Tryz.underlying9 (fun j hj => by
     rw [show (Addr.add ⟨w.heap.size, k, none⟩ j) = ⟨w.heap.size, k + j, none⟩ by simp [Addr.add], cell_heap HH.out]
     simp [Lib.byteCells, List.getElem?_eq_getElem (show k + j < l.length by omega)])
    rw [e] at this;exact this
   have hE : Hid (E = l.drop k) := hide (by rw [HE.out, show M.toNat = 0 by omega, hiD_zero]; rfl)
   go_wp2
   go_ret
   exact ⟨ret_str (by rw [hE.out]), HB.out⟩
set_option maxHeartbeats 1000000 in
set_option maxRecDepth 100000 in
theorem int_any (n : Int) (w : World) (h0 : -9223372036854775808 ≤ n) (h1 : n ≤ 9223372036854775807) :
  Calls Tryz.prog 115 #[.int .i64 n] w fun e w' => e = .returned (.string ⟨(enc (zz n)).toArray⟩) ∧ Below w.heap.size w w' := by
 have HU := fun (W : World) => uint_any (zz n) W (zz_bd n h0 h1)
 by_cases hn : 0 ≤ n
 ·rw [zz_pos n hn] at HU;have H := fun W => hide (HU W)
  clear HU;go_enter Tryz.func115, Tryz.ntmps115
  go_wp2_with fail
  refine (unhide (H _)).mono ?_;rintro e w1 ⟨rfl, hb1⟩
  go_wp2
  go_ret
  exact ⟨rfl, hb1⟩
 ·rw [zz_neg n hn] at HU;have H := fun W => hide (HU W)
  clear HU;go_enter Tryz.func115, Tryz.ntmps115
  go_wp2_with fail
  refine (unhide (H _)).mono ?_;rintro e w1 ⟨rfl, hb1⟩
  go_wp2
  go_ret
  exact ⟨rfl, hb1⟩
set_option maxHeartbeats 1000000 in
set_option maxRecDepth 100000 in
theorem str_any (s : ByteArray) (w : World) (hs : s.size ≤ 1048576) :
  Calls Tryz.prog 116 #[.string s] w fun e w' => e = .returned (.string (⟨(enc s.size).toArray⟩ ++ s)) ∧ Below w.heap.size w w' := by
 have HU := fun (W : World) => hide (uint_any s.size W (by omega))
 have hz : ((⟨(enc s.size).toArray⟩ : ByteArray).size) ≤ 10 := by rw [Lib.size_eq]; exact (enc_len_le s.size (by omega)).2
 generalize (⟨(enc s.size).toArray⟩ : ByteArray) = T at *;go_enter Tryz.func116, Tryz.ntmps116
 go_wp2_with fail
 refine (unhide (HU _)).mono ?_;rintro e w1 ⟨rfl, hb1⟩
 go_wp2
 go_ret
 exact ⟨rfl, hb1⟩
end Go.Proofs.YtlmdcaemjaldfaaGreat
namespace Go.Proofs.YtlmdcaemjaldfaaGreat
open Go.RowKit
theorem grown_refl (w : World) (r : Option Nat) : w.grownBy w r := ⟨rfl, rfl, rfl, Nat.le_refl _, fun _ _ _ => rfl⟩
theorem grown_trans {a b c : World} {r : Option Nat} (h : a.grownBy b r) (k : b.grownBy c r) : a.grownBy c r :=
 ⟨k.os.trans h.os, k.tape.trans h.tape, k.output.trans h.output, Nat.le_trans h.size k.size, fun i hi hr => (k.block i (Nat.lt_of_lt_of_le hi h.size) hr).trans (h.block i hi hr)⟩
theorem grown_setCell {a w : World} {b : Nat} (h : a.grownBy w (some b)) (i : Nat) (v : Value) : a.grownBy (w.setCell ⟨b, i, none⟩ v) (some b) :=
 grown_trans h ⟨rfl, rfl, rfl, by simp [World.setCell], fun k hk hr => Below.heap_setCell _ _ _ _ (fun e => hr (by simp [e]))⟩
theorem grown_below {a w w' : World} {r : Option Nat} (h : a.grownBy w r) (hb : Below w.heap.size w w') : a.grownBy w' r :=
 grown_trans h ⟨hb.os, hb.tape, hb.output, hb.size, fun k hk _ => hb.block k hk⟩
end Go.Proofs.YtlmdcaemjaldfaaGreat
