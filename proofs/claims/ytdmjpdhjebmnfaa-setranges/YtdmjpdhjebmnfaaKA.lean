/-
  What all walks of a seat share: hidden facts, worlds that only grow, a []byte of the call's own.
-/
import Derived.Test.YtdmjpdhjebmnfaaRows
import Derived.WalkKit
import Derived.WalkSpells
import Derived.WalkLawsBesides
import Derived.WalkSmall
import Derived.Lib.SmallJoins
import Derived.Lib.Bytealg
import Derived.Lib.UnsafeStr
import Derived.Lib.ItoaLen
import Derived.Lib.Slices
import Derived.Laws.IdiomStrings
import Derived.Laws.OwnMore
import Derived.OwnWalk
import Derived.BigCall
import Derived.Deep.RegionHeld3
import Derived.Deep.AppendLies
import Derived.Deep.DrawnRows
import Derived.Lib.AppendIntMem
import Derived.Deep.QuietTactic
import Derived.BigQuiet
import Derived.Lib.QuietBelow
set_option linter.unusedSimpArgs false
set_option linter.unusedVariables false
namespace Go.Proofs.Ytdmjpdhjebmnfaa
open Go.RowKit

theorem hide {p : Prop} (h : p) : Hid p := h
theorem unhide {p : Prop} (h : Hid p) : p := h
theorem ret_int {k : IntKind} {a b : Int} (h : a = b) : Ending.returned (.int k a) = .returned (.int k b) := by rw [h]
theorem ret_bool {a b : Bool} (h : a = b) : Ending.returned (.bool a) = .returned (.bool b) := by rw [h]
theorem ret_str {a b : ByteArray} (h : a = b) : Ending.returned (.string a) = .returned (.string b) := by rw [h]

/-- Old cells and old marks read as before behind a call that only makes memory. -/
theorem bcell {W w1 : World} (hb : Below W.heap.size W w1) : (∀ b o, b < W.heap.size → w1.cell? ⟨b, o, none⟩ = W.cell? ⟨b, o, none⟩) ∧ (∀ b o, b < W.heap.size → w1.frozen? ⟨b, o, none⟩ = W.frozen? ⟨b, o, none⟩) :=
  ⟨fun b o h => hb.cell (p := ⟨b, o, none⟩) h, fun b o h => hb.frozen (p := ⟨b, o, none⟩) h⟩

theorem infoByte : (Try.prog.info? 5).map (fun i => (i.zero, i.size, i.bytes)) = some (some (.int .u8 0), 1, 1) := by kernel_rfl

/-- The slice value v owns just the bytes l, from block B on. -/
def Own (w : World) (B : Nat) (v : Value) (l : List UInt8) : Prop := w.ownsRow B 5 1 v l.length (Lib.byteCells l)

theorem Own.alloc {w : World} {B : Nat} {v : Value} {l : List UInt8} (h : Own w B v l) (o : Obj) : Own (w.alloc o) B v l := World.ownsRow.alloc h o
theorem Own.drew {w : World} {B : Nat} {v : Value} {l : List UInt8} (h : Own w B v l) : Own w.drew B v l := h
theorem Own.grownB {w w' : World} {B : Nat} {v : Value} {l : List UInt8} (h : Own w B v l) (hB : B ≤ w.heap.size) (hg : w.grownBy w' v.ownBlock) : Below B w w' :=
  (Below.refl _ _).grown hg hB (fun k hk => (World.ownsRow.lt h k hk).1)
theorem Own.on {w w' : World} {B : Nat} {v : Value} {l : List UInt8} (h : Own w B v l) (hb : Below w.heap.size w w') : Own w' B v l :=
  World.ownsRow.kept (row := none) h ⟨hb.os, hb.tape, hb.output, hb.size, fun k hk _ => hb.block k hk⟩ (by cases v.ownBlock <;> simp)
theorem heap_top (w : World) (o : Obj) : (w.alloc o).heap[w.heap.size]? = some o := by
  show (w.heap.push o)[w.heap.size]? = some o
  simp

theorem cells_one (l : List UInt8) : ∀ u ∈ Lib.byteCells l, u.oneCell' = true := by
  intro u hu
  simp [Lib.byteCells] at hu
  obtain ⟨b, _, rfl⟩ := hu
  rfl

/-- 'append' of new bytes that lie in a block known whole. -/
theorem wpList_app {ops : Array Oper} {rest : List Oper} {o : Oper} {a : Act} {Q : Exit → Act → World → Prop} (w : World) (hgd : o.guard = none) (s x : Operand)
    (ho : o.op = .call { callee := .builtin .append, args := #[s, x], argTypes := #[91, 91] })
    (B : Nat) (v : Value) (l : List UInt8) (hs : a.eval s = v) (hown : Own w B v l) (g m c : Nat) (cs : Array Value) (news : List UInt8) (hm : news.length = m)
    (hx : a.eval x = .slice (some ⟨g, 0, none⟩) m c) (hb : w.heap[g]? = some (.cells cs 5 (0, 0))) (hcs : cs.toList = Lib.byteCells news) (hlen : l.length + m ≤ 1099511627776) (hB : B ≤ w.heap.size)
    (h : ∀ v' w', Own w' B v' (l ++ news) → Below B w w' → wpList Try.prog ops Q rest (a.put o.dst v') w') : wpList Try.prog ops Q (o :: rest) a w := by
  obtain ⟨i0, hi, hz0, hz1, hz2⟩ := info_parts infoByte
  have hown' : w.ownsRow B 5 1 v l.length (Lib.byteCells l) := hown
  refine wpList_append_own w hgd s x 91 ho B 5 i0 (.int .u8 0) 1 1 Try.underlying91 hi hz0 hz1 hz2 rfl (by decide) v l.length (Lib.byteCells l) hs hown' ⟨g, 0, none⟩ m c (Lib.byteCells news) hx (by simp [Lib.byteCells, hm]) ?_ (cells_one _) (by unfold maxLen; omega) (by omega) hB ?_
  · rw [← hcs]; exact World.news_of_block hb
  · intro v' w' h1 h2 _
    refine h v' w' ?_ (Own.grownB hown hB h2)
    unfold Own
    rw [List.length_append, hm]
    simpa [Lib.byteCells] using h1

/-- The same, as one step of a region that draws its order. -/
theorem step_app {ops : Array Oper} {o : Oper} {a : Act} {K : Act → World → Prop} {Q : Exit → Act → World → Prop} {E : Prop} (w : World) (hgd : o.guard = none) (s x : Operand)
    (ho : o.op = .call { callee := .builtin .append, args := #[s, x], argTypes := #[91, 91] })
    (B : Nat) (v : Value) (l : List UInt8) (hs : a.eval s = v) (hown : Own w B v l) (g m c : Nat) (cs : Array Value) (news : List UInt8) (hm : news.length = m) (hm0 : 0 < m)
    (hx : a.eval x = .slice (some ⟨g, 0, none⟩) m c) (hb : w.heap[g]? = some (.cells cs 5 (0, 0))) (hcs : cs.toList = Lib.byteCells news) (hlen : l.length + m ≤ 1099511627776) (hB : B ≤ w.heap.size)
    (h : ∀ v' w', Own w' B v' (l ++ news) → Below B w w' → K (a.put o.dst v') w') :
    if Region.wanted o (yielded ops a.tmps) = true then Oper.wp Try.prog o a w K Q else E := by
  obtain ⟨i0, hi, hz0, hz1, hz2⟩ := info_parts infoByte
  have hown' : w.ownsRow B 5 1 v l.length (Lib.byteCells l) := hown
  refine step_append_lies w hgd s x 91 ho B 5 i0 (.int .u8 0) 1 1 Try.underlying91 hi hz0 hz1 hz2 rfl (by decide) v l.length (Lib.byteCells l) hs hown' ⟨g, 0, none⟩ m c (Lib.byteCells news) hx (by simp [Lib.byteCells, hm]) ?_ (cells_one _) hm0 (by unfold maxLen; omega) (by omega) hB w.heap.size rfl ?_
  · rw [← hcs]; exact World.news_of_block hb
  · intro g' cap' w' h1 h2 _ _
    refine h _ w' ?_ (Own.grownB hown hB h2)
    unfold Own
    rw [List.length_append, hm]
    simpa [Lib.byteCells] using h1

/-- 'string(buf)', the row not nil. -/
theorem conv_own {w : World} {B : Nat} {g n cap : Nat} {l : List UInt8} (hown : Own w B (.slice (some ⟨g, 0, none⟩) n cap) l) :
    (convert 91 9 (.slice (some ⟨g, 0, none⟩) n cap)).run Try.prog w = .ok (.string ⟨l.toArray⟩) w := by
  have hn : n = l.length := by
    rcases hown.2 with ⟨h, _⟩ | ⟨g', cap', cur, h, _⟩
    · cases h
    · injection h
  subst hn
  exact run_convert_bytes_back (P := Try.prog) w 91 9 5 ⟨g, 0, none⟩ cap l Try.underlying91 Try.underlying5 Try.underlying9 (fun j hj => World.ownsRow.cells hown (g := g) rfl j _ (by simp [Lib.byteCells, hj]))

theorem own_len {w : World} {B : Nat} {g n cap : Nat} {l : List UInt8} (hown : Own w B (.slice (some ⟨g, 0, none⟩) n cap) l) : n = l.length := by
  rcases hown.2 with ⟨h, _⟩ | ⟨g', cap', cur, h, _⟩
  · cases h
  · injection h
theorem own_form {w : World} {B : Nat} {v : Value} {l : List UInt8} (hown : Own w B v l) (hne : 0 < l.length) : ∃ g n cap, v = .slice (some ⟨g, 0, none⟩) n cap := by
  rcases hown.2 with ⟨_, h⟩ | ⟨g', cap', cur, h, _⟩
  · omega
  · exact ⟨g', _, cap', h⟩
theorem heap_setCell {w : World} {b i : Nat} {cs : Array Value} {t : TypeId} {fz : Nat × Nat} (v : Value) (h : w.heap[b]? = some (.cells cs t fz)) : (w.setCell ⟨b, i, none⟩ v).heap[b]? = some (.cells (cs.setIfInBounds i v) t fz) := by
  simp [World.setCell, Array.getElem?_modify, h]
theorem cell_heap {w : World} {b : Nat} {cs : Array Value} {t : TypeId} {fz : Nat × Nat} (h : w.heap[b]? = some (.cells cs t fz)) (i : Nat) : w.cell? ⟨b, i, none⟩ = cs[i]? := by simp [World.cell?, h]
theorem frozen_heap {w : World} {b : Nat} {cs : Array Value} {t : TypeId} (h : w.heap[b]? = some (.cells cs t (0, 0))) (i : Nat) : w.frozen? ⟨b, i, none⟩ = false := by simp [World.frozen?, h]
theorem lt_heap {w : World} {b : Nat} {o : Obj} (h : w.heap[b]? = some o) : b < w.heap.size := by
  rcases Nat.lt_or_ge b w.heap.size with h' | h'
  · exact h'
  · rw [Array.getElem?_eq_none h'] at h
    cases h
theorem heap_new (w : World) (o : Obj) : (w.alloc o).heap[w.heap.size]? = some o := by
  show (w.heap.push o)[w.heap.size]? = some o
  simp
theorem heap_at {w : World} {o : Obj} {k : Nat} (h : k = w.heap.size) : (w.alloc o).heap[k]? = some o := by
  rw [h]; exact heap_new w o
theorem own_new (w : World) (cs : Array Value) (l : List UInt8) (h : cs.toList = Lib.byteCells l) (hl : l.length ≤ 1000) : Own (w.alloc (.cells cs 5)) w.heap.size (.slice (some ⟨w.heap.size, 0, none⟩) l.length l.length) l := by
  have hs : cs.size = l.length := by rw [← Array.length_toList, h]; simp [Lib.byteCells]
  refine ⟨by simp [Lib.byteCells], Or.inr ⟨w.heap.size, l.length, cs, rfl, Nat.le_refl _, heap_top _ _, Nat.le_refl _, by unfold maxLen; omega, by omega, ?_⟩⟩
  rw [h, List.take_of_length_le (by simp [Lib.byteCells])]
theorem below_alloc {w w1 : World} {o : Obj} (hb : Below (w.alloc o).heap.size (w.alloc o) w1) : Below w.heap.size w w1 :=
  ((Below.refl _ _).alloc (Nat.le_refl _) o).trans (hb.mono (by simp))
theorem below_one {w w1 : World} {o : Obj} (hb : Below (w.heap.size + 1) (w.alloc o) w1) : Below w.heap.size w w1 :=
  ((Below.refl _ _).alloc (Nat.le_refl _) o).trans (hb.mono (by omega))
theorem below_undrew {w w1 : World} (h : Below w.drew.heap.size w.drew w1) : Below w.heap.size w w1 := ⟨h.os, h.tape, h.output, h.size, h.block⟩
theorem mk_append (a b : List UInt8) : (⟨a.toArray⟩ : ByteArray) ++ (⟨b.toArray⟩ : ByteArray) = ⟨(a ++ b).toArray⟩ := by
  have h : ((⟨a.toArray⟩ : ByteArray) ++ (⟨b.toArray⟩ : ByteArray)).data = (a ++ b).toArray := by
    rw [ByteArray.data_append]; simp
  cases e : (⟨a.toArray⟩ : ByteArray) ++ (⟨b.toArray⟩ : ByteArray) with
  | mk d => rw [e] at h; rw [← h]

theorem mixed : Try.prog.follows .mixedOrders = true := by kernel_rfl
/-- One byte of an own row, read. -/
theorem Own.at {w : World} {B g n cap : Nat} {l : List UInt8} (h : Own w B (.slice (some ⟨g, 0, none⟩) n cap) l) (j : Nat) (hj : j < l.length) : w.cell? ⟨g, j, none⟩ = some (.int .u8 ((l.getD j 0).toNat : Int)) := by
  have hn := own_len h
  subst hn
  have := World.ownsRow.cellAt (size := 1) h j (by omega)
  rw [this]
  simp [Lib.byteCells, List.getElem?_eq_getElem hj, List.getD_eq_getElem?_getD]
theorem Own.cold {w : World} {B g n cap : Nat} {l : List UInt8} (h : Own w B (.slice (some ⟨g, 0, none⟩) n cap) l) (j : Nat) : w.frozen? ⟨g, j, none⟩ = false := by
  have hn := own_len h
  subst hn
  exact World.ownsRow.frozenAt (size := 1) h j
/-- One byte of an own row, written. -/
theorem Own.put {w : World} {B g n cap : Nat} {l : List UInt8} (h : Own w B (.slice (some ⟨g, 0, none⟩) n cap) l) (j : Nat) (c : UInt8) : Own (w.setCell ⟨g, j, none⟩ (.int .u8 (c.toNat : Int))) B (.slice (some ⟨g, 0, none⟩) n cap) (l.set j c) ∧ Below B w (w.setCell ⟨g, j, none⟩ (.int .u8 (c.toNat : Int))) := by
  have hn := own_len h
  subst hn
  have hlt := (World.ownsRow.lt h g rfl).1
  refine ⟨?_, (Below.refl _ _).setCell hlt _⟩
  have := (World.ownsRow.stored (size := 1) h j (.int .u8 (c.toNat : Int))).1
  unfold Own
  rw [List.length_set]
  have e : Lib.byteCells (l.set j c) = (Lib.byteCells l).set j (.int .u8 (c.toNat : Int)) := by simp [Lib.byteCells, List.map_set]
  rw [e]
  exact this
end Go.Proofs.Ytdmjpdhjebmnfaa
