/-
  Rows of ranges of the call's own.
-/
import Derived.Test.YtdmjpdhjebmnfaaSB
import Derived.Test.YtdmjpdhjebmnfaaSK
set_option linter.unusedSimpArgs false
set_option linter.unusedVariables false
namespace Go.Proofs.Ytdmjpdhjebmnfaa
open Go.RowKit

def rgCells (l : List Rg) : List Value := l.flatMap fun v => [.int .i64 v.1, .int .i64 v.2]
theorem rgCells_append (a b : List Rg) : rgCells (a ++ b) = rgCells a ++ rgCells b := by unfold rgCells; rw [List.flatMap_append]
theorem rgCells_len : ∀ l : List Rg, (rgCells l).length = l.length * 2
  | [] => rfl
  | v :: l => by
    have := rgCells_len l
    unfold rgCells at *
    rw [List.flatMap_cons, List.length_append, this]
    simp; omega
theorem rgCells_one (l : List Rg) : ∀ u ∈ rgCells l, u.oneCell' = true := by
  intro u hu
  unfold rgCells at hu
  obtain ⟨v, _, hv⟩ := List.mem_flatMap.1 hu
  simp at hv
  rcases hv with rfl | rfl <;> rfl
theorem infoRg : (Try.prog.info? 45).map (fun i => (i.zero, i.size, i.bytes)) = some (some (.agg #[.int .i64 0, .int .i64 0]), 2, 16) := by kernel_rfl
/-- The slice value owns just these ranges, from block B on. -/
def OwnR (w : World) (B : Nat) (v : Value) (l : List Rg) : Prop := w.ownsRow B 45 2 v l.length (rgCells l)
theorem OwnR.alloc {w : World} {B : Nat} {v : Value} {l : List Rg} (h : OwnR w B v l) (o : Obj) : OwnR (w.alloc o) B v l := World.ownsRow.alloc h o
theorem OwnR.drewN {w : World} {B : Nat} {v : Value} {l : List Rg} (h : OwnR w B v l) (n : Nat) : OwnR (w.drewN n) B v l := h
theorem OwnR.grownB {w w' : World} {B : Nat} {v : Value} {l : List Rg} (h : OwnR w B v l) (hB : B ≤ w.heap.size) (hg : w.grownBy w' v.ownBlock) : Below B w w' :=
  (Below.refl _ _).grown hg hB (fun k hk => (World.ownsRow.lt h k hk).1)
theorem OwnR.on {w w' : World} {B : Nat} {v : Value} {l : List Rg} (h : OwnR w B v l) (hb : Below w.heap.size w w') : OwnR w' B v l :=
  World.ownsRow.kept (row := none) h ⟨hb.os, hb.tape, hb.output, hb.size, fun k hk _ => hb.block k hk⟩ (by cases v.ownBlock <;> simp)
theorem ownR_none (w : World) (B : Nat) : OwnR w B (.slice none 0 0) [] := ⟨rfl, Or.inl ⟨rfl, rfl⟩⟩
theorem wpList_appR {ops : Array Oper} {rest : List Oper} {o : Oper} {a : Act} {Q : Exit → Act → World → Prop} (w : World) (hgd : o.guard = none) (s x : Operand)
    (ho : o.op = .call { callee := .builtin .append, args := #[s, x], argTypes := #[22, 22] })
    (B : Nat) (v : Value) (l : List Rg) (hs : a.eval s = v) (hown : OwnR w B v l) (g m c : Nat) (cs : Array Value) (news : List Rg) (hm : news.length = m)
    (hx : a.eval x = .slice (some ⟨g, 0, none⟩) m c) (hb : w.heap[g]? = some (.cells cs 45 (0, 0))) (hcs : cs.toList = rgCells news) (hlen : l.length + m ≤ 1000000) (hB : B ≤ w.heap.size)
    (h : ∀ v' w', OwnR w' B v' (l ++ news) → Below B w w' → wpList Try.prog ops Q rest (a.put o.dst v') w') : wpList Try.prog ops Q (o :: rest) a w := by
  obtain ⟨i0, hi, hz0, hz1, hz2⟩ := info_parts infoRg
  refine wpList_append_own w hgd s x 22 ho B 45 i0 _ 2 16 Try.underlying22 hi hz0 hz1 hz2 rfl (by decide) v l.length (rgCells l) hs hown ⟨g, 0, none⟩ m c (rgCells news) hx (by rw [rgCells_len, hm]) ?_ (rgCells_one _) (by unfold maxLen; omega) (by omega) hB ?_
  · rw [← hcs]; exact World.news_of_block hb
  · intro v' w' h1 h2 _
    refine h v' w' ?_ (OwnR.grownB hown hB h2)
    unfold OwnR
    rw [List.length_append, hm, rgCells_append]
    exact h1
theorem OwnR.form {w : World} {B : Nat} {v : Value} {l : List Rg} (h : OwnR w B v l) (hne : 0 < l.length) : ∃ g cap, v = .slice (some ⟨g, 0, none⟩) l.length cap ∧ B ≤ g ∧ g < w.heap.size := by
  rcases h.2 with ⟨_, h⟩ | ⟨g, cap, cur, h1, h2, h3, _⟩
  · omega
  · exact ⟨g, cap, h1, h2, lt_heap h3⟩
theorem rgCells_at : ∀ (l : List Rg) (i : Nat), i < l.length → (rgCells l)[i * 2]? = some (.int .i64 (l.getD i (0, 0)).1) ∧ (rgCells l)[i * 2 + 1]? = some (.int .i64 (l.getD i (0, 0)).2)
  | [], i, h => by simp at h
  | v :: l, 0, _ => by simp [rgCells]
  | v :: l, i + 1, h => by
    have ih := rgCells_at l i (by simpa using h)
    have e : rgCells (v :: l) = [.int .i64 v.1, .int .i64 v.2] ++ rgCells l := rfl
    rw [e]
    refine ⟨?_, ?_⟩
    · rw [List.getElem?_append_right (by simp; omega)]
      simpa [show (i + 1) * 2 - 2 = i * 2 by omega] using ih.1
    · rw [List.getElem?_append_right (by simp; omega)]
      simpa [show (i + 1) * 2 + 1 - 2 = i * 2 + 1 by omega] using ih.2
theorem OwnR.at {w : World} {B g n cap : Nat} {l : List Rg} (h : OwnR w B (.slice (some ⟨g, 0, none⟩) n cap) l) (i : Nat) (hi : i < l.length) : w.cell? ⟨g, i * 2, none⟩ = some (.int .i64 (l.getD i (0, 0)).1) ∧ w.cell? ⟨g, i * 2 + 1, none⟩ = some (.int .i64 (l.getD i (0, 0)).2) := by
  obtain ⟨hl, hr⟩ := h
  rcases hr with ⟨h0, _⟩ | ⟨g', cap', cur, h1, h2, h3, h4, h5, h6, h7⟩
  · cases h0
  · injection h1 with e1 e2 e3
    injection e1 with e1
    injection e1 with e1
    subst e1
    have hc : ∀ j, j < l.length * 2 → w.cell? ⟨g, j, none⟩ = (rgCells l)[j]? := fun j hj => by
      rw [cell_heap h3, ← h7, List.getElem?_take, if_pos hj]
      simp
    obtain ⟨a1, a2⟩ := rgCells_at l i hi
    exact ⟨(hc _ (by omega)).trans a1, (hc _ (by omega)).trans a2⟩
theorem OwnR.len {w : World} {B g n cap : Nat} {l : List Rg} (h : OwnR w B (.slice (some ⟨g, 0, none⟩) n cap) l) : n = l.length := by
  rcases h.2 with ⟨h0, _⟩ | ⟨g', cap', cur, h1, _⟩
  · cases h0
  · injection h1
theorem OwnR.cold {w : World} {B g n cap : Nat} {l : List Rg} (h : OwnR w B (.slice (some ⟨g, 0, none⟩) n cap) l) (j : Nat) : w.frozen? ⟨g, j, none⟩ = false := by
  have hn := h.len
  subst hn
  exact World.ownsRow.frozenAt (size := 2) h j
theorem rgCells_set (o : List Rg) (q : Rg) (x : Int) : (rgCells (o ++ [q])).set (o.length * 2 + 1) (.int .i64 x) = rgCells (o ++ [(q.1, x)]) := by
  rw [rgCells_append, rgCells_append, List.set_append, if_neg (by rw [rgCells_len]; omega), rgCells_len, show o.length * 2 + 1 - o.length * 2 = 1 by omega]
  rfl
/-- The last one's end, written. -/
theorem OwnR.put {w : World} {B g n cap : Nat} {o : List Rg} {q : Rg} (h : OwnR w B (.slice (some ⟨g, 0, none⟩) n cap) (o ++ [q])) (x : Int) : OwnR (w.setCell ⟨g, o.length * 2 + 1, none⟩ (.int .i64 x)) B (.slice (some ⟨g, 0, none⟩) n cap) (o ++ [(q.1, x)]) ∧ Below B w (w.setCell ⟨g, o.length * 2 + 1, none⟩ (.int .i64 x)) := by
  have hn := h.len
  subst hn
  have hlt := (World.ownsRow.lt h g rfl).1
  refine ⟨?_, (Below.refl _ _).setCell hlt _⟩
  have := (World.ownsRow.stored (size := 2) h (o.length * 2 + 1) (.int .i64 x)).1
  rw [rgCells_set] at this
  unfold OwnR
  rw [show (o ++ [(q.1, x)]).length = (o ++ [q]).length by simp]
  exact this
/-- The last one's end, as memory has it. -/
def lastM (w : World) (v : Value) : Option Int := match v with
  | .slice (some a) n _ => (match w.cell? ⟨a.block, (n - 1) * 2 + 1, none⟩ with
    | some (.int _ h) => some h
    | _ => none)
  | _ => none
theorem lastM_eq {w : World} {B : Nat} {v : Value} {l : List Rg} (h : OwnR w B v l) (h0 : l = [] → v = .slice none 0 0) : lastM w v = lastH l := by
  rcases List.eq_nil_or_concat l with e | ⟨o, q, e⟩
  · rw [h0 e, e]; rfl
  · rw [List.concat_eq_append] at e
    subst e
    obtain ⟨g, cap, rfl, _, _⟩ := h.form (by simp)
    have hc := (h.at o.length (by simp)).2
    rw [lastH_concat]
    unfold lastM
    dsimp only
    rw [show (o ++ [q]).length - 1 = o.length by simp, hc]
    simp [List.getD_eq_getElem?_getD]
end Go.Proofs.Ytdmjpdhjebmnfaa
