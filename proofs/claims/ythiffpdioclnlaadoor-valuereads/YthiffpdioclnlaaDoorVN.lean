/-
  sync.Once, alone: its parts, doSlow, Do; then the names of package value: laid, Name, Attr, of an object and of none.
-/
import Derived.Test.YthiffpdioclnlaaDoorVA
import Derived.Test.YthiffpdioclnlaaDoorVL
import Derived.Tactics
import Derived.Tactics2
import Derived.Defers
import Derived.Laws.Pointers
import Derived.Laws.LoneSync
import Derived.Laws.NewBlocks
import Derived.RegionTactic
import Derived.RegionCalls
import Derived.ChangeAlike
set_option linter.unusedSimpArgs false
set_option linter.unusedVariables false
namespace Go.Proofs.YthiffpdioclnlaaDoor
open Go.RowKit

set_option maxHeartbeats 800000 in
/-- The closure that lays the names. -/
theorem lays_names (b : Nat) (pl : Addr) (hpb : ¬ b = pl.block) (x3 x4 x5 x6 : Value) (w : World) (hp : w.cell? pl = some (.pointer (some ⟨b, 0, none⟩)))
    (h3 : w.cell? ⟨b, 3, none⟩ = some x3) (h4 : w.cell? ⟨b, 4, none⟩ = some x4) (h5 : w.cell? ⟨b, 5, none⟩ = some x5) (h6 : w.cell? ⟨b, 6, none⟩ = some x6)
    (f3 : w.frozen? ⟨b, 3, none⟩ = false) (f4 : w.frozen? ⟨b, 4, none⟩ = false) (f5 : w.frozen? ⟨b, 5, none⟩ = false) (f6 : w.frozen? ⟨b, 6, none⟩ = false) :
    Calls Tryd.prog 43 #[.pointer (some pl)] w fun e w' => e = .returned (.tuple #[]) ∧
      w' = (((w.setCell ⟨b, 3, none⟩ (.string ⟨#[97]⟩)).setCell ⟨b, 4, none⟩ (.string ⟨#[98]⟩)).setCell ⟨b, 5, none⟩ (.string ⟨#[99]⟩)).setCell ⟨b, 6, none⟩ (.string ⟨#[100]⟩) := by
  go_enter Tryd.func43, Tryd.ntmps43
  go_wp2
  go_end0
  exact ⟨rfl, rfl⟩

/-- The world behind the slow road. -/
def slowW (w : World) (b : Nat) : World :=
  (((((((w.setCell ⟨b, 1, none⟩ (.int .i32 1)).setCell ⟨b, 3, none⟩ (.string ⟨#[97]⟩)).setCell ⟨b, 4, none⟩ (.string ⟨#[98]⟩)).setCell ⟨b, 5, none⟩ (.string ⟨#[99]⟩)).setCell ⟨b, 6, none⟩ (.string ⟨#[100]⟩)).drew.setCell ⟨b, 0, none⟩ (.int .u32 1)).setCell ⟨b, 1, none⟩ (.int .i32 0))

theorem so {w : World} {a b : Addr} {u v : Value} (h : a ≠ b) (hv : w.cell? b = some v) : (w.setCell a u).cell? b = some v := (World.cell?_setCell_other _ _ _ _ h).trans hv

set_option maxRecDepth 100000 in
set_option maxHeartbeats 1600000 in
theorem slow_any (b : Nat) (pl : Addr) (hpb : ¬ b = pl.block) (x3 x4 x5 x6 : Value) (w : World) (hp : w.cell? pl = some (.pointer (some ⟨b, 0, none⟩)))
    (h0 : w.cell? ⟨b, 0, none⟩ = some (.int .u32 0)) (h1 : w.cell? ⟨b, 1, none⟩ = some (.int .i32 0))
    (h3 : w.cell? ⟨b, 3, none⟩ = some x3) (h4 : w.cell? ⟨b, 4, none⟩ = some x4) (h5 : w.cell? ⟨b, 5, none⟩ = some x5) (h6 : w.cell? ⟨b, 6, none⟩ = some x6)
    (hf : ∀ i, w.frozen? ⟨b, i, none⟩ = false) :
    Calls Tryd.prog 49 #[.pointer (some ⟨b, 0, none⟩), .func (.func 43) #[] #[.pointer (some pl)]] w fun e w' => e = .returned (.tuple #[]) ∧ w' = slowW w b := by
  unfold slowW
  have n1 : ∀ j, j ≠ 1 → (⟨b, 1, none⟩ : Addr) ≠ ⟨b, j, none⟩ := fun j hj h => hj (by simpa using (congrArg Addr.off h).symm)
  have np : ∀ j, (⟨b, j, none⟩ : Addr) ≠ pl := fun j h => hpb (by rw [← h])
  have hl := run_call_load (P := Tryd.prog) Tryd.func60 (by kernel_rfl) (by kernel_rfl) (by kernel_rfl) .u32 (by kernel_rfl) (w := w.setCell ⟨b, 1, none⟩ (.int .i32 1)) (a := ⟨b, 0, none⟩) (x := 0) (so (n1 _ (by decide)) h0)
  have hcl := lays_names b pl hpb x3 x4 x5 x6 (w.setCell ⟨b, 1, none⟩ (.int .i32 1)) (so (np _) hp) (so (n1 _ (by decide)) h3) (so (n1 _ (by decide)) h4) (so (n1 _ (by decide)) h5) (so (n1 _ (by decide)) h6) (by simp [hf]) (by simp [hf]) (by simp [hf]) (by simp [hf])
  have hnot : ∀ (x : Bool) (w : World), (Op.unary .not (.bool x)).run Tryd.prog w = .ok (.bool (!x)) w := fun _ _ => rfl
  have Hcl := hide hcl
  clear hcl np n1
  go_enter_defers Tryd.func49, Tryd.ntmps49
  go_wp2_with (first | (go_at_call 61; refine (lock_free ⟨b, 1, none⟩ _ (by go_simp) (by go_simp)).mono ?_; rintro e w' ⟨rfl, rfl⟩) | (go_at_call 48; go_in))
  refine (unhide Hcl).mono ?_
  rintro e w' ⟨rfl, rfl⟩
  go_wp2
  refine leaves_cons (f := 63) (args := #[.pointer (some ⟨b, 0, none⟩), .bool true]) (by simp) (by simp [go_sem]) ?_
  have n0 : ∀ (j k : Nat), j ≠ k → (⟨b, j, none⟩ : Addr) ≠ ⟨b, k, none⟩ := fun j k hj h => hj (by simpa using (congrArg Addr.off h))
  refine (store_deferred ⟨b, 0, none⟩ (.int .u32 0) .returning _ ?_ (by simp [hf])).mono ?_
  · exact so (n0 _ _ (by decide)) (so (n0 _ _ (by decide)) (so (n0 _ _ (by decide)) (so (n0 _ _ (by decide)) (so (n0 _ _ (by decide)) h0))))
  rintro e u' w'' ⟨rfl, rfl, rfl⟩
  refine leaves_cons (f := 62) (args := #[.pointer (some ⟨b, 1, none⟩)]) (by simp [settle]) (by simp [go_sem]) ?_
  refine (unlock_deferred ⟨b, 1, none⟩ _ _ ?_ (by simp [hf])).mono ?_
  · refine so (n0 _ _ (by decide)) ?_
    rw [World.cell?_drew]
    exact so (n0 _ _ (by decide)) (so (n0 _ _ (by decide)) (so (n0 _ _ (by decide)) (so (n0 _ _ (by decide)) (World.cell?_setCell_same w _ _ h1))))
  rintro e u' w'' ⟨rfl, rfl, rfl⟩
  simp [Leaves, settle, results, Tryd.results49]

set_option maxRecDepth 100000 in
set_option maxHeartbeats 1600000 in
/-- '(*sync.Once).Do', not yet done, the lock free. -/
theorem do_first (b : Nat) (pl : Addr) (hpb : ¬ b = pl.block) (x3 x4 x5 x6 : Value) (w : World) (hp : w.cell? pl = some (.pointer (some ⟨b, 0, none⟩)))
    (h0 : w.cell? ⟨b, 0, none⟩ = some (.int .u32 0)) (h1 : w.cell? ⟨b, 1, none⟩ = some (.int .i32 0))
    (h3 : w.cell? ⟨b, 3, none⟩ = some x3) (h4 : w.cell? ⟨b, 4, none⟩ = some x4) (h5 : w.cell? ⟨b, 5, none⟩ = some x5) (h6 : w.cell? ⟨b, 6, none⟩ = some x6)
    (hf : ∀ i, w.frozen? ⟨b, i, none⟩ = false) :
    Calls Tryd.prog 42 #[.pointer (some ⟨b, 0, none⟩), .func (.func 43) #[] #[.pointer (some pl)]] w fun e w' => e = .returned (.tuple #[]) ∧ w' = slowW w b := by
  have hl := run_call_load (P := Tryd.prog) Tryd.func60 (by kernel_rfl) (by kernel_rfl) (by kernel_rfl) .u32 (by kernel_rfl) h0
  have hnot : ∀ (x : Bool) (w : World), (Op.unary .not (.bool x)).run Tryd.prog w = .ok (.bool (!x)) w := fun _ _ => rfl
  have Hs := hide (slow_any b pl hpb x3 x4 x5 x6 w hp h0 h1 h3 h4 h5 h6 hf)
  go_enter Tryd.func42, Tryd.ntmps42
  go_wp2_with (first | (go_at_call 49; refine (unhide Hs).mono ?_; rintro e w' ⟨rfl, rfl⟩) | (go_at_call 48; go_in))
  go_end0
  exact ⟨rfl, rfl⟩

/-- '(*sync.Once).Do', done already: the function is not called. -/
theorem do_done (a : Addr) (fv : Value) (w : World) (h0 : w.cell? a = some (.int .u32 1)) :
    Calls Tryd.prog 42 #[.pointer (some a), fv] w fun e w' => e = .returned (.tuple #[]) ∧ w' = w := by
  have hl := run_call_load (P := Tryd.prog) Tryd.func60 (by kernel_rfl) (by kernel_rfl) (by kernel_rfl) .u32 (by kernel_rfl) h0
  have hnot : ∀ (x : Bool) (w : World), (Op.unary .not (.bool x)).run Tryd.prog w = .ok (.bool (!x)) w := fun _ _ => rfl
  go_enter Tryd.func42, Tryd.ntmps42
  go_wp2
  go_end0
  exact ⟨rfl, rfl⟩
end Go.Proofs.YthiffpdioclnlaaDoor
