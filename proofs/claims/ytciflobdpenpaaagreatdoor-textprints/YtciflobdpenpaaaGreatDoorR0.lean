import Derived.Test.YtciflobdpenpaaaGreatDoorQ6
import Derived.Test.YtciflobdpenpaaaGreatDoorQ1
import Derived.Test.YtciflobdpenpaaaGreatDoorQ2
import Derived.Test.YtciflobdpenpaaaGreatDoorQ3
import Derived.Test.YtciflobdpenpaaaGreatDoorQ4
import Derived.Test.YtciflobdpenpaaaGreatDoorQ5
import Derived.WalkKit
import Derived.WalkSpells
import Derived.WalkLawsBesides
import Derived.WalkSmall
import Derived.Lib.SmallJoins
import Derived.Lib.Bytealg
import Derived.Lib.UnsafeStr
import Derived.Lib.ItoaLen
import Derived.Lib.Slices
import Derived.Laws.IdiomStrings
import Derived.Laws.OwnMore
import Derived.OwnWalk
import Derived.BigCall
import Derived.Deep.RegionHeld3
import Derived.Deep.AppendLies
import Derived.Deep.DrawnRows
import Derived.Lib.AppendIntMem
import Derived.Deep.QuietTactic
import Derived.BigQuiet
import Derived.Lib.QuietBelow
import Derived.ProofKit
import Derived.OpenShut
import Derived.Carry
import Derived.Deep.Slices
import Derived.Laws.AppendOwnNone
set_option linter.unusedSimpArgs false
set_option linter.unusedVariables false
namespace Go.Proofs.YtciflobdpenpaaaGreatDoor
open Go.RowKit

theorem below_undrew {w w1 : World} (h : Below w.drew.heap.size w.drew w1) : Below w.heap.size w w1 := ⟨h.os, h.tape, h.output, h.size, h.block⟩
theorem mk_append (a b : List UInt8) : (⟨a.toArray⟩ : ByteArray) ++ (⟨b.toArray⟩ : ByteArray) = ⟨(a ++ b).toArray⟩ := by
  have h : ((⟨a.toArray⟩ : ByteArray) ++ (⟨b.toArray⟩ : ByteArray)).data = (a ++ b).toArray := by
    rw [ByteArray.data_append]; simp
  cases e : (⟨a.toArray⟩ : ByteArray) ++ (⟨b.toArray⟩ : ByteArray) with
  | mk d => rw [e] at h; rw [← h]

end Go.Proofs.YtciflobdpenpaaaGreatDoor
namespace Go.Proofs.YtciflobdpenpaaaGreatDoor

end Go.Proofs.YtciflobdpenpaaaGreatDoor
namespace Go.Proofs.YtciflobdpenpaaaGreatDoor
open Go.RowKit
attribute [local go_sem ↓] Go.wp_at_zero Go.wp_at_succ

theorem one_dig (u : Nat) (h : u < 10) : 48 + (u : Int) = ((UInt8.ofNat (48 + u)).toNat : Int) := by
  rw [UInt8.toNat_ofNat']; omega
theorem last_dig (u : Nat) (h : u < 18446744073709551616) : IntKind.u8.wrap (IntKind.u64.wrap (48 + (u : Int).tmod 10)) = ((UInt8.ofNat (48 + u % 10)).toNat : Int) := by
  rw [UInt8.toNat_ofNat', IntKind.wrap_u64, IntKind.wrap_u8, Int.tmod_eq_emod_of_nonneg (by omega)]; omega
theorem dec_short (u : Nat) (h : u < 18446744073709551616) : (Lib.decDigits u).length ≤ 20 := by
  rw [Lib.decDigits_length]
  by_cases h0 : u = 0
  · subst h0; rw [Lib.nDigits_small (by omega)]; omega
  · have := Lib.numDigits_eq u (by omega) h
    split at this <;> omega

end Go.Proofs.YtciflobdpenpaaaGreatDoor
namespace Go.Proofs.YtciflobdpenpaaaGreatDoor
open Go.Deep Go.ChangeShapes Go.WideShapes Go.ChangeAt Go.WideMaps Go.WideElems Go.RowKit Go.Joins

section
variable {H : Type} {enc : TypeId × Value → H} {W : World}
end
end Go.Proofs.YtciflobdpenpaaaGreatDoor
namespace Go.Proofs.YtciflobdpenpaaaGreatDoor
open Go.RowKit

end Go.Proofs.YtciflobdpenpaaaGreatDoor
namespace Go.Proofs.YtciflobdpenpaaaGreatDoor
open Go.RowKit

end Go.Proofs.YtciflobdpenpaaaGreatDoor
namespace Go.Proofs.YtciflobdpenpaaaGreatDoor
open Go.RowKit

end Go.Proofs.YtciflobdpenpaaaGreatDoor
namespace Go.Proofs.YtciflobdpenpaaaGreatDoor
open Go.RowKit

end Go.Proofs.YtciflobdpenpaaaGreatDoor
namespace Go.Proofs.YtciflobdpenpaaaGreatDoor
open Go.RowKit

end Go.Proofs.YtciflobdpenpaaaGreatDoor
namespace Go.Proofs.YtciflobdpenpaaaGreatDoor
open Go.RowKit

end Go.Proofs.YtciflobdpenpaaaGreatDoor
namespace Go.Proofs.YtciflobdpenpaaaGreatDoor
open Go.RowKit

end Go.Proofs.YtciflobdpenpaaaGreatDoor
namespace Go.Proofs.YtciflobdpenpaaaGreatDoor

end Go.Proofs.YtciflobdpenpaaaGreatDoor
namespace Go.Proofs.YtciflobdpenpaaaGreatDoor

end Go.Proofs.YtciflobdpenpaaaGreatDoor
namespace Go.Proofs.YtciflobdpenpaaaGreatDoor

end Go.Proofs.YtciflobdpenpaaaGreatDoor
namespace Go.Proofs.YtciflobdpenpaaaGreatDoor
open Go.RowKit

end Go.Proofs.YtciflobdpenpaaaGreatDoor
namespace Go.Proofs.YtciflobdpenpaaaGreatDoor
open Go.RowKit

end Go.Proofs.YtciflobdpenpaaaGreatDoor
namespace Go.Proofs.YtciflobdpenpaaaGreatDoor

end Go.Proofs.YtciflobdpenpaaaGreatDoor
namespace Go.Proofs.YtciflobdpenpaaaGreatDoor
open Go.RowKit

end Go.Proofs.YtciflobdpenpaaaGreatDoor
namespace Go.Proofs.YtciflobdpenpaaaGreatDoor

end Go.Proofs.YtciflobdpenpaaaGreatDoor
namespace Go.Proofs.YtciflobdpenpaaaGreatDoor
open Go.RowKit

end Go.Proofs.YtciflobdpenpaaaGreatDoor
namespace Go.Proofs.YtciflobdpenpaaaGreatDoor
open Go.RowKit

end Go.Proofs.YtciflobdpenpaaaGreatDoor
set_option linter.unusedSimpArgs false
set_option linter.unusedVariables false
namespace Go.Proofs.YtciflobdpenpaaaGreatDoor
open Go.RowKit

theorem bs_of (s : ByteArray) : bs s.data.toList = s := rfl
end Go.Proofs.YtciflobdpenpaaaGreatDoor
set_option linter.unusedSimpArgs false
set_option linter.unusedVariables false
namespace Go.Proofs.YtciflobdpenpaaaGreatDoor
open Go.RowKit

section
variable {ops : Array Oper} {Q : Exit → Act → World → Prop} {S : World → Prop} {o : Oper} {a : Act}
end

theorem c_refRight {n : Nat} {w : World} {c : EC} {x : ExV} (h : Xp n w c x) : Calls Tryz.prog 14 #[c.val] w fun r w' => r = .returned (.bool (rightX x)) ∧ Below w.heap.size w w' := refRightX_any n x c w h
end Go.Proofs.YtciflobdpenpaaaGreatDoor
