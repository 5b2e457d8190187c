import Derived.Test.YtciflobdpenpaaaGreatDoorQ6
import Derived.Test.YtciflobdpenpaaaGreatDoorQ1
import Derived.Test.YtciflobdpenpaaaGreatDoorQ2
import Derived.Test.YtciflobdpenpaaaGreatDoorQ3
import Derived.Test.YtciflobdpenpaaaGreatDoorQ4
import Derived.Test.YtciflobdpenpaaaGreatDoorQ5
set_option linter.unusedSimpArgs false
set_option linter.unusedVariables false
namespace Go.Proofs.YtciflobdpenpaaaGreatDoor

/-- Unlike ones have unlike texts, and none is another one's beginning. -/
theorem txt_prefix {x y : ExV} (hx : rightX x = true) (hy : rightX y = true) (ox : okX 8 x) (oy : okX 8 y) (r : List UInt8) (h : exTxt 8 y = exTxt 8 x ++ r) : x = y ∧ r = [] := by
  have h1 := ex_back 8 8 y [] (by omega) (rightX_each hy) oy
  have h2 := ex_back 8 8 x r (by omega) (rightX_each hx) ox
  rw [List.append_nil, h, h2] at h1
  injection h1 with h1
  injection h1 with h1 h3
  exact ⟨h1, h3⟩
end Go.Proofs.YtciflobdpenpaaaGreatDoor
set_option linter.unusedSimpArgs false
set_option linter.unusedVariables false
namespace Go.Proofs.YtciflobdpenpaaaGreatDoor
open Go.RowKit

theorem bs_sub (l : List UInt8) (i j : Nat) (h : i ≤ j) : (bs l).extract i j = bs ((l.drop i).take (j - i)) := by
  apply ByteArray.ext
  apply Array.toList_inj.1
  rw [Lib.extract_data, bs_list, bs_list]
section
variable {ops : Array Oper} {Q : Exit → Act → World → Prop} {S : World → Prop} {o : Oper} {a : Act}
end
end Go.Proofs.YtciflobdpenpaaaGreatDoor
