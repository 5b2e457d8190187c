/-
  The walk of the law ExprMakes.
-/
import Derived.Test.YtoplmioejebnnaaXZ0
import Derived.Test.YtoplmioejebnnaaXZ1
import Derived.Test.YtoplmioejebnnaaXZ2
import Derived.Test.YtoplmioejebnnaaXZ3
set_option linter.unusedSimpArgs false
set_option linter.unusedVariables false
namespace Go.Proofs.Ytoplmioejebnnaa
open Go.RowKit

theorem exprMakes_walk (n m : Nat) (c d : EC) (x y : ExV) (e : EvV) (w : World) (HA : Xp n w c x) (HB : Xp m w d y) (hf : evFit e) :
    Calls Try.prog 4 #[c.val, d.val, evVal e] w fun r w' => r = .returned (.bool true) ∧ Below w.heap.size w w' := by
  cases hI : evalX x e <;> cases hK : evalX y e
  · exact exprMakes_walk0 n m c d x y e w HA HB hf hI hK
  · exact exprMakes_walk1 n m c d x y e w HA HB hf hI hK
  · exact exprMakes_walk2 n m c d x y e w HA HB hf hI hK
  · exact exprMakes_walk3 n m c d x y e w HA HB hf hI hK
end Go.Proofs.Ytoplmioejebnnaa
