/-
  NARROWER THAN 'FOR EVERY INPUT', by the rows' own cells (each row's printed sentence says how): DnfOf: loops · DnfHas: loops · DnfNot: loops · DnfOrs: loops.
  DERIVED. THE GIVEN ROWS OF THIS SEAT. 7 by the template 'for every input the law returns true; each argument reads behind the call as it read before'; 0 by the template 'total and deterministic' (their statements: YtlfhpocfacaaeaaGreatTotals.lean).
  GIVEN WITH THE SEED: the statements are not yours to turn. If you find one false, say at which input.
  Laid BY PROGRAM, IN A SANDBOX (cutbox-rows.mjs): the forced cells as the released guide's own fill.sh prints them over the translation e7d9bbf32a7f5bb6… (all of the seat's roots in one cut). By AI agents, Wed Nov 11 2026. No macro, syntax, notation, axiom, sorry.
-/
import Derived.Test.YtlfhpocfacaaeaaGreatChecked
import GoSem.Claim
import GoSem.ClaimJoined
import GoSem.ClaimMapViews
import Derived.JoinedTies
import Derived.KernelRfl
namespace Go.Proofs.YtlfhpocfacaaeaaGreat
/- THE CELL 'sum', in the pinned program and in every row, IS THE sha256 OF THE DUMP (.gsa) THAT YtlfhpocfacaaeaaGreatProg.lean LOADS. Nothing in Lean hashes anything: it is a label: what it is worth is what the hold of that sum in a sandbox is worth. -/
noncomputable def Tryz.pinned : Pinned := { name := "ytlfhpocfacaaeaagreat", sum := "e7d9bbf32a7f5bb681f63b5413516c96f44f5168988d06022502c8ea444bc6ab", checked := Tryz.checked }
namespace Rows
def none {H : Type} : Left H := { results := [], args := [] }

/-- 'arbourlaw06.DnfOf': WHATEVER THE INPUT: true; the input reads as it did. -/
def dnfOfSpec : ChangeSpec := { name := "dnfOf", fn := fun _ => fun
  | [d] => { results := [.lit (.bool true)], args := [d] }
  | _ => none }
def dnfOfRow : OpenClaim := { program := "ytlfhpocfacaaeaagreat", sum := "e7d9bbf32a7f5bb681f63b5413516c96f44f5168988d06022502c8ea444bc6ab", func := "arbour/arbourlaw06.DnfOf", spec := "dnfOf", unfollowed := true, recurses := true, loops := true, apart := false }
def DnfOfSaid : Prop := dnfOfRow.holds Tryz.pinned (OpenSpec.ofChange dnfOfSpec)

/-- ITS FALSE NEIGHBOUR: 'it returns false'. Refute it at one input. -/
def dnfOfWrong : ChangeSpec := { name := "dnfOf", fn := fun _ => fun
  | [d] => { results := [.lit (.bool false)], args := [d] }
  | _ => none }
def DnfOfWrongFalsely : Prop := dnfOfRow.holds Tryz.pinned (OpenSpec.ofChange dnfOfWrong)

/-- 'arbourlaw06.DnfHas': WHATEVER THE INPUT: true; the input reads as it did. -/
def dnfHasSpec : ChangeSpec := { name := "dnfHas", fn := fun _ => fun
  | [d1, d2] => { results := [.lit (.bool true)], args := [d1, d2] }
  | _ => none }
def dnfHasRow : OpenClaim := { program := "ytlfhpocfacaaeaagreat", sum := "e7d9bbf32a7f5bb681f63b5413516c96f44f5168988d06022502c8ea444bc6ab", func := "arbour/arbourlaw06.DnfHas", spec := "dnfHas", unfollowed := true, recurses := true, loops := true, apart := false }
def DnfHasSaid : Prop := dnfHasRow.holds Tryz.pinned (OpenSpec.ofChange dnfHasSpec)

/-- ITS FALSE NEIGHBOUR: 'it returns false'. Refute it at one input. -/
def dnfHasWrong : ChangeSpec := { name := "dnfHas", fn := fun _ => fun
  | [d1, d2] => { results := [.lit (.bool false)], args := [d1, d2] }
  | _ => none }
def DnfHasWrongFalsely : Prop := dnfHasRow.holds Tryz.pinned (OpenSpec.ofChange dnfHasWrong)

/-- 'arbourlaw06.DnfTidies': WHATEVER THE INPUT: true; the input reads as it did. -/
def dnfTidiesSpec : ChangeSpec := { name := "dnfTidies", fn := fun _ => fun
  | [d1, d2] => { results := [.lit (.bool true)], args := [d1, d2] }
  | _ => none }
def dnfTidiesRow : OpenClaim := { program := "ytlfhpocfacaaeaagreat", sum := "e7d9bbf32a7f5bb681f63b5413516c96f44f5168988d06022502c8ea444bc6ab", func := "arbour/arbourlaw06.DnfTidies", spec := "dnfTidies", unfollowed := true, recurses := true, apart := false }
def DnfTidiesSaid : Prop := dnfTidiesRow.holds Tryz.pinned (OpenSpec.ofChange dnfTidiesSpec)

/-- ITS FALSE NEIGHBOUR: 'it returns false'. Refute it at one input. -/
def dnfTidiesWrong : ChangeSpec := { name := "dnfTidies", fn := fun _ => fun
  | [d1, d2] => { results := [.lit (.bool false)], args := [d1, d2] }
  | _ => none }
def DnfTidiesWrongFalsely : Prop := dnfTidiesRow.holds Tryz.pinned (OpenSpec.ofChange dnfTidiesWrong)

/-- 'arbourlaw06.DnfTells': WHATEVER THE INPUT: true; the input reads as it did. -/
def dnfTellsSpec : ChangeSpec := { name := "dnfTells", fn := fun _ => fun
  | [d1, d2, d3] => { results := [.lit (.bool true)], args := [d1, d2, d3] }
  | _ => none }
def dnfTellsRow : OpenClaim := { program := "ytlfhpocfacaaeaagreat", sum := "e7d9bbf32a7f5bb681f63b5413516c96f44f5168988d06022502c8ea444bc6ab", func := "arbour/arbourlaw06.DnfTells", spec := "dnfTells", unfollowed := true, recurses := true, apart := false }
def DnfTellsSaid : Prop := dnfTellsRow.holds Tryz.pinned (OpenSpec.ofChange dnfTellsSpec)

/-- ITS FALSE NEIGHBOUR: 'it returns false'. Refute it at one input. -/
def dnfTellsWrong : ChangeSpec := { name := "dnfTells", fn := fun _ => fun
  | [d1, d2, d3] => { results := [.lit (.bool false)], args := [d1, d2, d3] }
  | _ => none }
def DnfTellsWrongFalsely : Prop := dnfTellsRow.holds Tryz.pinned (OpenSpec.ofChange dnfTellsWrong)

/-- 'arbourlaw06.DnfNot': WHATEVER THE INPUT: true; the input reads as it did. -/
def dnfNotSpec : ChangeSpec := { name := "dnfNot", fn := fun _ => fun
  | [d1, d2] => { results := [.lit (.bool true)], args := [d1, d2] }
  | _ => none }
def dnfNotRow : OpenClaim := { program := "ytlfhpocfacaaeaagreat", sum := "e7d9bbf32a7f5bb681f63b5413516c96f44f5168988d06022502c8ea444bc6ab", func := "arbour/arbourlaw06.DnfNot", spec := "dnfNot", unfollowed := true, recurses := true, loops := true, apart := false }
def DnfNotSaid : Prop := dnfNotRow.holds Tryz.pinned (OpenSpec.ofChange dnfNotSpec)

/-- ITS FALSE NEIGHBOUR: 'it returns false'. Refute it at one input. -/
def dnfNotWrong : ChangeSpec := { name := "dnfNot", fn := fun _ => fun
  | [d1, d2] => { results := [.lit (.bool false)], args := [d1, d2] }
  | _ => none }
def DnfNotWrongFalsely : Prop := dnfNotRow.holds Tryz.pinned (OpenSpec.ofChange dnfNotWrong)

/-- 'arbourlaw06.DnfOrs': WHATEVER THE INPUT: true; the input reads as it did. -/
def dnfOrsSpec : ChangeSpec := { name := "dnfOrs", fn := fun _ => fun
  | [d1, d2, d3] => { results := [.lit (.bool true)], args := [d1, d2, d3] }
  | _ => none }
def dnfOrsRow : OpenClaim := { program := "ytlfhpocfacaaeaagreat", sum := "e7d9bbf32a7f5bb681f63b5413516c96f44f5168988d06022502c8ea444bc6ab", func := "arbour/arbourlaw06.DnfOrs", spec := "dnfOrs", unfollowed := true, recurses := true, loops := true, apart := false }
def DnfOrsSaid : Prop := dnfOrsRow.holds Tryz.pinned (OpenSpec.ofChange dnfOrsSpec)

/-- ITS FALSE NEIGHBOUR: 'it returns false'. Refute it at one input. -/
def dnfOrsWrong : ChangeSpec := { name := "dnfOrs", fn := fun _ => fun
  | [d1, d2, d3] => { results := [.lit (.bool false)], args := [d1, d2, d3] }
  | _ => none }
def DnfOrsWrongFalsely : Prop := dnfOrsRow.holds Tryz.pinned (OpenSpec.ofChange dnfOrsWrong)

/-- 'arbourlaw06.DnfBox': WHATEVER THE INPUT: true; the input reads as it did. -/
def dnfBoxSpec : ChangeSpec := { name := "dnfBox", fn := fun _ => fun
  | [d1, d2] => { results := [.lit (.bool true)], args := [d1, d2] }
  | _ => none }
def dnfBoxRow : OpenClaim := { program := "ytlfhpocfacaaeaagreat", sum := "e7d9bbf32a7f5bb681f63b5413516c96f44f5168988d06022502c8ea444bc6ab", func := "arbour/arbourlaw06.DnfBox", spec := "dnfBox", unfollowed := true, recurses := true, apart := false }
def DnfBoxSaid : Prop := dnfBoxRow.holds Tryz.pinned (OpenSpec.ofChange dnfBoxSpec)

/-- ITS FALSE NEIGHBOUR: 'it returns false'. Refute it at one input. -/
def dnfBoxWrong : ChangeSpec := { name := "dnfBox", fn := fun _ => fun
  | [d1, d2] => { results := [.lit (.bool false)], args := [d1, d2] }
  | _ => none }
def DnfBoxWrongFalsely : Prop := dnfBoxRow.holds Tryz.pinned (OpenSpec.ofChange dnfBoxWrong)

/- THE SECOND FORM. 'bulk': how many values and letters a reading holds, each counted each time it is reached (what is shared counts as often as it is met; a slice's spare places count too). A statement '..UptoSaid' is the law's where the arguments, and the package variables that the reading takes, are together of bulk at most 1048576: NARROWER than '..Said'. Prove '..Said' where nothing that the law and all that it calls make is longer than what came in: it says more and counts as full. Else prove '..UptoSaid'. A law counts once. -/
mutual
def uptoBulk {H : Type} : DataW H → Nat
  | .lit (.string bytes) => bytes.length + 1
  | .lit _ => 1
  | .nil => 1
  | .ptr d => uptoBulk d + 1
  | .slice elems spare => uptoBulkAll elems + uptoBulkAll spare + 1
  | .agg parts => uptoBulkAll parts + 1
  | .iface _ d => uptoBulk d + 1
  | .map entries => uptoBulkEntries entries + 1
  | .held _ => 1
def uptoBulkAll {H : Type} : List (DataW H) → Nat
  | [] => 0
  | d :: r => uptoBulk d + uptoBulkAll r
def uptoBulkEntries {H : Type} : List (Lit × DataW H) → Nat
  | [] => 0
  | x :: r => uptoBulkEntry x + uptoBulkEntries r
def uptoBulkEntry {H : Type} : Lit × DataW H → Nat
  | (.string bytes, d) => bytes.length + uptoBulk d + 1
  | (_, d) => uptoBulk d + 1
 end
def uptoSmall : (H : Type) → List (DataW H) → Bool := fun _ ds => decide (uptoBulkAll ds ≤ 1048576)
def OpenSpec.upto (s : _root_.Go.ChangeSpec) : _root_.Go.OpenSpec := { _root_.Go.OpenSpec.ofChange s with cond := some uptoSmall }

/-- 'arbourlaw06.DnfOf', WHERE WHAT IT READS IS OF BULK AT MOST 1048576: true; the input reads as it did. -/
def dnfOfUptoRow : OpenClaim := { program := "ytlfhpocfacaaeaagreat", sum := "e7d9bbf32a7f5bb681f63b5413516c96f44f5168988d06022502c8ea444bc6ab", func := "arbour/arbourlaw06.DnfOf", spec := "dnfOf", unfollowed := true, recurses := true, loops := true, apart := false, narrowed := true }
def DnfOfUptoSaid : Prop := dnfOfUptoRow.holds Tryz.pinned (OpenSpec.upto dnfOfSpec)

/-- 'arbourlaw06.DnfHas', WHERE WHAT IT READS IS OF BULK AT MOST 1048576: true; the input reads as it did. -/
def dnfHasUptoRow : OpenClaim := { program := "ytlfhpocfacaaeaagreat", sum := "e7d9bbf32a7f5bb681f63b5413516c96f44f5168988d06022502c8ea444bc6ab", func := "arbour/arbourlaw06.DnfHas", spec := "dnfHas", unfollowed := true, recurses := true, loops := true, apart := false, narrowed := true }
def DnfHasUptoSaid : Prop := dnfHasUptoRow.holds Tryz.pinned (OpenSpec.upto dnfHasSpec)

/-- 'arbourlaw06.DnfTidies', WHERE WHAT IT READS IS OF BULK AT MOST 1048576: true; the input reads as it did. -/
def dnfTidiesUptoRow : OpenClaim := { program := "ytlfhpocfacaaeaagreat", sum := "e7d9bbf32a7f5bb681f63b5413516c96f44f5168988d06022502c8ea444bc6ab", func := "arbour/arbourlaw06.DnfTidies", spec := "dnfTidies", unfollowed := true, recurses := true, apart := false, narrowed := true }
def DnfTidiesUptoSaid : Prop := dnfTidiesUptoRow.holds Tryz.pinned (OpenSpec.upto dnfTidiesSpec)

/-- 'arbourlaw06.DnfTells', WHERE WHAT IT READS IS OF BULK AT MOST 1048576: true; the input reads as it did. -/
def dnfTellsUptoRow : OpenClaim := { program := "ytlfhpocfacaaeaagreat", sum := "e7d9bbf32a7f5bb681f63b5413516c96f44f5168988d06022502c8ea444bc6ab", func := "arbour/arbourlaw06.DnfTells", spec := "dnfTells", unfollowed := true, recurses := true, apart := false, narrowed := true }
def DnfTellsUptoSaid : Prop := dnfTellsUptoRow.holds Tryz.pinned (OpenSpec.upto dnfTellsSpec)

/-- 'arbourlaw06.DnfNot', WHERE WHAT IT READS IS OF BULK AT MOST 1048576: true; the input reads as it did. -/
def dnfNotUptoRow : OpenClaim := { program := "ytlfhpocfacaaeaagreat", sum := "e7d9bbf32a7f5bb681f63b5413516c96f44f5168988d06022502c8ea444bc6ab", func := "arbour/arbourlaw06.DnfNot", spec := "dnfNot", unfollowed := true, recurses := true, loops := true, apart := false, narrowed := true }
def DnfNotUptoSaid : Prop := dnfNotUptoRow.holds Tryz.pinned (OpenSpec.upto dnfNotSpec)

/-- 'arbourlaw06.DnfOrs', WHERE WHAT IT READS IS OF BULK AT MOST 1048576: true; the input reads as it did. -/
def dnfOrsUptoRow : OpenClaim := { program := "ytlfhpocfacaaeaagreat", sum := "e7d9bbf32a7f5bb681f63b5413516c96f44f5168988d06022502c8ea444bc6ab", func := "arbour/arbourlaw06.DnfOrs", spec := "dnfOrs", unfollowed := true, recurses := true, loops := true, apart := false, narrowed := true }
def DnfOrsUptoSaid : Prop := dnfOrsUptoRow.holds Tryz.pinned (OpenSpec.upto dnfOrsSpec)

/-- 'arbourlaw06.DnfBox', WHERE WHAT IT READS IS OF BULK AT MOST 1048576: true; the input reads as it did. -/
def dnfBoxUptoRow : OpenClaim := { program := "ytlfhpocfacaaeaagreat", sum := "e7d9bbf32a7f5bb681f63b5413516c96f44f5168988d06022502c8ea444bc6ab", func := "arbour/arbourlaw06.DnfBox", spec := "dnfBox", unfollowed := true, recurses := true, apart := false, narrowed := true }
def DnfBoxUptoSaid : Prop := dnfBoxUptoRow.holds Tryz.pinned (OpenSpec.upto dnfBoxSpec)

end Rows
end Go.Proofs.YtlfhpocfacaaeaaGreat
