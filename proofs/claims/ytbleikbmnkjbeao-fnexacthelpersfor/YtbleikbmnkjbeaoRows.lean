/-
  No cell of these rows narrows 'for every input' (looked for: loops, veiled, ifaces, maps, wideKeys, modest, calm, conditions, laid).
  DERIVED. THE GIVEN ROWS OF THIS SEAT. 6 by the template 'for every input the law returns true; each argument reads behind the call as it read before'; 0 by the template 'total and deterministic' (their statements: YtbleikbmnkjbeaoTotals.lean).
  GIVEN WITH THE SEED: the statements are not yours to turn. If you find one false, say at which input.
  Laid BY PROGRAM, IN A SANDBOX (cutbox-rows.mjs): the forced cells as the released guide's own fill.sh prints them over the translation cd69d8426c1d8811… (all of the seat's roots in one cut). By AI agents, Wed Nov 11 2026. No macro, syntax, notation, axiom, sorry.
-/
import Derived.Test.YtbleikbmnkjbeaoChecked
import GoSem.Claim
import GoSem.ClaimJoined
import GoSem.ClaimMapViews
import Derived.JoinedTies
import Derived.KernelRfl
namespace Go.Proofs.Ytbleikbmnkjbeao
/- THE CELL 'sum', in the pinned program and in every row, IS THE sha256 OF THE DUMP (.gsa) THAT YtbleikbmnkjbeaoProg.lean LOADS. Nothing in Lean hashes anything: it is a label: what it is worth is what the hold of that sum in a sandbox is worth. -/
noncomputable def Try.pinned : Pinned := { name := "ytbleikbmnkjbeao", sum := "cd69d8426c1d8811b00a638887436f0a2bcdaa357813ddee2cf0662b0ed66bdf", checked := Try.checked }
namespace Rows
def none {H : Type} : Left H := { results := [], args := [] }

/-- 'laws.FnExactMergeViews': WHATEVER THE INPUT: true; the input reads as it did. -/
def fnExactMergeViewsSpec : ChangeSpec := { name := "fnExactMergeViews", fn := fun _ => fun
  | [d1, d2] => { results := [.lit (.bool true)], args := [d1, d2] }
  | _ => none }
def fnExactMergeViewsRow : OpenClaim := { program := "ytbleikbmnkjbeao", sum := "cd69d8426c1d8811b00a638887436f0a2bcdaa357813ddee2cf0662b0ed66bdf", func := "loop.example/g00725/laws.FnExactMergeViews", spec := "fnExactMergeViews", inPlace := ["slices.overlaps[loop.example/g00725/impl.Claim]"], unfollowed := true, recurses := true, apart := false }
def FnExactMergeViewsSaid : Prop := fnExactMergeViewsRow.holds Try.pinned (OpenSpec.ofChange fnExactMergeViewsSpec)

/-- ITS FALSE NEIGHBOUR: 'it returns false'. Refute it at one input. -/
def fnExactMergeViewsWrong : ChangeSpec := { name := "fnExactMergeViews", fn := fun _ => fun
  | [d1, d2] => { results := [.lit (.bool false)], args := [d1, d2] }
  | _ => none }
def FnExactMergeViewsWrongFalsely : Prop := fnExactMergeViewsRow.holds Try.pinned (OpenSpec.ofChange fnExactMergeViewsWrong)

/-- 'laws.FnExactIsAbove': WHATEVER THE INPUT: true; the input reads as it did. -/
def fnExactIsAboveSpec : ChangeSpec := { name := "fnExactIsAbove", fn := fun _ => fun
  | [d1, d2] => { results := [.lit (.bool true)], args := [d1, d2] }
  | _ => none }
def fnExactIsAboveRow : OpenClaim := { program := "ytbleikbmnkjbeao", sum := "cd69d8426c1d8811b00a638887436f0a2bcdaa357813ddee2cf0662b0ed66bdf", func := "loop.example/g00725/laws.FnExactIsAbove", spec := "fnExactIsAbove", unfollowed := true, recurses := true, apart := false }
def FnExactIsAboveSaid : Prop := fnExactIsAboveRow.holds Try.pinned (OpenSpec.ofChange fnExactIsAboveSpec)

/-- ITS FALSE NEIGHBOUR: 'it returns false'. Refute it at one input. -/
def fnExactIsAboveWrong : ChangeSpec := { name := "fnExactIsAbove", fn := fun _ => fun
  | [d1, d2] => { results := [.lit (.bool false)], args := [d1, d2] }
  | _ => none }
def FnExactIsAboveWrongFalsely : Prop := fnExactIsAboveRow.holds Try.pinned (OpenSpec.ofChange fnExactIsAboveWrong)

/-- 'laws.FnExactNodesIn': WHATEVER THE INPUT: true; the input reads as it did. -/
def fnExactNodesInSpec : ChangeSpec := { name := "fnExactNodesIn", fn := fun _ => fun
  | [d1, d2] => { results := [.lit (.bool true)], args := [d1, d2] }
  | _ => none }
def fnExactNodesInRow : OpenClaim := { program := "ytbleikbmnkjbeao", sum := "cd69d8426c1d8811b00a638887436f0a2bcdaa357813ddee2cf0662b0ed66bdf", func := "loop.example/g00725/laws.FnExactNodesIn", spec := "fnExactNodesIn", apart := false }
def FnExactNodesInSaid : Prop := fnExactNodesInRow.holds Try.pinned (OpenSpec.ofChange fnExactNodesInSpec)

/-- ITS FALSE NEIGHBOUR: 'it returns false'. Refute it at one input. -/
def fnExactNodesInWrong : ChangeSpec := { name := "fnExactNodesIn", fn := fun _ => fun
  | [d1, d2] => { results := [.lit (.bool false)], args := [d1, d2] }
  | _ => none }
def FnExactNodesInWrongFalsely : Prop := fnExactNodesInRow.holds Try.pinned (OpenSpec.ofChange fnExactNodesInWrong)

/-- 'laws.FnExactSameViews': WHATEVER THE INPUT: true; the input reads as it did. -/
def fnExactSameViewsSpec : ChangeSpec := { name := "fnExactSameViews", fn := fun _ => fun
  | [d1, d2] => { results := [.lit (.bool true)], args := [d1, d2] }
  | _ => none }
def fnExactSameViewsRow : OpenClaim := { program := "ytbleikbmnkjbeao", sum := "cd69d8426c1d8811b00a638887436f0a2bcdaa357813ddee2cf0662b0ed66bdf", func := "loop.example/g00725/laws.FnExactSameViews", spec := "fnExactSameViews", apart := false }
def FnExactSameViewsSaid : Prop := fnExactSameViewsRow.holds Try.pinned (OpenSpec.ofChange fnExactSameViewsSpec)

/-- ITS FALSE NEIGHBOUR: 'it returns false'. Refute it at one input. -/
def fnExactSameViewsWrong : ChangeSpec := { name := "fnExactSameViews", fn := fun _ => fun
  | [d1, d2] => { results := [.lit (.bool false)], args := [d1, d2] }
  | _ => none }
def FnExactSameViewsWrongFalsely : Prop := fnExactSameViewsRow.holds Try.pinned (OpenSpec.ofChange fnExactSameViewsWrong)

/-- 'laws.FnExactNextTarget': WHATEVER THE INPUT: true; the input reads as it did. -/
def fnExactNextTargetSpec : ChangeSpec := { name := "fnExactNextTarget", fn := fun _ => fun
  | [d1, d2, d3] => { results := [.lit (.bool true)], args := [d1, d2, d3] }
  | _ => none }
def fnExactNextTargetRow : OpenClaim := { program := "ytbleikbmnkjbeao", sum := "cd69d8426c1d8811b00a638887436f0a2bcdaa357813ddee2cf0662b0ed66bdf", func := "loop.example/g00725/laws.FnExactNextTarget", spec := "fnExactNextTarget", apart := false }
def FnExactNextTargetSaid : Prop := fnExactNextTargetRow.holds Try.pinned (OpenSpec.ofChange fnExactNextTargetSpec)

/-- ITS FALSE NEIGHBOUR: 'it returns false'. Refute it at one input. -/
def fnExactNextTargetWrong : ChangeSpec := { name := "fnExactNextTarget", fn := fun _ => fun
  | [d1, d2, d3] => { results := [.lit (.bool false)], args := [d1, d2, d3] }
  | _ => none }
def FnExactNextTargetWrongFalsely : Prop := fnExactNextTargetRow.holds Try.pinned (OpenSpec.ofChange fnExactNextTargetWrong)

/-- 'laws.FnExactHelpersFor': WHATEVER THE INPUT: true; the input reads as it did. -/
def fnExactHelpersForSpec : ChangeSpec := { name := "fnExactHelpersFor", fn := fun _ => fun
  | [d1, d2, d3, d4] => { results := [.lit (.bool true)], args := [d1, d2, d3, d4] }
  | _ => none }
def fnExactHelpersForRow : OpenClaim := { program := "ytbleikbmnkjbeao", sum := "cd69d8426c1d8811b00a638887436f0a2bcdaa357813ddee2cf0662b0ed66bdf", func := "loop.example/g00725/laws.FnExactHelpersFor", spec := "fnExactHelpersFor", apart := false }
def FnExactHelpersForSaid : Prop := fnExactHelpersForRow.holds Try.pinned (OpenSpec.ofChange fnExactHelpersForSpec)

/-- ITS FALSE NEIGHBOUR: 'it returns false'. Refute it at one input. -/
def fnExactHelpersForWrong : ChangeSpec := { name := "fnExactHelpersFor", fn := fun _ => fun
  | [d1, d2, d3, d4] => { results := [.lit (.bool false)], args := [d1, d2, d3, d4] }
  | _ => none }
def FnExactHelpersForWrongFalsely : Prop := fnExactHelpersForRow.holds Try.pinned (OpenSpec.ofChange fnExactHelpersForWrong)

/- THE SECOND FORM. 'bulk': how many values and letters a reading holds, each counted each time it is reached (what is shared counts as often as it is met; a slice's spare places count too). A statement '..UptoSaid' is the law's where the arguments, and the package variables that the reading takes, are together of bulk at most 1048576: NARROWER than '..Said'. Prove '..Said' where nothing that the law and all that it calls make is longer than what came in: it says more and counts as full. Else prove '..UptoSaid'. A law counts once. -/
mutual
def uptoBulk {H : Type} : DataW H → Nat
  | .lit (.string bytes) => bytes.length + 1
  | .lit _ => 1
  | .nil => 1
  | .ptr d => uptoBulk d + 1
  | .slice elems spare => uptoBulkAll elems + uptoBulkAll spare + 1
  | .agg parts => uptoBulkAll parts + 1
  | .iface _ d => uptoBulk d + 1
  | .map entries => uptoBulkEntries entries + 1
  | .held _ => 1
def uptoBulkAll {H : Type} : List (DataW H) → Nat
  | [] => 0
  | d :: r => uptoBulk d + uptoBulkAll r
def uptoBulkEntries {H : Type} : List (Lit × DataW H) → Nat
  | [] => 0
  | x :: r => uptoBulkEntry x + uptoBulkEntries r
def uptoBulkEntry {H : Type} : Lit × DataW H → Nat
  | (.string bytes, d) => bytes.length + uptoBulk d + 1
  | (_, d) => uptoBulk d + 1
 end
def uptoSmall : (H : Type) → List (DataW H) → Bool := fun _ ds => decide (uptoBulkAll ds ≤ 1048576)
def OpenSpec.upto (s : _root_.Go.ChangeSpec) : _root_.Go.OpenSpec := { _root_.Go.OpenSpec.ofChange s with cond := some uptoSmall }

/-- 'laws.FnExactMergeViews', WHERE WHAT IT READS IS OF BULK AT MOST 1048576: true; the input reads as it did. -/
def fnExactMergeViewsUptoRow : OpenClaim := { program := "ytbleikbmnkjbeao", sum := "cd69d8426c1d8811b00a638887436f0a2bcdaa357813ddee2cf0662b0ed66bdf", func := "loop.example/g00725/laws.FnExactMergeViews", spec := "fnExactMergeViews", inPlace := ["slices.overlaps[loop.example/g00725/impl.Claim]"], unfollowed := true, recurses := true, apart := false, narrowed := true }
def FnExactMergeViewsUptoSaid : Prop := fnExactMergeViewsUptoRow.holds Try.pinned (OpenSpec.upto fnExactMergeViewsSpec)

/-- 'laws.FnExactIsAbove', WHERE WHAT IT READS IS OF BULK AT MOST 1048576: true; the input reads as it did. -/
def fnExactIsAboveUptoRow : OpenClaim := { program := "ytbleikbmnkjbeao", sum := "cd69d8426c1d8811b00a638887436f0a2bcdaa357813ddee2cf0662b0ed66bdf", func := "loop.example/g00725/laws.FnExactIsAbove", spec := "fnExactIsAbove", unfollowed := true, recurses := true, apart := false, narrowed := true }
def FnExactIsAboveUptoSaid : Prop := fnExactIsAboveUptoRow.holds Try.pinned (OpenSpec.upto fnExactIsAboveSpec)

/-- 'laws.FnExactNodesIn', WHERE WHAT IT READS IS OF BULK AT MOST 1048576: true; the input reads as it did. -/
def fnExactNodesInUptoRow : OpenClaim := { program := "ytbleikbmnkjbeao", sum := "cd69d8426c1d8811b00a638887436f0a2bcdaa357813ddee2cf0662b0ed66bdf", func := "loop.example/g00725/laws.FnExactNodesIn", spec := "fnExactNodesIn", apart := false, narrowed := true }
def FnExactNodesInUptoSaid : Prop := fnExactNodesInUptoRow.holds Try.pinned (OpenSpec.upto fnExactNodesInSpec)

/-- 'laws.FnExactSameViews', WHERE WHAT IT READS IS OF BULK AT MOST 1048576: true; the input reads as it did. -/
def fnExactSameViewsUptoRow : OpenClaim := { program := "ytbleikbmnkjbeao", sum := "cd69d8426c1d8811b00a638887436f0a2bcdaa357813ddee2cf0662b0ed66bdf", func := "loop.example/g00725/laws.FnExactSameViews", spec := "fnExactSameViews", apart := false, narrowed := true }
def FnExactSameViewsUptoSaid : Prop := fnExactSameViewsUptoRow.holds Try.pinned (OpenSpec.upto fnExactSameViewsSpec)

/-- 'laws.FnExactNextTarget', WHERE WHAT IT READS IS OF BULK AT MOST 1048576: true; the input reads as it did. -/
def fnExactNextTargetUptoRow : OpenClaim := { program := "ytbleikbmnkjbeao", sum := "cd69d8426c1d8811b00a638887436f0a2bcdaa357813ddee2cf0662b0ed66bdf", func := "loop.example/g00725/laws.FnExactNextTarget", spec := "fnExactNextTarget", apart := false, narrowed := true }
def FnExactNextTargetUptoSaid : Prop := fnExactNextTargetUptoRow.holds Try.pinned (OpenSpec.upto fnExactNextTargetSpec)

/-- 'laws.FnExactHelpersFor', WHERE WHAT IT READS IS OF BULK AT MOST 1048576: true; the input reads as it did. -/
def fnExactHelpersForUptoRow : OpenClaim := { program := "ytbleikbmnkjbeao", sum := "cd69d8426c1d8811b00a638887436f0a2bcdaa357813ddee2cf0662b0ed66bdf", func := "loop.example/g00725/laws.FnExactHelpersFor", spec := "fnExactHelpersFor", apart := false, narrowed := true }
def FnExactHelpersForUptoSaid : Prop := fnExactHelpersForUptoRow.holds Try.pinned (OpenSpec.upto fnExactHelpersForSpec)

end Rows
end Go.Proofs.Ytbleikbmnkjbeao
