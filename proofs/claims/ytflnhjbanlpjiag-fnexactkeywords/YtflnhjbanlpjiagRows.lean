/-
  No cell of these rows narrows 'for every input' (looked for: loops, veiled, ifaces, maps, wideKeys, modest, calm, conditions, laid).
  DERIVED. THE GIVEN ROWS OF THIS SEAT. 6 by the template 'for every input the law returns true; each argument reads behind the call as it read before'; 0 by the template 'total and deterministic' (their statements: YtflnhjbanlpjiagTotals.lean).
  GIVEN WITH THE SEED: the statements are not yours to turn. If you find one false, say at which input.
  Laid BY PROGRAM, IN A SANDBOX (cutbox-rows.mjs): the forced cells as the released guide's own fill.sh prints them over the translation ec2086bd0fc7ece7… (all of the seat's roots in one cut). By AI agents, Wed Nov 11 2026. No macro, syntax, notation, axiom, sorry.
-/
import Derived.Test.YtflnhjbanlpjiagChecked
import GoSem.Claim
import GoSem.ClaimJoined
import GoSem.ClaimMapViews
import Derived.JoinedTies
import Derived.KernelRfl
namespace Go.Proofs.Ytflnhjbanlpjiag
/- THE CELL 'sum', in the pinned program and in every row, IS THE sha256 OF THE DUMP (.gsa) THAT YtflnhjbanlpjiagProg.lean LOADS. Nothing in Lean hashes anything: it is a label: what it is worth is what the hold of that sum in a sandbox is worth. -/
noncomputable def Try.pinned : Pinned := { name := "ytflnhjbanlpjiag", sum := "ec2086bd0fc7ece713a4e36592e3725fd09c5bf180a90d4336cfeae08a563e8d", checked := Try.checked }
namespace Rows
def none {H : Type} : Left H := { results := [], args := [] }

/-- 'laws.FnExactXorBytes': WHATEVER THE INPUT: true; the input reads as it did. -/
def fnExactXorBytesSpec : ChangeSpec := { name := "fnExactXorBytes", fn := fun _ => fun
  | [d1, d2] => { results := [.lit (.bool true)], args := [d1, d2] }
  | _ => none }
def fnExactXorBytesRow : OpenClaim := { program := "ytflnhjbanlpjiag", sum := "ec2086bd0fc7ece713a4e36592e3725fd09c5bf180a90d4336cfeae08a563e8d", func := "loop.example/g00725/laws.FnExactXorBytes", spec := "fnExactXorBytes", apart := false }
def FnExactXorBytesSaid : Prop := fnExactXorBytesRow.holds Try.pinned (OpenSpec.ofChange fnExactXorBytesSpec)

/-- ITS FALSE NEIGHBOUR: 'it returns false'. Refute it at one input. -/
def fnExactXorBytesWrong : ChangeSpec := { name := "fnExactXorBytes", fn := fun _ => fun
  | [d1, d2] => { results := [.lit (.bool false)], args := [d1, d2] }
  | _ => none }
def FnExactXorBytesWrongFalsely : Prop := fnExactXorBytesRow.holds Try.pinned (OpenSpec.ofChange fnExactXorBytesWrong)

/-- 'laws.FnExactPackWord': WHATEVER THE INPUT: true; the input reads as it did. -/
def fnExactPackWordSpec : ChangeSpec := { name := "fnExactPackWord", fn := fun _ => fun
  | [d1, d2] => { results := [.lit (.bool true)], args := [d1, d2] }
  | _ => none }
def fnExactPackWordRow : OpenClaim := { program := "ytflnhjbanlpjiag", sum := "ec2086bd0fc7ece713a4e36592e3725fd09c5bf180a90d4336cfeae08a563e8d", func := "loop.example/g00725/laws.FnExactPackWord", spec := "fnExactPackWord", apart := false }
def FnExactPackWordSaid : Prop := fnExactPackWordRow.holds Try.pinned (OpenSpec.ofChange fnExactPackWordSpec)

/-- ITS FALSE NEIGHBOUR: 'it returns false'. Refute it at one input. -/
def fnExactPackWordWrong : ChangeSpec := { name := "fnExactPackWord", fn := fun _ => fun
  | [d1, d2] => { results := [.lit (.bool false)], args := [d1, d2] }
  | _ => none }
def FnExactPackWordWrongFalsely : Prop := fnExactPackWordRow.holds Try.pinned (OpenSpec.ofChange fnExactPackWordWrong)

/-- 'laws.FnExactReadWord': WHATEVER THE INPUT: true; the input reads as it did. -/
def fnExactReadWordSpec : ChangeSpec := { name := "fnExactReadWord", fn := fun _ => fun
  | [d1, d2, d3] => { results := [.lit (.bool true)], args := [d1, d2, d3] }
  | _ => none }
def fnExactReadWordRow : OpenClaim := { program := "ytflnhjbanlpjiag", sum := "ec2086bd0fc7ece713a4e36592e3725fd09c5bf180a90d4336cfeae08a563e8d", func := "loop.example/g00725/laws.FnExactReadWord", spec := "fnExactReadWord", apart := false }
def FnExactReadWordSaid : Prop := fnExactReadWordRow.holds Try.pinned (OpenSpec.ofChange fnExactReadWordSpec)

/-- ITS FALSE NEIGHBOUR: 'it returns false'. Refute it at one input. -/
def fnExactReadWordWrong : ChangeSpec := { name := "fnExactReadWord", fn := fun _ => fun
  | [d1, d2, d3] => { results := [.lit (.bool false)], args := [d1, d2, d3] }
  | _ => none }
def FnExactReadWordWrongFalsely : Prop := fnExactReadWordRow.holds Try.pinned (OpenSpec.ofChange fnExactReadWordWrong)

/-- 'laws.FnExactSameBytes': WHATEVER THE INPUT: true; the input reads as it did. -/
def fnExactSameBytesSpec : ChangeSpec := { name := "fnExactSameBytes", fn := fun _ => fun
  | [d1, d2] => { results := [.lit (.bool true)], args := [d1, d2] }
  | _ => none }
def fnExactSameBytesRow : OpenClaim := { program := "ytflnhjbanlpjiag", sum := "ec2086bd0fc7ece713a4e36592e3725fd09c5bf180a90d4336cfeae08a563e8d", func := "loop.example/g00725/laws.FnExactSameBytes", spec := "fnExactSameBytes", apart := false }
def FnExactSameBytesSaid : Prop := fnExactSameBytesRow.holds Try.pinned (OpenSpec.ofChange fnExactSameBytesSpec)

/-- ITS FALSE NEIGHBOUR: 'it returns false'. Refute it at one input. -/
def fnExactSameBytesWrong : ChangeSpec := { name := "fnExactSameBytes", fn := fun _ => fun
  | [d1, d2] => { results := [.lit (.bool false)], args := [d1, d2] }
  | _ => none }
def FnExactSameBytesWrongFalsely : Prop := fnExactSameBytesRow.holds Try.pinned (OpenSpec.ofChange fnExactSameBytesWrong)

/-- 'laws.FnExactRoundConstant': WHATEVER THE INPUT: true; the input reads as it did. -/
def fnExactRoundConstantSpec : ChangeSpec := { name := "fnExactRoundConstant", fn := fun _ => fun
  | [d] => { results := [.lit (.bool true)], args := [d] }
  | _ => none }
def fnExactRoundConstantRow : OpenClaim := { program := "ytflnhjbanlpjiag", sum := "ec2086bd0fc7ece713a4e36592e3725fd09c5bf180a90d4336cfeae08a563e8d", func := "loop.example/g00725/laws.FnExactRoundConstant", spec := "fnExactRoundConstant", apart := false }
def FnExactRoundConstantSaid : Prop := fnExactRoundConstantRow.holds Try.pinned (OpenSpec.ofChange fnExactRoundConstantSpec)

/-- ITS FALSE NEIGHBOUR: 'it returns false'. Refute it at one input. -/
def fnExactRoundConstantWrong : ChangeSpec := { name := "fnExactRoundConstant", fn := fun _ => fun
  | [d] => { results := [.lit (.bool false)], args := [d] }
  | _ => none }
def FnExactRoundConstantWrongFalsely : Prop := fnExactRoundConstantRow.holds Try.pinned (OpenSpec.ofChange fnExactRoundConstantWrong)

/-- 'laws.FnExactKeyWords': WHATEVER THE INPUT: true; the input reads as it did. -/
def fnExactKeyWordsSpec : ChangeSpec := { name := "fnExactKeyWords", fn := fun _ => fun
  | [d] => { results := [.lit (.bool true)], args := [d] }
  | _ => none }
def fnExactKeyWordsRow : OpenClaim := { program := "ytflnhjbanlpjiag", sum := "ec2086bd0fc7ece713a4e36592e3725fd09c5bf180a90d4336cfeae08a563e8d", func := "loop.example/g00725/laws.FnExactKeyWords", spec := "fnExactKeyWords", apart := false }
def FnExactKeyWordsSaid : Prop := fnExactKeyWordsRow.holds Try.pinned (OpenSpec.ofChange fnExactKeyWordsSpec)

/-- ITS FALSE NEIGHBOUR: 'it returns false'. Refute it at one input. -/
def fnExactKeyWordsWrong : ChangeSpec := { name := "fnExactKeyWords", fn := fun _ => fun
  | [d] => { results := [.lit (.bool false)], args := [d] }
  | _ => none }
def FnExactKeyWordsWrongFalsely : Prop := fnExactKeyWordsRow.holds Try.pinned (OpenSpec.ofChange fnExactKeyWordsWrong)

/- THE SECOND FORM. 'bulk': how many values and letters a reading holds, each counted each time it is reached (what is shared counts as often as it is met; a slice's spare places count too). A statement '..UptoSaid' is the law's where the arguments, and the package variables that the reading takes, are together of bulk at most 1048576: NARROWER than '..Said'. Prove '..Said' where nothing that the law and all that it calls make is longer than what came in: it says more and counts as full. Else prove '..UptoSaid'. A law counts once. -/
mutual
def uptoBulk {H : Type} : DataW H → Nat
  | .lit (.string bytes) => bytes.length + 1
  | .lit _ => 1
  | .nil => 1
  | .ptr d => uptoBulk d + 1
  | .slice elems spare => uptoBulkAll elems + uptoBulkAll spare + 1
  | .agg parts => uptoBulkAll parts + 1
  | .iface _ d => uptoBulk d + 1
  | .map entries => uptoBulkEntries entries + 1
  | .held _ => 1
def uptoBulkAll {H : Type} : List (DataW H) → Nat
  | [] => 0
  | d :: r => uptoBulk d + uptoBulkAll r
def uptoBulkEntries {H : Type} : List (Lit × DataW H) → Nat
  | [] => 0
  | x :: r => uptoBulkEntry x + uptoBulkEntries r
def uptoBulkEntry {H : Type} : Lit × DataW H → Nat
  | (.string bytes, d) => bytes.length + uptoBulk d + 1
  | (_, d) => uptoBulk d + 1
 end
def uptoSmall : (H : Type) → List (DataW H) → Bool := fun _ ds => decide (uptoBulkAll ds ≤ 1048576)
def OpenSpec.upto (s : _root_.Go.ChangeSpec) : _root_.Go.OpenSpec := { _root_.Go.OpenSpec.ofChange s with cond := some uptoSmall }

/-- 'laws.FnExactXorBytes', WHERE WHAT IT READS IS OF BULK AT MOST 1048576: true; the input reads as it did. -/
def fnExactXorBytesUptoRow : OpenClaim := { program := "ytflnhjbanlpjiag", sum := "ec2086bd0fc7ece713a4e36592e3725fd09c5bf180a90d4336cfeae08a563e8d", func := "loop.example/g00725/laws.FnExactXorBytes", spec := "fnExactXorBytes", apart := false, narrowed := true }
def FnExactXorBytesUptoSaid : Prop := fnExactXorBytesUptoRow.holds Try.pinned (OpenSpec.upto fnExactXorBytesSpec)

/-- 'laws.FnExactPackWord', WHERE WHAT IT READS IS OF BULK AT MOST 1048576: true; the input reads as it did. -/
def fnExactPackWordUptoRow : OpenClaim := { program := "ytflnhjbanlpjiag", sum := "ec2086bd0fc7ece713a4e36592e3725fd09c5bf180a90d4336cfeae08a563e8d", func := "loop.example/g00725/laws.FnExactPackWord", spec := "fnExactPackWord", apart := false, narrowed := true }
def FnExactPackWordUptoSaid : Prop := fnExactPackWordUptoRow.holds Try.pinned (OpenSpec.upto fnExactPackWordSpec)

/-- 'laws.FnExactReadWord', WHERE WHAT IT READS IS OF BULK AT MOST 1048576: true; the input reads as it did. -/
def fnExactReadWordUptoRow : OpenClaim := { program := "ytflnhjbanlpjiag", sum := "ec2086bd0fc7ece713a4e36592e3725fd09c5bf180a90d4336cfeae08a563e8d", func := "loop.example/g00725/laws.FnExactReadWord", spec := "fnExactReadWord", apart := false, narrowed := true }
def FnExactReadWordUptoSaid : Prop := fnExactReadWordUptoRow.holds Try.pinned (OpenSpec.upto fnExactReadWordSpec)

/-- 'laws.FnExactSameBytes', WHERE WHAT IT READS IS OF BULK AT MOST 1048576: true; the input reads as it did. -/
def fnExactSameBytesUptoRow : OpenClaim := { program := "ytflnhjbanlpjiag", sum := "ec2086bd0fc7ece713a4e36592e3725fd09c5bf180a90d4336cfeae08a563e8d", func := "loop.example/g00725/laws.FnExactSameBytes", spec := "fnExactSameBytes", apart := false, narrowed := true }
def FnExactSameBytesUptoSaid : Prop := fnExactSameBytesUptoRow.holds Try.pinned (OpenSpec.upto fnExactSameBytesSpec)

/-- 'laws.FnExactRoundConstant', WHERE WHAT IT READS IS OF BULK AT MOST 1048576: true; the input reads as it did. -/
def fnExactRoundConstantUptoRow : OpenClaim := { program := "ytflnhjbanlpjiag", sum := "ec2086bd0fc7ece713a4e36592e3725fd09c5bf180a90d4336cfeae08a563e8d", func := "loop.example/g00725/laws.FnExactRoundConstant", spec := "fnExactRoundConstant", apart := false, narrowed := true }
def FnExactRoundConstantUptoSaid : Prop := fnExactRoundConstantUptoRow.holds Try.pinned (OpenSpec.upto fnExactRoundConstantSpec)

/-- 'laws.FnExactKeyWords', WHERE WHAT IT READS IS OF BULK AT MOST 1048576: true; the input reads as it did. -/
def fnExactKeyWordsUptoRow : OpenClaim := { program := "ytflnhjbanlpjiag", sum := "ec2086bd0fc7ece713a4e36592e3725fd09c5bf180a90d4336cfeae08a563e8d", func := "loop.example/g00725/laws.FnExactKeyWords", spec := "fnExactKeyWords", apart := false, narrowed := true }
def FnExactKeyWordsUptoSaid : Prop := fnExactKeyWordsUptoRow.holds Try.pinned (OpenSpec.upto fnExactKeyWordsSpec)

end Rows
end Go.Proofs.Ytflnhjbanlpjiag
