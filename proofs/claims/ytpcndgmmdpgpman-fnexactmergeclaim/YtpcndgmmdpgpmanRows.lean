/-
  No cell of these rows narrows 'for every input' (looked for: loops, veiled, ifaces, maps, wideKeys, modest, calm, conditions, laid).
  DERIVED. THE GIVEN ROWS OF THIS SEAT. 6 by the template 'for every input the law returns true; each argument reads behind the call as it read before'; 0 by the template 'total and deterministic' (their statements: YtpcndgmmdpgpmanTotals.lean).
  GIVEN WITH THE SEED: the statements are not yours to turn. If you find one false, say at which input.
  Laid BY PROGRAM, IN A SANDBOX (cutbox-rows.mjs): the forced cells as the released guide's own fill.sh prints them over the translation 1fe526260a54bb75… (all of the seat's roots in one cut). By AI agents, Wed Nov 11 2026. No macro, syntax, notation, axiom, sorry.
-/
import Derived.Test.YtpcndgmmdpgpmanChecked
import GoSem.Claim
import GoSem.ClaimJoined
import GoSem.ClaimMapViews
import Derived.JoinedTies
import Derived.KernelRfl
namespace Go.Proofs.Ytpcndgmmdpgpman
/- THE CELL 'sum', in the pinned program and in every row, IS THE sha256 OF THE DUMP (.gsa) THAT YtpcndgmmdpgpmanProg.lean LOADS. Nothing in Lean hashes anything: it is a label: what it is worth is what the hold of that sum in a sandbox is worth. -/
noncomputable def Try.pinned : Pinned := { name := "ytpcndgmmdpgpman", sum := "1fe526260a54bb75b2250a276f91a819c1b3e6b420ea564c7aa690e3b5e979c1", checked := Try.checked }
namespace Rows
def none {H : Type} : Left H := { results := [], args := [] }

/-- 'laws.FnExactDecodeMessages': WHATEVER THE INPUT: true; the input reads as it did. -/
def fnExactDecodeMessagesSpec : ChangeSpec := { name := "fnExactDecodeMessages", fn := fun _ => fun
  | [d] => { results := [.lit (.bool true)], args := [d] }
  | _ => none }
def fnExactDecodeMessagesRow : OpenClaim := { program := "ytpcndgmmdpgpman", sum := "1fe526260a54bb75b2250a276f91a819c1b3e6b420ea564c7aa690e3b5e979c1", func := "loop.example/g00725/laws.FnExactDecodeMessages", spec := "fnExactDecodeMessages", unfollowed := true, recurses := true, apart := false }
def FnExactDecodeMessagesSaid : Prop := fnExactDecodeMessagesRow.holds Try.pinned (OpenSpec.ofChange fnExactDecodeMessagesSpec)

/-- ITS FALSE NEIGHBOUR: 'it returns false'. Refute it at one input. -/
def fnExactDecodeMessagesWrong : ChangeSpec := { name := "fnExactDecodeMessages", fn := fun _ => fun
  | [d] => { results := [.lit (.bool false)], args := [d] }
  | _ => none }
def FnExactDecodeMessagesWrongFalsely : Prop := fnExactDecodeMessagesRow.holds Try.pinned (OpenSpec.ofChange fnExactDecodeMessagesWrong)

/-- 'laws.FnExactSameMessages': WHATEVER THE INPUT: true; the input reads as it did. -/
def fnExactSameMessagesSpec : ChangeSpec := { name := "fnExactSameMessages", fn := fun _ => fun
  | [d1, d2] => { results := [.lit (.bool true)], args := [d1, d2] }
  | _ => none }
def fnExactSameMessagesRow : OpenClaim := { program := "ytpcndgmmdpgpman", sum := "1fe526260a54bb75b2250a276f91a819c1b3e6b420ea564c7aa690e3b5e979c1", func := "loop.example/g00725/laws.FnExactSameMessages", spec := "fnExactSameMessages", unfollowed := true, recurses := true, apart := false }
def FnExactSameMessagesSaid : Prop := fnExactSameMessagesRow.holds Try.pinned (OpenSpec.ofChange fnExactSameMessagesSpec)

/-- ITS FALSE NEIGHBOUR: 'it returns false'. Refute it at one input. -/
def fnExactSameMessagesWrong : ChangeSpec := { name := "fnExactSameMessages", fn := fun _ => fun
  | [d1, d2] => { results := [.lit (.bool false)], args := [d1, d2] }
  | _ => none }
def FnExactSameMessagesWrongFalsely : Prop := fnExactSameMessagesRow.holds Try.pinned (OpenSpec.ofChange fnExactSameMessagesWrong)

/-- 'laws.FnExactViewFault': WHATEVER THE INPUT: true; the input reads as it did. -/
def fnExactViewFaultSpec : ChangeSpec := { name := "fnExactViewFault", fn := fun _ => fun
  | [d] => { results := [.lit (.bool true)], args := [d] }
  | _ => none }
def fnExactViewFaultRow : OpenClaim := { program := "ytpcndgmmdpgpman", sum := "1fe526260a54bb75b2250a276f91a819c1b3e6b420ea564c7aa690e3b5e979c1", func := "loop.example/g00725/laws.FnExactViewFault", spec := "fnExactViewFault", apart := false }
def FnExactViewFaultSaid : Prop := fnExactViewFaultRow.holds Try.pinned (OpenSpec.ofChange fnExactViewFaultSpec)

/-- ITS FALSE NEIGHBOUR: 'it returns false'. Refute it at one input. -/
def fnExactViewFaultWrong : ChangeSpec := { name := "fnExactViewFault", fn := fun _ => fun
  | [d] => { results := [.lit (.bool false)], args := [d] }
  | _ => none }
def FnExactViewFaultWrongFalsely : Prop := fnExactViewFaultRow.holds Try.pinned (OpenSpec.ofChange fnExactViewFaultWrong)

/-- 'laws.FnExactBeats': WHATEVER THE INPUT: true; the input reads as it did. -/
def fnExactBeatsSpec : ChangeSpec := { name := "fnExactBeats", fn := fun _ => fun
  | [d1, d2] => { results := [.lit (.bool true)], args := [d1, d2] }
  | _ => none }
def fnExactBeatsRow : OpenClaim := { program := "ytpcndgmmdpgpman", sum := "1fe526260a54bb75b2250a276f91a819c1b3e6b420ea564c7aa690e3b5e979c1", func := "loop.example/g00725/laws.FnExactBeats", spec := "fnExactBeats", apart := false }
def FnExactBeatsSaid : Prop := fnExactBeatsRow.holds Try.pinned (OpenSpec.ofChange fnExactBeatsSpec)

/-- ITS FALSE NEIGHBOUR: 'it returns false'. Refute it at one input. -/
def fnExactBeatsWrong : ChangeSpec := { name := "fnExactBeats", fn := fun _ => fun
  | [d1, d2] => { results := [.lit (.bool false)], args := [d1, d2] }
  | _ => none }
def FnExactBeatsWrongFalsely : Prop := fnExactBeatsRow.holds Try.pinned (OpenSpec.ofChange fnExactBeatsWrong)

/-- 'laws.FnExactFindClaim': WHATEVER THE INPUT: true; the input reads as it did. -/
def fnExactFindClaimSpec : ChangeSpec := { name := "fnExactFindClaim", fn := fun _ => fun
  | [d1, d2] => { results := [.lit (.bool true)], args := [d1, d2] }
  | _ => none }
def fnExactFindClaimRow : OpenClaim := { program := "ytpcndgmmdpgpman", sum := "1fe526260a54bb75b2250a276f91a819c1b3e6b420ea564c7aa690e3b5e979c1", func := "loop.example/g00725/laws.FnExactFindClaim", spec := "fnExactFindClaim", unfollowed := true, recurses := true, apart := false }
def FnExactFindClaimSaid : Prop := fnExactFindClaimRow.holds Try.pinned (OpenSpec.ofChange fnExactFindClaimSpec)

/-- ITS FALSE NEIGHBOUR: 'it returns false'. Refute it at one input. -/
def fnExactFindClaimWrong : ChangeSpec := { name := "fnExactFindClaim", fn := fun _ => fun
  | [d1, d2] => { results := [.lit (.bool false)], args := [d1, d2] }
  | _ => none }
def FnExactFindClaimWrongFalsely : Prop := fnExactFindClaimRow.holds Try.pinned (OpenSpec.ofChange fnExactFindClaimWrong)

/-- 'laws.FnExactMergeClaim': WHATEVER THE INPUT: true; the input reads as it did. -/
def fnExactMergeClaimSpec : ChangeSpec := { name := "fnExactMergeClaim", fn := fun _ => fun
  | [d1, d2] => { results := [.lit (.bool true)], args := [d1, d2] }
  | _ => none }
def fnExactMergeClaimRow : OpenClaim := { program := "ytpcndgmmdpgpman", sum := "1fe526260a54bb75b2250a276f91a819c1b3e6b420ea564c7aa690e3b5e979c1", func := "loop.example/g00725/laws.FnExactMergeClaim", spec := "fnExactMergeClaim", inPlace := ["slices.overlaps[loop.example/g00725/impl.Claim]"], unfollowed := true, recurses := true, apart := false }
def FnExactMergeClaimSaid : Prop := fnExactMergeClaimRow.holds Try.pinned (OpenSpec.ofChange fnExactMergeClaimSpec)

/-- ITS FALSE NEIGHBOUR: 'it returns false'. Refute it at one input. -/
def fnExactMergeClaimWrong : ChangeSpec := { name := "fnExactMergeClaim", fn := fun _ => fun
  | [d1, d2] => { results := [.lit (.bool false)], args := [d1, d2] }
  | _ => none }
def FnExactMergeClaimWrongFalsely : Prop := fnExactMergeClaimRow.holds Try.pinned (OpenSpec.ofChange fnExactMergeClaimWrong)

/- THE SECOND FORM. 'bulk': how many values and letters a reading holds, each counted each time it is reached (what is shared counts as often as it is met; a slice's spare places count too). A statement '..UptoSaid' is the law's where the arguments, and the package variables that the reading takes, are together of bulk at most 1048576: NARROWER than '..Said'. Prove '..Said' where nothing that the law and all that it calls make is longer than what came in: it says more and counts as full. Else prove '..UptoSaid'. A law counts once. -/
mutual
def uptoBulk {H : Type} : DataW H → Nat
  | .lit (.string bytes) => bytes.length + 1
  | .lit _ => 1
  | .nil => 1
  | .ptr d => uptoBulk d + 1
  | .slice elems spare => uptoBulkAll elems + uptoBulkAll spare + 1
  | .agg parts => uptoBulkAll parts + 1
  | .iface _ d => uptoBulk d + 1
  | .map entries => uptoBulkEntries entries + 1
  | .held _ => 1
def uptoBulkAll {H : Type} : List (DataW H) → Nat
  | [] => 0
  | d :: r => uptoBulk d + uptoBulkAll r
def uptoBulkEntries {H : Type} : List (Lit × DataW H) → Nat
  | [] => 0
  | x :: r => uptoBulkEntry x + uptoBulkEntries r
def uptoBulkEntry {H : Type} : Lit × DataW H → Nat
  | (.string bytes, d) => bytes.length + uptoBulk d + 1
  | (_, d) => uptoBulk d + 1
 end
def uptoSmall : (H : Type) → List (DataW H) → Bool := fun _ ds => decide (uptoBulkAll ds ≤ 1048576)
def OpenSpec.upto (s : _root_.Go.ChangeSpec) : _root_.Go.OpenSpec := { _root_.Go.OpenSpec.ofChange s with cond := some uptoSmall }

/-- 'laws.FnExactDecodeMessages', WHERE WHAT IT READS IS OF BULK AT MOST 1048576: true; the input reads as it did. -/
def fnExactDecodeMessagesUptoRow : OpenClaim := { program := "ytpcndgmmdpgpman", sum := "1fe526260a54bb75b2250a276f91a819c1b3e6b420ea564c7aa690e3b5e979c1", func := "loop.example/g00725/laws.FnExactDecodeMessages", spec := "fnExactDecodeMessages", unfollowed := true, recurses := true, apart := false, narrowed := true }
def FnExactDecodeMessagesUptoSaid : Prop := fnExactDecodeMessagesUptoRow.holds Try.pinned (OpenSpec.upto fnExactDecodeMessagesSpec)

/-- 'laws.FnExactSameMessages', WHERE WHAT IT READS IS OF BULK AT MOST 1048576: true; the input reads as it did. -/
def fnExactSameMessagesUptoRow : OpenClaim := { program := "ytpcndgmmdpgpman", sum := "1fe526260a54bb75b2250a276f91a819c1b3e6b420ea564c7aa690e3b5e979c1", func := "loop.example/g00725/laws.FnExactSameMessages", spec := "fnExactSameMessages", unfollowed := true, recurses := true, apart := false, narrowed := true }
def FnExactSameMessagesUptoSaid : Prop := fnExactSameMessagesUptoRow.holds Try.pinned (OpenSpec.upto fnExactSameMessagesSpec)

/-- 'laws.FnExactViewFault', WHERE WHAT IT READS IS OF BULK AT MOST 1048576: true; the input reads as it did. -/
def fnExactViewFaultUptoRow : OpenClaim := { program := "ytpcndgmmdpgpman", sum := "1fe526260a54bb75b2250a276f91a819c1b3e6b420ea564c7aa690e3b5e979c1", func := "loop.example/g00725/laws.FnExactViewFault", spec := "fnExactViewFault", apart := false, narrowed := true }
def FnExactViewFaultUptoSaid : Prop := fnExactViewFaultUptoRow.holds Try.pinned (OpenSpec.upto fnExactViewFaultSpec)

/-- 'laws.FnExactBeats', WHERE WHAT IT READS IS OF BULK AT MOST 1048576: true; the input reads as it did. -/
def fnExactBeatsUptoRow : OpenClaim := { program := "ytpcndgmmdpgpman", sum := "1fe526260a54bb75b2250a276f91a819c1b3e6b420ea564c7aa690e3b5e979c1", func := "loop.example/g00725/laws.FnExactBeats", spec := "fnExactBeats", apart := false, narrowed := true }
def FnExactBeatsUptoSaid : Prop := fnExactBeatsUptoRow.holds Try.pinned (OpenSpec.upto fnExactBeatsSpec)

/-- 'laws.FnExactFindClaim', WHERE WHAT IT READS IS OF BULK AT MOST 1048576: true; the input reads as it did. -/
def fnExactFindClaimUptoRow : OpenClaim := { program := "ytpcndgmmdpgpman", sum := "1fe526260a54bb75b2250a276f91a819c1b3e6b420ea564c7aa690e3b5e979c1", func := "loop.example/g00725/laws.FnExactFindClaim", spec := "fnExactFindClaim", unfollowed := true, recurses := true, apart := false, narrowed := true }
def FnExactFindClaimUptoSaid : Prop := fnExactFindClaimUptoRow.holds Try.pinned (OpenSpec.upto fnExactFindClaimSpec)

/-- 'laws.FnExactMergeClaim', WHERE WHAT IT READS IS OF BULK AT MOST 1048576: true; the input reads as it did. -/
def fnExactMergeClaimUptoRow : OpenClaim := { program := "ytpcndgmmdpgpman", sum := "1fe526260a54bb75b2250a276f91a819c1b3e6b420ea564c7aa690e3b5e979c1", func := "loop.example/g00725/laws.FnExactMergeClaim", spec := "fnExactMergeClaim", inPlace := ["slices.overlaps[loop.example/g00725/impl.Claim]"], unfollowed := true, recurses := true, apart := false, narrowed := true }
def FnExactMergeClaimUptoSaid : Prop := fnExactMergeClaimUptoRow.holds Try.pinned (OpenSpec.upto fnExactMergeClaimSpec)

end Rows
end Go.Proofs.Ytpcndgmmdpgpman
