/-
  No cell of these rows narrows 'for every input' (looked for: loops, veiled, ifaces, maps, wideKeys, modest, calm, conditions, laid).
  DERIVED. THE GIVEN ROWS OF THIS SEAT. 6 by the template 'for every input the law returns true; each argument reads behind the call as it read before'; 0 by the template 'total and deterministic' (their statements: YtifgcffifffdnamTotals.lean).
  GIVEN WITH THE SEED: the statements are not yours to turn. If you find one false, say at which input.
  Laid BY PROGRAM, IN A SANDBOX (cutbox-rows.mjs): the forced cells as the released guide's own fill.sh prints them over the translation d6f168a021cc3e23… (all of the seat's roots in one cut). By AI agents, Wed Nov 11 2026. No macro, syntax, notation, axiom, sorry.
-/
import Derived.Test.YtifgcffifffdnamChecked
import GoSem.Claim
import GoSem.ClaimJoined
import GoSem.ClaimMapViews
import Derived.JoinedTies
import Derived.KernelRfl
namespace Go.Proofs.Ytifgcffifffdnam
/- THE CELL 'sum', in the pinned program and in every row, IS THE sha256 OF THE DUMP (.gsa) THAT YtifgcffifffdnamProg.lean LOADS. Nothing in Lean hashes anything: it is a label: what it is worth is what the hold of that sum in a sandbox is worth. -/
noncomputable def Try.pinned : Pinned := { name := "ytifgcffifffdnam", sum := "d6f168a021cc3e232406eb89e5380c7fe673c068d84dd6f672e77eae62cd5fbb", checked := Try.checked }
namespace Rows
def none {H : Type} : Left H := { results := [], args := [] }

/-- 'laws.FnExactSameWindows': WHATEVER THE INPUT: true; the input reads as it did. -/
def fnExactSameWindowsSpec : ChangeSpec := { name := "fnExactSameWindows", fn := fun _ => fun
  | [d1, d2] => { results := [.lit (.bool true)], args := [d1, d2] }
  | _ => none }
def fnExactSameWindowsRow : OpenClaim := { program := "ytifgcffifffdnam", sum := "d6f168a021cc3e232406eb89e5380c7fe673c068d84dd6f672e77eae62cd5fbb", func := "loop.example/g00725/laws.FnExactSameWindows", spec := "fnExactSameWindows", apart := false }
def FnExactSameWindowsSaid : Prop := fnExactSameWindowsRow.holds Try.pinned (OpenSpec.ofChange fnExactSameWindowsSpec)

/-- ITS FALSE NEIGHBOUR: 'it returns false'. Refute it at one input. -/
def fnExactSameWindowsWrong : ChangeSpec := { name := "fnExactSameWindows", fn := fun _ => fun
  | [d1, d2] => { results := [.lit (.bool false)], args := [d1, d2] }
  | _ => none }
def FnExactSameWindowsWrongFalsely : Prop := fnExactSameWindowsRow.holds Try.pinned (OpenSpec.ofChange fnExactSameWindowsWrong)

/-- 'laws.FnExactClaimFault': WHATEVER THE INPUT: true; the input reads as it did. -/
def fnExactClaimFaultSpec : ChangeSpec := { name := "fnExactClaimFault", fn := fun _ => fun
  | [d] => { results := [.lit (.bool true)], args := [d] }
  | _ => none }
def fnExactClaimFaultRow : OpenClaim := { program := "ytifgcffifffdnam", sum := "d6f168a021cc3e232406eb89e5380c7fe673c068d84dd6f672e77eae62cd5fbb", func := "loop.example/g00725/laws.FnExactClaimFault", spec := "fnExactClaimFault", apart := false }
def FnExactClaimFaultSaid : Prop := fnExactClaimFaultRow.holds Try.pinned (OpenSpec.ofChange fnExactClaimFaultSpec)

/-- ITS FALSE NEIGHBOUR: 'it returns false'. Refute it at one input. -/
def fnExactClaimFaultWrong : ChangeSpec := { name := "fnExactClaimFault", fn := fun _ => fun
  | [d] => { results := [.lit (.bool false)], args := [d] }
  | _ => none }
def FnExactClaimFaultWrongFalsely : Prop := fnExactClaimFaultRow.holds Try.pinned (OpenSpec.ofChange fnExactClaimFaultWrong)

/-- 'laws.FnExactMessageFault': WHATEVER THE INPUT: true; the input reads as it did. -/
def fnExactMessageFaultSpec : ChangeSpec := { name := "fnExactMessageFault", fn := fun _ => fun
  | [d] => { results := [.lit (.bool true)], args := [d] }
  | _ => none }
def fnExactMessageFaultRow : OpenClaim := { program := "ytifgcffifffdnam", sum := "d6f168a021cc3e232406eb89e5380c7fe673c068d84dd6f672e77eae62cd5fbb", func := "loop.example/g00725/laws.FnExactMessageFault", spec := "fnExactMessageFault", unfollowed := true, recurses := true, apart := false }
def FnExactMessageFaultSaid : Prop := fnExactMessageFaultRow.holds Try.pinned (OpenSpec.ofChange fnExactMessageFaultSpec)

/-- ITS FALSE NEIGHBOUR: 'it returns false'. Refute it at one input. -/
def fnExactMessageFaultWrong : ChangeSpec := { name := "fnExactMessageFault", fn := fun _ => fun
  | [d] => { results := [.lit (.bool false)], args := [d] }
  | _ => none }
def FnExactMessageFaultWrongFalsely : Prop := fnExactMessageFaultRow.holds Try.pinned (OpenSpec.ofChange fnExactMessageFaultWrong)

/-- 'laws.FnExactEncodeMessage': WHATEVER THE INPUT: true; the input reads as it did. -/
def fnExactEncodeMessageSpec : ChangeSpec := { name := "fnExactEncodeMessage", fn := fun _ => fun
  | [d] => { results := [.lit (.bool true)], args := [d] }
  | _ => none }
def fnExactEncodeMessageRow : OpenClaim := { program := "ytifgcffifffdnam", sum := "d6f168a021cc3e232406eb89e5380c7fe673c068d84dd6f672e77eae62cd5fbb", func := "loop.example/g00725/laws.FnExactEncodeMessage", spec := "fnExactEncodeMessage", unfollowed := true, recurses := true, apart := false }
def FnExactEncodeMessageSaid : Prop := fnExactEncodeMessageRow.holds Try.pinned (OpenSpec.ofChange fnExactEncodeMessageSpec)

/-- ITS FALSE NEIGHBOUR: 'it returns false'. Refute it at one input. -/
def fnExactEncodeMessageWrong : ChangeSpec := { name := "fnExactEncodeMessage", fn := fun _ => fun
  | [d] => { results := [.lit (.bool false)], args := [d] }
  | _ => none }
def FnExactEncodeMessageWrongFalsely : Prop := fnExactEncodeMessageRow.holds Try.pinned (OpenSpec.ofChange fnExactEncodeMessageWrong)

/-- 'laws.FnExactDecodeMessage': WHATEVER THE INPUT: true; the input reads as it did. -/
def fnExactDecodeMessageSpec : ChangeSpec := { name := "fnExactDecodeMessage", fn := fun _ => fun
  | [d] => { results := [.lit (.bool true)], args := [d] }
  | _ => none }
def fnExactDecodeMessageRow : OpenClaim := { program := "ytifgcffifffdnam", sum := "d6f168a021cc3e232406eb89e5380c7fe673c068d84dd6f672e77eae62cd5fbb", func := "loop.example/g00725/laws.FnExactDecodeMessage", spec := "fnExactDecodeMessage", unfollowed := true, recurses := true, apart := false }
def FnExactDecodeMessageSaid : Prop := fnExactDecodeMessageRow.holds Try.pinned (OpenSpec.ofChange fnExactDecodeMessageSpec)

/-- ITS FALSE NEIGHBOUR: 'it returns false'. Refute it at one input. -/
def fnExactDecodeMessageWrong : ChangeSpec := { name := "fnExactDecodeMessage", fn := fun _ => fun
  | [d] => { results := [.lit (.bool false)], args := [d] }
  | _ => none }
def FnExactDecodeMessageWrongFalsely : Prop := fnExactDecodeMessageRow.holds Try.pinned (OpenSpec.ofChange fnExactDecodeMessageWrong)

/-- 'laws.FnExactEncodeMessages': WHATEVER THE INPUT: true; the input reads as it did. -/
def fnExactEncodeMessagesSpec : ChangeSpec := { name := "fnExactEncodeMessages", fn := fun _ => fun
  | [d] => { results := [.lit (.bool true)], args := [d] }
  | _ => none }
def fnExactEncodeMessagesRow : OpenClaim := { program := "ytifgcffifffdnam", sum := "d6f168a021cc3e232406eb89e5380c7fe673c068d84dd6f672e77eae62cd5fbb", func := "loop.example/g00725/laws.FnExactEncodeMessages", spec := "fnExactEncodeMessages", unfollowed := true, recurses := true, apart := false }
def FnExactEncodeMessagesSaid : Prop := fnExactEncodeMessagesRow.holds Try.pinned (OpenSpec.ofChange fnExactEncodeMessagesSpec)

/-- ITS FALSE NEIGHBOUR: 'it returns false'. Refute it at one input. -/
def fnExactEncodeMessagesWrong : ChangeSpec := { name := "fnExactEncodeMessages", fn := fun _ => fun
  | [d] => { results := [.lit (.bool false)], args := [d] }
  | _ => none }
def FnExactEncodeMessagesWrongFalsely : Prop := fnExactEncodeMessagesRow.holds Try.pinned (OpenSpec.ofChange fnExactEncodeMessagesWrong)

/- THE SECOND FORM. 'bulk': how many values and letters a reading holds, each counted each time it is reached (what is shared counts as often as it is met; a slice's spare places count too). A statement '..UptoSaid' is the law's where the arguments, and the package variables that the reading takes, are together of bulk at most 1048576: NARROWER than '..Said'. Prove '..Said' where nothing that the law and all that it calls make is longer than what came in: it says more and counts as full. Else prove '..UptoSaid'. A law counts once. -/
mutual
def uptoBulk {H : Type} : DataW H → Nat
  | .lit (.string bytes) => bytes.length + 1
  | .lit _ => 1
  | .nil => 1
  | .ptr d => uptoBulk d + 1
  | .slice elems spare => uptoBulkAll elems + uptoBulkAll spare + 1
  | .agg parts => uptoBulkAll parts + 1
  | .iface _ d => uptoBulk d + 1
  | .map entries => uptoBulkEntries entries + 1
  | .held _ => 1
def uptoBulkAll {H : Type} : List (DataW H) → Nat
  | [] => 0
  | d :: r => uptoBulk d + uptoBulkAll r
def uptoBulkEntries {H : Type} : List (Lit × DataW H) → Nat
  | [] => 0
  | x :: r => uptoBulkEntry x + uptoBulkEntries r
def uptoBulkEntry {H : Type} : Lit × DataW H → Nat
  | (.string bytes, d) => bytes.length + uptoBulk d + 1
  | (_, d) => uptoBulk d + 1
 end
def uptoSmall : (H : Type) → List (DataW H) → Bool := fun _ ds => decide (uptoBulkAll ds ≤ 1048576)
def OpenSpec.upto (s : _root_.Go.ChangeSpec) : _root_.Go.OpenSpec := { _root_.Go.OpenSpec.ofChange s with cond := some uptoSmall }

/-- 'laws.FnExactSameWindows', WHERE WHAT IT READS IS OF BULK AT MOST 1048576: true; the input reads as it did. -/
def fnExactSameWindowsUptoRow : OpenClaim := { program := "ytifgcffifffdnam", sum := "d6f168a021cc3e232406eb89e5380c7fe673c068d84dd6f672e77eae62cd5fbb", func := "loop.example/g00725/laws.FnExactSameWindows", spec := "fnExactSameWindows", apart := false, narrowed := true }
def FnExactSameWindowsUptoSaid : Prop := fnExactSameWindowsUptoRow.holds Try.pinned (OpenSpec.upto fnExactSameWindowsSpec)

/-- 'laws.FnExactClaimFault', WHERE WHAT IT READS IS OF BULK AT MOST 1048576: true; the input reads as it did. -/
def fnExactClaimFaultUptoRow : OpenClaim := { program := "ytifgcffifffdnam", sum := "d6f168a021cc3e232406eb89e5380c7fe673c068d84dd6f672e77eae62cd5fbb", func := "loop.example/g00725/laws.FnExactClaimFault", spec := "fnExactClaimFault", apart := false, narrowed := true }
def FnExactClaimFaultUptoSaid : Prop := fnExactClaimFaultUptoRow.holds Try.pinned (OpenSpec.upto fnExactClaimFaultSpec)

/-- 'laws.FnExactMessageFault', WHERE WHAT IT READS IS OF BULK AT MOST 1048576: true; the input reads as it did. -/
def fnExactMessageFaultUptoRow : OpenClaim := { program := "ytifgcffifffdnam", sum := "d6f168a021cc3e232406eb89e5380c7fe673c068d84dd6f672e77eae62cd5fbb", func := "loop.example/g00725/laws.FnExactMessageFault", spec := "fnExactMessageFault", unfollowed := true, recurses := true, apart := false, narrowed := true }
def FnExactMessageFaultUptoSaid : Prop := fnExactMessageFaultUptoRow.holds Try.pinned (OpenSpec.upto fnExactMessageFaultSpec)

/-- 'laws.FnExactEncodeMessage', WHERE WHAT IT READS IS OF BULK AT MOST 1048576: true; the input reads as it did. -/
def fnExactEncodeMessageUptoRow : OpenClaim := { program := "ytifgcffifffdnam", sum := "d6f168a021cc3e232406eb89e5380c7fe673c068d84dd6f672e77eae62cd5fbb", func := "loop.example/g00725/laws.FnExactEncodeMessage", spec := "fnExactEncodeMessage", unfollowed := true, recurses := true, apart := false, narrowed := true }
def FnExactEncodeMessageUptoSaid : Prop := fnExactEncodeMessageUptoRow.holds Try.pinned (OpenSpec.upto fnExactEncodeMessageSpec)

/-- 'laws.FnExactDecodeMessage', WHERE WHAT IT READS IS OF BULK AT MOST 1048576: true; the input reads as it did. -/
def fnExactDecodeMessageUptoRow : OpenClaim := { program := "ytifgcffifffdnam", sum := "d6f168a021cc3e232406eb89e5380c7fe673c068d84dd6f672e77eae62cd5fbb", func := "loop.example/g00725/laws.FnExactDecodeMessage", spec := "fnExactDecodeMessage", unfollowed := true, recurses := true, apart := false, narrowed := true }
def FnExactDecodeMessageUptoSaid : Prop := fnExactDecodeMessageUptoRow.holds Try.pinned (OpenSpec.upto fnExactDecodeMessageSpec)

/-- 'laws.FnExactEncodeMessages', WHERE WHAT IT READS IS OF BULK AT MOST 1048576: true; the input reads as it did. -/
def fnExactEncodeMessagesUptoRow : OpenClaim := { program := "ytifgcffifffdnam", sum := "d6f168a021cc3e232406eb89e5380c7fe673c068d84dd6f672e77eae62cd5fbb", func := "loop.example/g00725/laws.FnExactEncodeMessages", spec := "fnExactEncodeMessages", unfollowed := true, recurses := true, apart := false, narrowed := true }
def FnExactEncodeMessagesUptoSaid : Prop := fnExactEncodeMessagesUptoRow.holds Try.pinned (OpenSpec.upto fnExactEncodeMessagesSpec)

end Rows
end Go.Proofs.Ytifgcffifffdnam
