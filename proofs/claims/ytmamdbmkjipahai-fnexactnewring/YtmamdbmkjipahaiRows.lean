/-
  No cell of these rows narrows 'for every input' (looked for: loops, veiled, ifaces, maps, wideKeys, modest, calm, conditions, laid).
  DERIVED. THE GIVEN ROWS OF THIS SEAT. 6 by the template 'for every input the law returns true; each argument reads behind the call as it read before'; 0 by the template 'total and deterministic' (their statements: YtmamdbmkjipahaiTotals.lean).
  GIVEN WITH THE SEED: the statements are not yours to turn. If you find one false, say at which input.
  Laid BY PROGRAM, IN A SANDBOX (cutbox-rows.mjs): the forced cells as the released guide's own fill.sh prints them over the translation 0dc9d29504ca3d06… (all of the seat's roots in one cut). By AI agents, Wed Nov 11 2026. No macro, syntax, notation, axiom, sorry.
-/
import Derived.Test.YtmamdbmkjipahaiChecked
import GoSem.Claim
import GoSem.ClaimJoined
import GoSem.ClaimMapViews
import Derived.JoinedTies
import Derived.KernelRfl
namespace Go.Proofs.Ytmamdbmkjipahai
/- THE CELL 'sum', in the pinned program and in every row, IS THE sha256 OF THE DUMP (.gsa) THAT YtmamdbmkjipahaiProg.lean LOADS. Nothing in Lean hashes anything: it is a label: what it is worth is what the hold of that sum in a sandbox is worth. -/
noncomputable def Try.pinned : Pinned := { name := "ytmamdbmkjipahai", sum := "0dc9d29504ca3d064a98cf6eb6c2f10eae157e0f201b37b74c703fe9417c4b5a", checked := Try.checked }
namespace Rows
def none {H : Type} : Left H := { results := [], args := [] }

/-- 'laws.FnExactCountUp': WHATEVER THE INPUT: true; the input reads as it did. -/
def fnExactCountUpSpec : ChangeSpec := { name := "fnExactCountUp", fn := fun _ => fun
  | [d] => { results := [.lit (.bool true)], args := [d] }
  | _ => none }
def fnExactCountUpRow : OpenClaim := { program := "ytmamdbmkjipahai", sum := "0dc9d29504ca3d064a98cf6eb6c2f10eae157e0f201b37b74c703fe9417c4b5a", func := "loop.example/g00725/laws.FnExactCountUp", spec := "fnExactCountUp", unfollowed := true, recurses := true, apart := false }
def FnExactCountUpSaid : Prop := fnExactCountUpRow.holds Try.pinned (OpenSpec.ofChange fnExactCountUpSpec)

/-- ITS FALSE NEIGHBOUR: 'it returns false'. Refute it at one input. -/
def fnExactCountUpWrong : ChangeSpec := { name := "fnExactCountUp", fn := fun _ => fun
  | [d] => { results := [.lit (.bool false)], args := [d] }
  | _ => none }
def FnExactCountUpWrongFalsely : Prop := fnExactCountUpRow.holds Try.pinned (OpenSpec.ofChange fnExactCountUpWrong)

/-- 'laws.FnExactStreamXor': WHATEVER THE INPUT: true; the input reads as it did. -/
def fnExactStreamXorSpec : ChangeSpec := { name := "fnExactStreamXor", fn := fun _ => fun
  | [d1, d2, d3] => { results := [.lit (.bool true)], args := [d1, d2, d3] }
  | _ => none }
def fnExactStreamXorRow : OpenClaim := { program := "ytmamdbmkjipahai", sum := "0dc9d29504ca3d064a98cf6eb6c2f10eae157e0f201b37b74c703fe9417c4b5a", func := "loop.example/g00725/laws.FnExactStreamXor", spec := "fnExactStreamXor", unfollowed := true, recurses := true, apart := false }
def FnExactStreamXorSaid : Prop := fnExactStreamXorRow.holds Try.pinned (OpenSpec.ofChange fnExactStreamXorSpec)

/-- ITS FALSE NEIGHBOUR: 'it returns false'. Refute it at one input. -/
def fnExactStreamXorWrong : ChangeSpec := { name := "fnExactStreamXor", fn := fun _ => fun
  | [d1, d2, d3] => { results := [.lit (.bool false)], args := [d1, d2, d3] }
  | _ => none }
def FnExactStreamXorWrongFalsely : Prop := fnExactStreamXorRow.holds Try.pinned (OpenSpec.ofChange fnExactStreamXorWrong)

/-- 'laws.FnExactSealText': WHATEVER THE INPUT: true; the input reads as it did. -/
def fnExactSealTextSpec : ChangeSpec := { name := "fnExactSealText", fn := fun _ => fun
  | [d1, d2, d3, d4] => { results := [.lit (.bool true)], args := [d1, d2, d3, d4] }
  | _ => none }
def fnExactSealTextRow : OpenClaim := { program := "ytmamdbmkjipahai", sum := "0dc9d29504ca3d064a98cf6eb6c2f10eae157e0f201b37b74c703fe9417c4b5a", func := "loop.example/g00725/laws.FnExactSealText", spec := "fnExactSealText", unfollowed := true, recurses := true, apart := false }
def FnExactSealTextSaid : Prop := fnExactSealTextRow.holds Try.pinned (OpenSpec.ofChange fnExactSealTextSpec)

/-- ITS FALSE NEIGHBOUR: 'it returns false'. Refute it at one input. -/
def fnExactSealTextWrong : ChangeSpec := { name := "fnExactSealText", fn := fun _ => fun
  | [d1, d2, d3, d4] => { results := [.lit (.bool false)], args := [d1, d2, d3, d4] }
  | _ => none }
def FnExactSealTextWrongFalsely : Prop := fnExactSealTextRow.holds Try.pinned (OpenSpec.ofChange fnExactSealTextWrong)

/-- 'laws.FnExactOpenText': WHATEVER THE INPUT: true; the input reads as it did. -/
def fnExactOpenTextSpec : ChangeSpec := { name := "fnExactOpenText", fn := fun _ => fun
  | [d1, d2, d3, d4] => { results := [.lit (.bool true)], args := [d1, d2, d3, d4] }
  | _ => none }
def fnExactOpenTextRow : OpenClaim := { program := "ytmamdbmkjipahai", sum := "0dc9d29504ca3d064a98cf6eb6c2f10eae157e0f201b37b74c703fe9417c4b5a", func := "loop.example/g00725/laws.FnExactOpenText", spec := "fnExactOpenText", unfollowed := true, recurses := true, apart := false }
def FnExactOpenTextSaid : Prop := fnExactOpenTextRow.holds Try.pinned (OpenSpec.ofChange fnExactOpenTextSpec)

/-- ITS FALSE NEIGHBOUR: 'it returns false'. Refute it at one input. -/
def fnExactOpenTextWrong : ChangeSpec := { name := "fnExactOpenText", fn := fun _ => fun
  | [d1, d2, d3, d4] => { results := [.lit (.bool false)], args := [d1, d2, d3, d4] }
  | _ => none }
def FnExactOpenTextWrongFalsely : Prop := fnExactOpenTextRow.holds Try.pinned (OpenSpec.ofChange fnExactOpenTextWrong)

/-- 'laws.FnExactRingFault': WHATEVER THE INPUT: true; the input reads as it did. -/
def fnExactRingFaultSpec : ChangeSpec := { name := "fnExactRingFault", fn := fun _ => fun
  | [d] => { results := [.lit (.bool true)], args := [d] }
  | _ => none }
def fnExactRingFaultRow : OpenClaim := { program := "ytmamdbmkjipahai", sum := "0dc9d29504ca3d064a98cf6eb6c2f10eae157e0f201b37b74c703fe9417c4b5a", func := "loop.example/g00725/laws.FnExactRingFault", spec := "fnExactRingFault", apart := false }
def FnExactRingFaultSaid : Prop := fnExactRingFaultRow.holds Try.pinned (OpenSpec.ofChange fnExactRingFaultSpec)

/-- ITS FALSE NEIGHBOUR: 'it returns false'. Refute it at one input. -/
def fnExactRingFaultWrong : ChangeSpec := { name := "fnExactRingFault", fn := fun _ => fun
  | [d] => { results := [.lit (.bool false)], args := [d] }
  | _ => none }
def FnExactRingFaultWrongFalsely : Prop := fnExactRingFaultRow.holds Try.pinned (OpenSpec.ofChange fnExactRingFaultWrong)

/-- 'laws.FnExactNewRing': WHATEVER THE INPUT: true; the input reads as it did. -/
def fnExactNewRingSpec : ChangeSpec := { name := "fnExactNewRing", fn := fun _ => fun
  | [d] => { results := [.lit (.bool true)], args := [d] }
  | _ => none }
def fnExactNewRingRow : OpenClaim := { program := "ytmamdbmkjipahai", sum := "0dc9d29504ca3d064a98cf6eb6c2f10eae157e0f201b37b74c703fe9417c4b5a", func := "loop.example/g00725/laws.FnExactNewRing", spec := "fnExactNewRing", unfollowed := true, recurses := true, apart := false }
def FnExactNewRingSaid : Prop := fnExactNewRingRow.holds Try.pinned (OpenSpec.ofChange fnExactNewRingSpec)

/-- ITS FALSE NEIGHBOUR: 'it returns false'. Refute it at one input. -/
def fnExactNewRingWrong : ChangeSpec := { name := "fnExactNewRing", fn := fun _ => fun
  | [d] => { results := [.lit (.bool false)], args := [d] }
  | _ => none }
def FnExactNewRingWrongFalsely : Prop := fnExactNewRingRow.holds Try.pinned (OpenSpec.ofChange fnExactNewRingWrong)

/- THE SECOND FORM. 'bulk': how many values and letters a reading holds, each counted each time it is reached (what is shared counts as often as it is met; a slice's spare places count too). A statement '..UptoSaid' is the law's where the arguments, and the package variables that the reading takes, are together of bulk at most 1048576: NARROWER than '..Said'. Prove '..Said' where nothing that the law and all that it calls make is longer than what came in: it says more and counts as full. Else prove '..UptoSaid'. A law counts once. -/
mutual
def uptoBulk {H : Type} : DataW H → Nat
  | .lit (.string bytes) => bytes.length + 1
  | .lit _ => 1
  | .nil => 1
  | .ptr d => uptoBulk d + 1
  | .slice elems spare => uptoBulkAll elems + uptoBulkAll spare + 1
  | .agg parts => uptoBulkAll parts + 1
  | .iface _ d => uptoBulk d + 1
  | .map entries => uptoBulkEntries entries + 1
  | .held _ => 1
def uptoBulkAll {H : Type} : List (DataW H) → Nat
  | [] => 0
  | d :: r => uptoBulk d + uptoBulkAll r
def uptoBulkEntries {H : Type} : List (Lit × DataW H) → Nat
  | [] => 0
  | x :: r => uptoBulkEntry x + uptoBulkEntries r
def uptoBulkEntry {H : Type} : Lit × DataW H → Nat
  | (.string bytes, d) => bytes.length + uptoBulk d + 1
  | (_, d) => uptoBulk d + 1
 end
def uptoSmall : (H : Type) → List (DataW H) → Bool := fun _ ds => decide (uptoBulkAll ds ≤ 1048576)
def OpenSpec.upto (s : _root_.Go.ChangeSpec) : _root_.Go.OpenSpec := { _root_.Go.OpenSpec.ofChange s with cond := some uptoSmall }

/-- 'laws.FnExactCountUp', WHERE WHAT IT READS IS OF BULK AT MOST 1048576: true; the input reads as it did. -/
def fnExactCountUpUptoRow : OpenClaim := { program := "ytmamdbmkjipahai", sum := "0dc9d29504ca3d064a98cf6eb6c2f10eae157e0f201b37b74c703fe9417c4b5a", func := "loop.example/g00725/laws.FnExactCountUp", spec := "fnExactCountUp", unfollowed := true, recurses := true, apart := false, narrowed := true }
def FnExactCountUpUptoSaid : Prop := fnExactCountUpUptoRow.holds Try.pinned (OpenSpec.upto fnExactCountUpSpec)

/-- 'laws.FnExactStreamXor', WHERE WHAT IT READS IS OF BULK AT MOST 1048576: true; the input reads as it did. -/
def fnExactStreamXorUptoRow : OpenClaim := { program := "ytmamdbmkjipahai", sum := "0dc9d29504ca3d064a98cf6eb6c2f10eae157e0f201b37b74c703fe9417c4b5a", func := "loop.example/g00725/laws.FnExactStreamXor", spec := "fnExactStreamXor", unfollowed := true, recurses := true, apart := false, narrowed := true }
def FnExactStreamXorUptoSaid : Prop := fnExactStreamXorUptoRow.holds Try.pinned (OpenSpec.upto fnExactStreamXorSpec)

/-- 'laws.FnExactSealText', WHERE WHAT IT READS IS OF BULK AT MOST 1048576: true; the input reads as it did. -/
def fnExactSealTextUptoRow : OpenClaim := { program := "ytmamdbmkjipahai", sum := "0dc9d29504ca3d064a98cf6eb6c2f10eae157e0f201b37b74c703fe9417c4b5a", func := "loop.example/g00725/laws.FnExactSealText", spec := "fnExactSealText", unfollowed := true, recurses := true, apart := false, narrowed := true }
def FnExactSealTextUptoSaid : Prop := fnExactSealTextUptoRow.holds Try.pinned (OpenSpec.upto fnExactSealTextSpec)

/-- 'laws.FnExactOpenText', WHERE WHAT IT READS IS OF BULK AT MOST 1048576: true; the input reads as it did. -/
def fnExactOpenTextUptoRow : OpenClaim := { program := "ytmamdbmkjipahai", sum := "0dc9d29504ca3d064a98cf6eb6c2f10eae157e0f201b37b74c703fe9417c4b5a", func := "loop.example/g00725/laws.FnExactOpenText", spec := "fnExactOpenText", unfollowed := true, recurses := true, apart := false, narrowed := true }
def FnExactOpenTextUptoSaid : Prop := fnExactOpenTextUptoRow.holds Try.pinned (OpenSpec.upto fnExactOpenTextSpec)

/-- 'laws.FnExactRingFault', WHERE WHAT IT READS IS OF BULK AT MOST 1048576: true; the input reads as it did. -/
def fnExactRingFaultUptoRow : OpenClaim := { program := "ytmamdbmkjipahai", sum := "0dc9d29504ca3d064a98cf6eb6c2f10eae157e0f201b37b74c703fe9417c4b5a", func := "loop.example/g00725/laws.FnExactRingFault", spec := "fnExactRingFault", apart := false, narrowed := true }
def FnExactRingFaultUptoSaid : Prop := fnExactRingFaultUptoRow.holds Try.pinned (OpenSpec.upto fnExactRingFaultSpec)

/-- 'laws.FnExactNewRing', WHERE WHAT IT READS IS OF BULK AT MOST 1048576: true; the input reads as it did. -/
def fnExactNewRingUptoRow : OpenClaim := { program := "ytmamdbmkjipahai", sum := "0dc9d29504ca3d064a98cf6eb6c2f10eae157e0f201b37b74c703fe9417c4b5a", func := "loop.example/g00725/laws.FnExactNewRing", spec := "fnExactNewRing", unfollowed := true, recurses := true, apart := false, narrowed := true }
def FnExactNewRingUptoSaid : Prop := fnExactNewRingUptoRow.holds Try.pinned (OpenSpec.upto fnExactNewRingSpec)

end Rows
end Go.Proofs.Ytmamdbmkjipahai
