/-
  No cell of these rows narrows 'for every input' (looked for: loops, veiled, ifaces, maps, wideKeys, modest, calm, conditions, laid).
  DERIVED. THE GIVEN ROWS OF THIS SEAT. 6 by the template 'for every input the law returns true; each argument reads behind the call as it read before'; 0 by the template 'total and deterministic' (their statements: YtflnhjbanlpjiahTotals.lean).
  GIVEN WITH THE SEED: the statements are not yours to turn. If you find one false, say at which input.
  Laid BY PROGRAM, IN A SANDBOX (cutbox-rows.mjs): the forced cells as the released guide's own fill.sh prints them over the translation 29b96511683d2bb1… (all of the seat's roots in one cut). By AI agents, Wed Nov 11 2026. No macro, syntax, notation, axiom, sorry.
-/
import Derived.Test.YtflnhjbanlpjiahChecked
import GoSem.Claim
import GoSem.ClaimJoined
import GoSem.ClaimMapViews
import Derived.JoinedTies
import Derived.KernelRfl
namespace Go.Proofs.Ytflnhjbanlpjiah
/- THE CELL 'sum', in the pinned program and in every row, IS THE sha256 OF THE DUMP (.gsa) THAT YtflnhjbanlpjiahProg.lean LOADS. Nothing in Lean hashes anything: it is a label: what it is worth is what the hold of that sum in a sandbox is worth. -/
noncomputable def Try.pinned : Pinned := { name := "ytflnhjbanlpjiah", sum := "29b96511683d2bb16e744f42accf16c1d77ee03050dd6d0f262ac7c96f36ffc6", checked := Try.checked }
namespace Rows
def none {H : Type} : Left H := { results := [], args := [] }

/-- 'laws.FnExactSubBytes': WHATEVER THE INPUT: true; the input reads as it did. -/
def fnExactSubBytesSpec : ChangeSpec := { name := "fnExactSubBytes", fn := fun _ => fun
  | [d] => { results := [.lit (.bool true)], args := [d] }
  | _ => none }
def fnExactSubBytesRow : OpenClaim := { program := "ytflnhjbanlpjiah", sum := "29b96511683d2bb16e744f42accf16c1d77ee03050dd6d0f262ac7c96f36ffc6", func := "loop.example/g00725/laws.FnExactSubBytes", spec := "fnExactSubBytes", apart := false }
def FnExactSubBytesSaid : Prop := fnExactSubBytesRow.holds Try.pinned (OpenSpec.ofChange fnExactSubBytesSpec)

/-- ITS FALSE NEIGHBOUR: 'it returns false'. Refute it at one input. -/
def fnExactSubBytesWrong : ChangeSpec := { name := "fnExactSubBytes", fn := fun _ => fun
  | [d] => { results := [.lit (.bool false)], args := [d] }
  | _ => none }
def FnExactSubBytesWrongFalsely : Prop := fnExactSubBytesRow.holds Try.pinned (OpenSpec.ofChange fnExactSubBytesWrong)

/-- 'laws.FnExactShiftRows': WHATEVER THE INPUT: true; the input reads as it did. -/
def fnExactShiftRowsSpec : ChangeSpec := { name := "fnExactShiftRows", fn := fun _ => fun
  | [d] => { results := [.lit (.bool true)], args := [d] }
  | _ => none }
def fnExactShiftRowsRow : OpenClaim := { program := "ytflnhjbanlpjiah", sum := "29b96511683d2bb16e744f42accf16c1d77ee03050dd6d0f262ac7c96f36ffc6", func := "loop.example/g00725/laws.FnExactShiftRows", spec := "fnExactShiftRows", apart := false }
def FnExactShiftRowsSaid : Prop := fnExactShiftRowsRow.holds Try.pinned (OpenSpec.ofChange fnExactShiftRowsSpec)

/-- ITS FALSE NEIGHBOUR: 'it returns false'. Refute it at one input. -/
def fnExactShiftRowsWrong : ChangeSpec := { name := "fnExactShiftRows", fn := fun _ => fun
  | [d] => { results := [.lit (.bool false)], args := [d] }
  | _ => none }
def FnExactShiftRowsWrongFalsely : Prop := fnExactShiftRowsRow.holds Try.pinned (OpenSpec.ofChange fnExactShiftRowsWrong)

/-- 'laws.FnExactMixColumns': WHATEVER THE INPUT: true; the input reads as it did. -/
def fnExactMixColumnsSpec : ChangeSpec := { name := "fnExactMixColumns", fn := fun _ => fun
  | [d] => { results := [.lit (.bool true)], args := [d] }
  | _ => none }
def fnExactMixColumnsRow : OpenClaim := { program := "ytflnhjbanlpjiah", sum := "29b96511683d2bb16e744f42accf16c1d77ee03050dd6d0f262ac7c96f36ffc6", func := "loop.example/g00725/laws.FnExactMixColumns", spec := "fnExactMixColumns", apart := false }
def FnExactMixColumnsSaid : Prop := fnExactMixColumnsRow.holds Try.pinned (OpenSpec.ofChange fnExactMixColumnsSpec)

/-- ITS FALSE NEIGHBOUR: 'it returns false'. Refute it at one input. -/
def fnExactMixColumnsWrong : ChangeSpec := { name := "fnExactMixColumns", fn := fun _ => fun
  | [d] => { results := [.lit (.bool false)], args := [d] }
  | _ => none }
def FnExactMixColumnsWrongFalsely : Prop := fnExactMixColumnsRow.holds Try.pinned (OpenSpec.ofChange fnExactMixColumnsWrong)

/-- 'laws.FnExactEncryptBlock': WHATEVER THE INPUT: true; the input reads as it did. -/
def fnExactEncryptBlockSpec : ChangeSpec := { name := "fnExactEncryptBlock", fn := fun _ => fun
  | [d1, d2] => { results := [.lit (.bool true)], args := [d1, d2] }
  | _ => none }
def fnExactEncryptBlockRow : OpenClaim := { program := "ytflnhjbanlpjiah", sum := "29b96511683d2bb16e744f42accf16c1d77ee03050dd6d0f262ac7c96f36ffc6", func := "loop.example/g00725/laws.FnExactEncryptBlock", spec := "fnExactEncryptBlock", unfollowed := true, recurses := true, apart := false }
def FnExactEncryptBlockSaid : Prop := fnExactEncryptBlockRow.holds Try.pinned (OpenSpec.ofChange fnExactEncryptBlockSpec)

/-- ITS FALSE NEIGHBOUR: 'it returns false'. Refute it at one input. -/
def fnExactEncryptBlockWrong : ChangeSpec := { name := "fnExactEncryptBlock", fn := fun _ => fun
  | [d1, d2] => { results := [.lit (.bool false)], args := [d1, d2] }
  | _ => none }
def FnExactEncryptBlockWrongFalsely : Prop := fnExactEncryptBlockRow.holds Try.pinned (OpenSpec.ofChange fnExactEncryptBlockWrong)

/-- 'laws.FnExactGroupTimes': WHATEVER THE INPUT: true; the input reads as it did. -/
def fnExactGroupTimesSpec : ChangeSpec := { name := "fnExactGroupTimes", fn := fun _ => fun
  | [d1, d2] => { results := [.lit (.bool true)], args := [d1, d2] }
  | _ => none }
def fnExactGroupTimesRow : OpenClaim := { program := "ytflnhjbanlpjiah", sum := "29b96511683d2bb16e744f42accf16c1d77ee03050dd6d0f262ac7c96f36ffc6", func := "loop.example/g00725/laws.FnExactGroupTimes", spec := "fnExactGroupTimes", unfollowed := true, recurses := true, apart := false }
def FnExactGroupTimesSaid : Prop := fnExactGroupTimesRow.holds Try.pinned (OpenSpec.ofChange fnExactGroupTimesSpec)

/-- ITS FALSE NEIGHBOUR: 'it returns false'. Refute it at one input. -/
def fnExactGroupTimesWrong : ChangeSpec := { name := "fnExactGroupTimes", fn := fun _ => fun
  | [d1, d2] => { results := [.lit (.bool false)], args := [d1, d2] }
  | _ => none }
def FnExactGroupTimesWrongFalsely : Prop := fnExactGroupTimesRow.holds Try.pinned (OpenSpec.ofChange fnExactGroupTimesWrong)

/-- 'laws.FnExactHashAll': WHATEVER THE INPUT: true; the input reads as it did. -/
def fnExactHashAllSpec : ChangeSpec := { name := "fnExactHashAll", fn := fun _ => fun
  | [d1, d2] => { results := [.lit (.bool true)], args := [d1, d2] }
  | _ => none }
def fnExactHashAllRow : OpenClaim := { program := "ytflnhjbanlpjiah", sum := "29b96511683d2bb16e744f42accf16c1d77ee03050dd6d0f262ac7c96f36ffc6", func := "loop.example/g00725/laws.FnExactHashAll", spec := "fnExactHashAll", unfollowed := true, recurses := true, apart := false }
def FnExactHashAllSaid : Prop := fnExactHashAllRow.holds Try.pinned (OpenSpec.ofChange fnExactHashAllSpec)

/-- ITS FALSE NEIGHBOUR: 'it returns false'. Refute it at one input. -/
def fnExactHashAllWrong : ChangeSpec := { name := "fnExactHashAll", fn := fun _ => fun
  | [d1, d2] => { results := [.lit (.bool false)], args := [d1, d2] }
  | _ => none }
def FnExactHashAllWrongFalsely : Prop := fnExactHashAllRow.holds Try.pinned (OpenSpec.ofChange fnExactHashAllWrong)

/- THE SECOND FORM. 'bulk': how many values and letters a reading holds, each counted each time it is reached (what is shared counts as often as it is met; a slice's spare places count too). A statement '..UptoSaid' is the law's where the arguments, and the package variables that the reading takes, are together of bulk at most 1048576: NARROWER than '..Said'. Prove '..Said' where nothing that the law and all that it calls make is longer than what came in: it says more and counts as full. Else prove '..UptoSaid'. A law counts once. -/
mutual
def uptoBulk {H : Type} : DataW H → Nat
  | .lit (.string bytes) => bytes.length + 1
  | .lit _ => 1
  | .nil => 1
  | .ptr d => uptoBulk d + 1
  | .slice elems spare => uptoBulkAll elems + uptoBulkAll spare + 1
  | .agg parts => uptoBulkAll parts + 1
  | .iface _ d => uptoBulk d + 1
  | .map entries => uptoBulkEntries entries + 1
  | .held _ => 1
def uptoBulkAll {H : Type} : List (DataW H) → Nat
  | [] => 0
  | d :: r => uptoBulk d + uptoBulkAll r
def uptoBulkEntries {H : Type} : List (Lit × DataW H) → Nat
  | [] => 0
  | x :: r => uptoBulkEntry x + uptoBulkEntries r
def uptoBulkEntry {H : Type} : Lit × DataW H → Nat
  | (.string bytes, d) => bytes.length + uptoBulk d + 1
  | (_, d) => uptoBulk d + 1
 end
def uptoSmall : (H : Type) → List (DataW H) → Bool := fun _ ds => decide (uptoBulkAll ds ≤ 1048576)
def OpenSpec.upto (s : _root_.Go.ChangeSpec) : _root_.Go.OpenSpec := { _root_.Go.OpenSpec.ofChange s with cond := some uptoSmall }

/-- 'laws.FnExactSubBytes', WHERE WHAT IT READS IS OF BULK AT MOST 1048576: true; the input reads as it did. -/
def fnExactSubBytesUptoRow : OpenClaim := { program := "ytflnhjbanlpjiah", sum := "29b96511683d2bb16e744f42accf16c1d77ee03050dd6d0f262ac7c96f36ffc6", func := "loop.example/g00725/laws.FnExactSubBytes", spec := "fnExactSubBytes", apart := false, narrowed := true }
def FnExactSubBytesUptoSaid : Prop := fnExactSubBytesUptoRow.holds Try.pinned (OpenSpec.upto fnExactSubBytesSpec)

/-- 'laws.FnExactShiftRows', WHERE WHAT IT READS IS OF BULK AT MOST 1048576: true; the input reads as it did. -/
def fnExactShiftRowsUptoRow : OpenClaim := { program := "ytflnhjbanlpjiah", sum := "29b96511683d2bb16e744f42accf16c1d77ee03050dd6d0f262ac7c96f36ffc6", func := "loop.example/g00725/laws.FnExactShiftRows", spec := "fnExactShiftRows", apart := false, narrowed := true }
def FnExactShiftRowsUptoSaid : Prop := fnExactShiftRowsUptoRow.holds Try.pinned (OpenSpec.upto fnExactShiftRowsSpec)

/-- 'laws.FnExactMixColumns', WHERE WHAT IT READS IS OF BULK AT MOST 1048576: true; the input reads as it did. -/
def fnExactMixColumnsUptoRow : OpenClaim := { program := "ytflnhjbanlpjiah", sum := "29b96511683d2bb16e744f42accf16c1d77ee03050dd6d0f262ac7c96f36ffc6", func := "loop.example/g00725/laws.FnExactMixColumns", spec := "fnExactMixColumns", apart := false, narrowed := true }
def FnExactMixColumnsUptoSaid : Prop := fnExactMixColumnsUptoRow.holds Try.pinned (OpenSpec.upto fnExactMixColumnsSpec)

/-- 'laws.FnExactEncryptBlock', WHERE WHAT IT READS IS OF BULK AT MOST 1048576: true; the input reads as it did. -/
def fnExactEncryptBlockUptoRow : OpenClaim := { program := "ytflnhjbanlpjiah", sum := "29b96511683d2bb16e744f42accf16c1d77ee03050dd6d0f262ac7c96f36ffc6", func := "loop.example/g00725/laws.FnExactEncryptBlock", spec := "fnExactEncryptBlock", unfollowed := true, recurses := true, apart := false, narrowed := true }
def FnExactEncryptBlockUptoSaid : Prop := fnExactEncryptBlockUptoRow.holds Try.pinned (OpenSpec.upto fnExactEncryptBlockSpec)

/-- 'laws.FnExactGroupTimes', WHERE WHAT IT READS IS OF BULK AT MOST 1048576: true; the input reads as it did. -/
def fnExactGroupTimesUptoRow : OpenClaim := { program := "ytflnhjbanlpjiah", sum := "29b96511683d2bb16e744f42accf16c1d77ee03050dd6d0f262ac7c96f36ffc6", func := "loop.example/g00725/laws.FnExactGroupTimes", spec := "fnExactGroupTimes", unfollowed := true, recurses := true, apart := false, narrowed := true }
def FnExactGroupTimesUptoSaid : Prop := fnExactGroupTimesUptoRow.holds Try.pinned (OpenSpec.upto fnExactGroupTimesSpec)

/-- 'laws.FnExactHashAll', WHERE WHAT IT READS IS OF BULK AT MOST 1048576: true; the input reads as it did. -/
def fnExactHashAllUptoRow : OpenClaim := { program := "ytflnhjbanlpjiah", sum := "29b96511683d2bb16e744f42accf16c1d77ee03050dd6d0f262ac7c96f36ffc6", func := "loop.example/g00725/laws.FnExactHashAll", spec := "fnExactHashAll", unfollowed := true, recurses := true, apart := false, narrowed := true }
def FnExactHashAllUptoSaid : Prop := fnExactHashAllUptoRow.holds Try.pinned (OpenSpec.upto fnExactHashAllSpec)

end Rows
end Go.Proofs.Ytflnhjbanlpjiah
