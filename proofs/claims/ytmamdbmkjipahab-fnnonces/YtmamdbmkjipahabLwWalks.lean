/-
  The laws' own comparison of bytes.
-/
import Derived.Test.YtmamdbmkjipahabSameWalks
namespace Go.Proofs.Ytmamdbmkjipahab.W
open Go.ChangeShapes Go.WideShapes Go.ChangeAt Go.RowKit
open Go.Proofs.Ytmamdbmkjipahab.M

theorem lwsame (va vb : Value) (la lb : List Nat) (w : World) (ha : Rd w va la) (hb : Rd w vb lb) :
    Calls Try.prog 15 #[va, vb] w fun e w' => e = .returned (.bool (sameS la lb)) ∧ w' = w := by
  have c1 := conv va la w ha
  have c2 := conv vb lb w hb
  obtain ⟨a, capa, rfl, _, _, _⟩ := ha.parts
  obtain ⟨b, capb, rfl, _, _, _⟩ := hb.parts
  clear ha hb
  go_enter Try.func15, Try.ntmps15
  go_wp2
  go_ret
  exact ⟨rfl, rfl⟩
end Go.Proofs.Ytmamdbmkjipahab.W
