/-
  How the exact laws mark a slice of claims.
-/
import Derived.Test.YtemkokgejohlbaaVwK
namespace Go.Proofs.Ytemkokgejohlbaa.W
open Go.ChangeShapes Go.WideShapes Go.ChangeAt Go.RowKit
open Go.Proofs.Ytemkokgejohlbaa.M

theorem markCo (v : Value) (cs : List Clm) (k : Nat) (z : Int) (hz : z = (k : Int)) (lo hi : Nat) (w : World) (h : OC w lo hi v cs) (hl : cs.length ≤ 1048576) (hk : k ≤ 16777216) :
    Calls Try.prog 10 #[v, .int .i64 z] w fun e w' => e = .returned (.int .i64 ((k + cs.length * 4 : Nat) : Int)) ∧ OC w' lo hi v (marksC k cs.length) ∧ Ins lo hi w w' := by
  subst hz
  exact (markCx v cs k lo w h.1 hl hk).mono fun _ _ ⟨he, hO, hG⟩ => ⟨he, ⟨hO, h.2⟩, Ins.of_grown hG fun _ e => h.blk e⟩
end Go.Proofs.Ytemkokgejohlbaa.W
