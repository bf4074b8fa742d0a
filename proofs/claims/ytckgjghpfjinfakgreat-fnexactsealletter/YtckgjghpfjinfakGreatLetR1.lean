/-
  How the exact laws mark a letter.
-/
import Derived.Test.YtckgjghpfjinfakGreatLetW
namespace Go.Proofs.YtckgjghpfjinfakGreat.W
open Go.ChangeShapes Go.WideShapes Go.ChangeAt Go.RowKit
open Go.Proofs.YtckgjghpfjinfakGreat.M

set_option maxRecDepth 100000 in
theorem markLo (p q r : Int) (v : Value) (l : List Nat) (k : Nat) (z : Int) (hz : z = (k : Int)) (lo hi : Nat) (w : World) (h : OB w lo hi v l) (hl : l.length ≤ 1048576) (hk : k ≤ 16777216) :
    Calls Tryz.prog 14 #[.agg #[.int .i64 p, .int .i64 q, .int .i64 r, v], .int .i64 z] w fun e w' => e = .returned (.int .i64 ((k + l.length : Nat) : Int)) ∧ OB w' lo hi v (marks k l.length) ∧ Ins lo hi w w' := by
  have H := hid h
  obtain ⟨a, ca, rfl, -, -, -⟩ := h.rd.parts
  subst hz
  clear h
  go_enter Tryz.func14, Tryz.ntmps14
  go_wp2_with fail
  refine (markO _ l k lo hi _ (H.out.below (below_alloc1 w _)) hl hk).mono ?_
  rintro e w' ⟨rfl, hO, hI⟩
  have HO := hid hO
  have HI := hid ((Ins.of_below (below_alloc1 w _)).trans hI)
  clear hO hI
  go_wp2
  go_ret
  exact ⟨rfl, HO.out, HI.out⟩
end Go.Proofs.YtckgjghpfjinfakGreat.W
