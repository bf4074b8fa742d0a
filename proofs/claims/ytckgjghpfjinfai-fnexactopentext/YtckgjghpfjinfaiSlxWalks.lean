/-
  The marks that the laws lay, over slices that are a call's own whatever their block's type.
-/
import Derived.Test.YtckgjghpfjinfaiSlWalks
import Derived.Test.YtckgjghpfjinfaiMkB
namespace Go.Proofs.Ytckgjghpfjinfai.W
open Go.ChangeShapes Go.WideShapes Go.ChangeAt Go.RowKit
open Go.Proofs.Ytckgjghpfjinfai.M

set_option maxRecDepth 100000 in
theorem markBRx (c : Int) (v : Value) (l : List Nat) (k base : Nat) (w : World) (h : Owx w base v l) (hl : l.length ≤ 1048576) (hk : k ≤ 16777216) :
    Calls Try.prog 15 #[.agg #[.int .i64 c, v], .int .i64 (k : Int)] w fun e w' => e = .returned (.int .i64 ((k + l.length : Nat) : Int)) ∧ Owx w' base v (marks k l.length) ∧ w.grownBy w' v.ownBlock := by
  obtain ⟨a, cap, rfl, _, _, _⟩ := h.rd.parts
  go_enter Try.func15, Try.ntmps15
  go_wp2_with fail
  refine (markBx _ l k base _ (h.below (below_alloc1 w _)) hl hk).mono ?_
  rintro e w' ⟨rfl, hO, hG⟩
  go_wp2
  go_ret
  exact ⟨rfl, hO, grown_trans (World.grownBy_alloc _ _ _) hG⟩

theorem markBR1x (c : Int) (v : Value) (l : List Nat) (base : Nat) (w : World) (h : Owx w base v l) (hl : l.length ≤ 1048576) :
    Calls Try.prog 15 #[.agg #[.int .i64 c, v], .int .i64 1] w fun e w' => e = .returned (.int .i64 ((1 + l.length : Nat) : Int)) ∧ Owx w' base v (marks 1 l.length) ∧ w.grownBy w' v.ownBlock := by
  have h := markBRx c v l 1 base w h hl (by omega)
  rw [one_cast] at h
  exact h

end Go.Proofs.Ytckgjghpfjinfai.W
