/-
  Products of blocks: what the program's GroupTimes answers.
-/
import Derived.Test.YtcmafbgfdddnnaaGt1Walks
import Derived.Test.YtcmafbgfdddnnaaFaceGt
import Derived.Test.YtcmafbgfdddnnaaGtC
namespace Go.Proofs.Ytcmafbgfdddnnaa.W
open Go.ChangeShapes Go.WideShapes Go.ChangeAt Go.RowKit
open Go.Proofs.Ytcmafbgfdddnnaa.M

theorem igt (va vb : Value) (a b : List Nat) (w : World) (ha : Rd w va a) (hb : Rd w vb b) (ya : Byt a) (yb : Byt b) :
    Calls Try.prog 50 #[va, vb] w fun e w' => ∃ r, e = .returned (.agg #[.int .i64 (gtC a b), r]) ∧ Owx w' w.heap.size r (gtB a b) ∧ Below w.heap.size w w' := by
  by_cases h : a.length = 16 ∧ b.length = 16
  · rw [show gtC a b = 0 by rw [gtC, if_pos h], show gtB a b = gtm b a by rw [gtB, if_pos h, gtm_comm a b ya yb]]
    exact faceGroupTimes_ok 0 (gtm b a) a b va vb w ha hb (fun w g0 g1 v0 v1 x0 x1 r0 r1 => gt1_ok g0 g1 v0 v1 a b w x0 x1 r0 r1 ya yb h.1 h.2)
  · rw [show gtC a b = 2 by rw [gtC, if_neg h], show gtB a b = [] by rw [gtB, if_neg h]]
    by_cases h1 : a.length = 16
    · exact (faceGroupTimes_no _ _ a b va vb w ha hb (fun w g0 g1 v0 v1 x0 x1 r0 r1 => gt1_nb g0 g1 v0 v1 a b w x0 x1 r0 r1 ya h1 (fun e => h ⟨h1, e⟩))).mono fun e w' ⟨he, hb⟩ => ⟨_, he, Owx.nil _ _, hb⟩
    · exact (faceGroupTimes_no _ _ a b va vb w ha hb (fun w g0 g1 v0 v1 x0 x1 r0 r1 => gt1_na g0 g1 v0 v1 a b w x0 x1 r0 r1 h1)).mono fun e w' ⟨he, hb⟩ => ⟨_, he, Owx.nil _ _, hb⟩
end Go.Proofs.Ytcmafbgfdddnnaa.W
