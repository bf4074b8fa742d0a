/-
  What is hidden: what the program's StreamXor answers.
-/
import Derived.Test.YtflnhjbanlpjiaiSx1Walks
import Derived.Test.YtflnhjbanlpjiaiFaceSx
import Derived.Test.YtflnhjbanlpjiaiSxC
namespace Go.Proofs.Ytflnhjbanlpjiai.W
open Go.ChangeShapes Go.WideShapes Go.ChangeAt Go.RowKit
open Go.Proofs.Ytflnhjbanlpjiai.M

theorem isx (vk vb vd : Value) (k b d : List Nat) (w : World) (hk : Rd w vk k) (hb : Rd w vb b) (hd : Rd w vd d) (yk : Byt k) (yb : Byt b) (yd : Byt d) :
    Calls Try.prog 16 #[vk, vb, vd] w fun e w' => ∃ r, e = .returned (.agg #[.int .i64 (sxC k b d), r]) ∧ Owx w' w.heap.size r (sxB k b d) ∧ Below w.heap.size w w' := by
  by_cases h : sxOk k b d
  · rw [show sxC k b d = 0 by rw [sxC, if_pos h], show sxB k b d = strm (kf k) b d by rw [sxB, if_pos h]]
    exact faceStreamXor_ok 0 (strm (kf k) b d) k b d vk vb vd w hk hb hd (fun w g0 g1 g2 v0 v1 v2 x0 x1 x2 r0 r1 r2 => sx1_ok g0 g1 g2 v0 v1 v2 k b d w x0 x1 x2 r0 r1 r2 yk yb yd h.2.1 h.1 h.2.2)
  · rw [show sxC k b d = 2 by rw [sxC, if_neg h], show sxB k b d = [] by rw [sxB, if_neg h]]
    by_cases n2 : b.length = 16
    · by_cases n1 : k.length = 16
      · exact faceStreamXor_ok 2 [] k b d vk vb vd w hk hb hd (fun w g0 g1 g2 v0 v1 v2 x0 x1 x2 r0 r1 r2 => (sx1_many g0 g1 g2 v0 v1 v2 k b d w x0 x1 x2 r0 r1 r2 n2 n1 (by unfold sxOk at h; omega)).mono fun e w' ⟨he, hb⟩ => ⟨_, he, Owx.nil _ _, hb⟩)
      · exact faceStreamXor_ok 2 [] k b d vk vb vd w hk hb hd (fun w g0 g1 g2 v0 v1 v2 x0 x1 x2 r0 r1 r2 => (sx1_key g0 g1 g2 v0 v1 v2 k b d w x0 x1 x2 r0 r1 r2 n2 n1).mono fun e w' ⟨he, hb⟩ => ⟨_, he, Owx.nil _ _, hb⟩)
    · exact (faceStreamXor_no _ _ k b d vk vb vd w hk hb hd (fun w g0 g1 g2 v0 v1 v2 x0 x1 x2 r0 r1 r2 => sx1_no g0 g1 g2 v0 v1 v2 k b d w x0 x1 x2 r0 r1 r2 n2)).mono fun e w' ⟨he, hb⟩ => ⟨_, he, Owx.nil _ _, hb⟩
end Go.Proofs.Ytflnhjbanlpjiai.W
