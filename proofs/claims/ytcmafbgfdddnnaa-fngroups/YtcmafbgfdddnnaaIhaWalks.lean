/-
  The hash of blocks: what the program's HashAll answers.
-/
import Derived.Test.YtcmafbgfdddnnaaHa1Walks
import Derived.Test.YtcmafbgfdddnnaaFaceHa
import Derived.Test.YtcmafbgfdddnnaaHaC
namespace Go.Proofs.Ytcmafbgfdddnnaa.W
open Go.ChangeShapes Go.WideShapes Go.ChangeAt Go.RowKit
open Go.Proofs.Ytcmafbgfdddnnaa.M

theorem iha (vh vd : Value) (h d : List Nat) (w : World) (hh : Rd w vh h) (hd : Rd w vd d) (yh : Byt h) (yd : Byt d) :
    Calls Try.prog 52 #[vh, vd] w fun e w' => ∃ r, e = .returned (.agg #[.int .i64 (haC h d), r]) ∧ Owx w' w.heap.size r (haB h d) ∧ Below w.heap.size w w' := by
  by_cases n1 : h.length = 16
  · by_cases n2 : d.length ≤ 800
    · have e1 : ¬ (h.length ≠ 16 ∨ 800 < d.length) := by omega
      by_cases n3 : d.length % 16 = 0
      · rw [show haC h d = 0 by rw [haC, if_neg e1, if_neg (by omega)], show haB h d = hshB h d by rw [haB, if_neg e1, if_neg (by omega)]]
        exact faceHashAll_ok 0 (hshB h d) h d vh vd w hh hd (fun w g0 g1 v0 v1 x0 x1 r0 r1 => ha1_ok g0 g1 v0 v1 h d w x0 x1 r0 r1 yh yd n1 n2 n3)
      · rw [show haC h d = 1 by rw [haC, if_neg e1, if_pos n3], show haB h d = [] by rw [haB, if_neg e1, if_pos n3]]
        exact faceHashAll_ok 1 [] h d vh vd w hh hd (fun w g0 g1 v0 v1 x0 x1 r0 r1 => (ha1_form g0 g1 v0 v1 h d w x0 x1 r0 r1 yh n1 n2 n3).mono fun e w' ⟨he, hb⟩ => ⟨_, he, Owx.nil _ _, hb⟩)
    · have e1 : h.length ≠ 16 ∨ 800 < d.length := by omega
      rw [show haC h d = 2 by rw [haC, if_pos e1], show haB h d = [] by rw [haB, if_pos e1]]
      exact faceHashAll_ok 2 [] h d vh vd w hh hd (fun w g0 g1 v0 v1 x0 x1 r0 r1 => (ha1_many g0 g1 v0 v1 h d w x0 x1 r0 r1 yh n1 (by omega)).mono fun e w' ⟨he, hb⟩ => ⟨_, he, Owx.nil _ _, hb⟩)
  · rw [show haC h d = 2 by rw [haC, if_pos (.inl n1)], show haB h d = [] by rw [haB, if_pos (.inl n1)]]
    exact (faceHashAll_no _ _ h d vh vd w hh hd (fun w g0 g1 v0 v1 x0 x1 r0 r1 => ha1_no g0 g1 v0 v1 h d w x0 x1 r0 r1 n1)).mono fun e w' ⟨he, hb⟩ => ⟨_, he, Owx.nil _ _, hb⟩
end Go.Proofs.Ytcmafbgfdddnnaa.W
