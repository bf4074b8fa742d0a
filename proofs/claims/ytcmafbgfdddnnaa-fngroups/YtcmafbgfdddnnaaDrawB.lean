/-
  What is drawn for the laws of the cipher: blocks.
-/
import Derived.Test.YtcmafbgfdddnnaaDrawBk
namespace Go.Proofs.Ytcmafbgfdddnnaa.W
open Go.ChangeShapes Go.WideShapes Go.ChangeAt Go.RowKit
open Go.Proofs.Ytcmafbgfdddnnaa.M

set_option maxRecDepth 100000 in
theorem drawSh (v : Value) (l : List Nat) (w : World) (h : Rd w v l) (y : Byt l) (hl : l.length ≤ 1048576) :
    Calls Try.prog 38 #[v] w fun e w' => ∃ (g c : Nat) (d : List Nat), e = .returned (.slice (some ⟨g, 0, none⟩) d.length c) ∧ d.length ≤ 17 ∧ Byt d ∧ Own w' w.heap.size (.slice (some ⟨g, 0, none⟩) d.length c) d ∧ Below w.heap.size w w' := by
  have L := hid (l2block v l w h y hl)
  obtain ⟨a, cap, rfl, _, _, _⟩ := h.parts
  clear h
  go_enter Try.func38, Try.ntmps38
  go_wp2_with fail
  refine L.out.mono ?_
  rintro e w3 ⟨g1, c1, d1, rfl, hd1, yd1, hO1, hB⟩
  have HO := hid hO1
  have HB := hid hB
  have HD := hid hd1
  clear hO1 hB hd1
  go_wp2
  go_ret
  exact ⟨g1, c1, d1, rfl, HD.out, yd1, HO.out, HB.out⟩
end Go.Proofs.Ytcmafbgfdddnnaa.W
