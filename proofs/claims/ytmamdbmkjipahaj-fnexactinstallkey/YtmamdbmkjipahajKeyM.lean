/-
  How the exact laws copy and mark a key.
-/
import Derived.Test.YtmamdbmkjipahajEqR
import Derived.Test.YtmamdbmkjipahajMkB
import Derived.Test.YtmamdbmkjipahajToR
namespace Go.Proofs.Ytmamdbmkjipahaj.W
open Go.ChangeShapes Go.WideShapes Go.ChangeAt Go.RowKit
open Go.Proofs.Ytmamdbmkjipahaj.M

set_option maxRecDepth 100000 in
theorem markKo (p : Int) (v : Value) (l : List Nat) (k : Nat) (z : Int) (hz : z = (k : Int)) (lo hi : Nat) (w : World) (h : OB w lo hi v l) (hl : l.length ≤ 1048576) (hk : k ≤ 16777216) :
    Calls Try.prog 24 #[.agg #[.int .i64 p, v], .int .i64 z] w fun e w' => e = .returned (.int .i64 ((k + l.length : Nat) : Int)) ∧ OB w' lo hi v (marks k l.length) ∧ Ins lo hi w w' := by
  have H := hid h
  obtain ⟨a, ca, rfl, -, -, -⟩ := h.rd.parts
  subst hz
  clear h
  go_enter Try.func24, Try.ntmps24
  go_wp2_with fail
  refine (markO _ l k lo hi _ (H.out.below (below_alloc1 w _)) hl hk).mono ?_
  rintro e w' ⟨rfl, hO, hI⟩
  have HO := hid hO
  have HI := hid ((Ins.of_below (below_alloc1 w _)).trans hI)
  clear hO hI
  go_wp2
  go_ret
  exact ⟨rfl, HO.out, HI.out⟩
theorem toKo (p : Int) (v : Value) (l : List Nat) (w : World) (h : Rd w v l) (hl : l.length ≤ 1048576) :
    Calls Try.prog 20 #[.agg #[.int .i64 p, v]] w fun e w' => ∃ g, e = .returned (.agg #[.int .i64 p, .slice (some ⟨g, 0, none⟩) l.length l.length]) ∧ OB w' w.heap.size w'.heap.size (.slice (some ⟨g, 0, none⟩) l.length l.length) l ∧ Below w.heap.size w w' :=
  (toK p v l w h hl).mono fun _ _ ⟨g, he, hO, hB⟩ => ⟨g, he, OB.of hO.x, hB⟩
end Go.Proofs.Ytmamdbmkjipahaj.W
