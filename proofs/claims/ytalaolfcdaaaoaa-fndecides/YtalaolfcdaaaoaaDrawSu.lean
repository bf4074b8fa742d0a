/-
  How a view and a node are drawn for SuspectBy. Generated text.
-/
import Derived.Test.YtalaolfcdaaaoaaDrawFc
namespace Go.Proofs.Ytalaolfcdaaaoaa.W
open Go.ChangeShapes Go.WideShapes Go.ChangeAt Go.RowKit
open Go.Proofs.Ytalaolfcdaaaoaa.M

set_option maxHeartbeats 4000000 in
set_option maxRecDepth 100000 in
theorem drSu (v : Value) (l : List Nat) (w : World) (h : Rd w v l) (y : Byt l) (hl : l.length ≤ 1048576) :
    Calls Try.prog 31 #[v] w fun e w' => ∃ (u : Value) (cs : List Clm) (n : Int), e = .returned (.tuple #[u, .int .i64 n]) ∧ RdC w' u cs ∧ cs.length ≤ 8 ∧ Below w.heap.size w w' := by
  have RC := hid h
  obtain ⟨q, cap, rfl, -, -, -⟩ := h.parts
  clear h
  go_enter Try.func31, Try.ntmps31
  go_wp2_with fail
  refine (drFc _ l w RC.out y hl).mono ?_
  rintro e w1 ⟨u, cs, n, rfl, hR, hc, hB⟩
  obtain ⟨pu, ku, rfl, -, -, -⟩ := hR.parts
  have RR := hid hR
  have HB := hid hB
  clear hR hB
  go_wp2
  go_ret2
  exact ⟨_, _, _, rfl, RR.out, hc, HB.out⟩
end Go.Proofs.Ytalaolfcdaaaoaa.W
