/-
  Turning a ring: what it tells, and the program's method turn.
-/
import Derived.Test.YtbfdbicddmffnabIinW
import Derived.Test.YtbfdbicddmffnabIrmW
import Derived.Test.YtbfdbicddmffnabIukW
namespace Go.Proofs.Ytbfdbicddmffnab.W
open Go.ChangeShapes Go.WideShapes Go.ChangeAt Go.RowKit
open Go.Proofs.Ytbfdbicddmffnab.M

/-- What a good ring of primary p and keys ks becomes: the code, and (where it is 0) the primary and the keys. -/
def tnIs (p op id' : Int) (l : List Nat) (ks : List (Int × List Nat)) (code p' : Int) (ks' : List (Int × List Nat)) : Prop :=
  (op = 1 ∧ p' = p ∧ ks' = insK (id', l) ks ∧ ((kF (id', l) ≠ 0 ∧ code = kF (id', l)) ∨ (kF (id', l) = 0 ∧ Has ks id' ∧ code = 6) ∨ (kF (id', l) = 0 ∧ ¬ Has ks id' ∧ 3 ≤ ks.length ∧ code = 7) ∨ (kF (id', l) = 0 ∧ ¬ Has ks id' ∧ ks.length < 3 ∧ code = 0))) ∨
  (op = 2 ∧ l = [] ∧ p' = id' ∧ ks' = ks ∧ ((Has ks id' ∧ code = 0) ∨ (¬ Has ks id' ∧ code = 4))) ∨
  (op = 3 ∧ l = [] ∧ p' = p ∧ ks' = rmv id' ks ∧ ((Has ks id' ∧ id' ≠ p ∧ code = 0) ∨ (Has ks id' ∧ id' = p ∧ code = 8) ∨ (¬ Has ks id' ∧ code = 4))) ∨
  (op ≠ 1 ∧ ((op ≠ 2 ∧ op ≠ 3) ∨ l ≠ []) ∧ code = 1)
set_option maxHeartbeats 1000000 in
set_option maxRecDepth 100000 in
theorem iturn (g b : Nat) (p op id' : Int) (v : Value) (l : List Nat) (ks : List (Int × List Nat)) (D : DataW Value) (w : World) (hR : Ring1 w g b p ks D) (h : Rd w v l) (hw : (Lit.int .i64 id').wf = true) (code p' : Int) (ks' : List (Int × List Nat)) (hc : tnIs p op id' l ks code p' ks') (hl : ks.length ≤ 3) (hr : Rise ks) :
    Calls Try.prog 99 #[.pointer (some ⟨g, 0, none⟩), .int .i64 op, .agg #[.int .i64 id', v]] w fun e w' => e = .returned (.int .i64 code) ∧ (code = 0 → ∃ (D' : DataW Value) (nn : Nat), nn ≤ 1000 ∧ w'.heap[g]? = some (.cells #[.int .i64 p', .map (some b)] 119) ∧ MapK w' b nn D' ∧ HasTo ks' ks'.length D' ∧ AtTo ks' ks'.length D') ∧ ∀ B, B ≤ g → B ≤ b → B ≤ w.heap.size → Below B w w' := by
  have R1 := hid hR
  have HV := hid h
  obtain ⟨a, cap, rfl, -, -, -⟩ := h.parts
  have W1 := hid hw
  clear hR h hw
  have hA := below_alloc1 w (.cells #[.int .i64 id', .slice a l.length cap] 40)
  have R2 := hid (R1.out.below hA)
  have HV2 := hid (HV.out.below hA)
  have BA := hid hA
  clear hA
  go_enter Try.func99, Try.ntmps99
  rcases hc with ⟨rfl, rfl, rfl, hc⟩ | ⟨rfl, rfl, rfl, rfl, hc⟩ | ⟨rfl, rfl, rfl, rfl, hc⟩ | ⟨n1, n2, rfl⟩
  · replace hc := hid hc
    go_wp2_with fail
    refine (iins g b _ id' _ l ks D _ R2.out HV2.out W1.out code hc.out hl hr).mono ?_
    rintro e w1 ⟨rfl, h1, h2⟩
    replace h1 := hid h1
    replace h2 := hid (fun B (q1 : B ≤ g) (q2 : B ≤ b) (q3 : B ≤ w.heap.size) => (BA.out.mono q3).trans (h2 B q1 q2 (Nat.le_trans q3 BA.out.size)))
    clear R2 HV2 BA hc
    go_wp2
    go_ret
    exact ⟨rfl, h1.out, h2.out⟩
  · replace hc := hid hc
    go_wp2_with fail
    refine (iuse g b p _ ks' D _ R2.out W1.out code hc.out (by omega)).mono ?_
    rintro e w1 ⟨rfl, h1, h2⟩
    replace h1 := hid h1
    replace h2 := hid (fun B (q1 : B ≤ g) (q2 : B ≤ b) (q3 : B ≤ w.heap.size) => (BA.out.mono q3).trans (h2 B q1 q2 (Nat.le_trans q3 BA.out.size)))
    clear R2 HV2 BA hc
    go_wp2
    go_ret
    exact ⟨rfl, h1.out, h2.out⟩
  · replace hc := hid hc
    go_wp2_with fail
    refine (irem g b _ id' ks D _ R2.out W1.out code hc.out (by omega)).mono ?_
    rintro e w1 ⟨rfl, h1, h2⟩
    replace h1 := hid h1
    replace h2 := hid (fun B (q1 : B ≤ g) (q2 : B ≤ b) (q3 : B ≤ w.heap.size) => (BA.out.mono q3).trans (h2 B q1 q2 (Nat.le_trans q3 BA.out.size)))
    clear R2 HV2 BA hc
    go_wp2
    go_ret
    exact ⟨rfl, h1.out, h2.out⟩
  · have e1 : (op == 1) = false := by simpa using n1
    have FIN := hid (show (∀ B, B ≤ g → B ≤ b → B ≤ w.heap.size → Below B w (w.alloc (.cells #[.int .i64 id', .slice a l.length cap] 40))) from fun B _ _ q3 => BA.out.mono q3)
    clear R2 HV2 BA
    by_cases e2 : op = 2
    · subst e2
      have l0 : ((l.length : Int) == 0) = false := by
        rcases n2 with ⟨q, -⟩ | q
        · exact absurd rfl q
        · simpa using q
      clear n1 n2
      go_wp2
      go_ret
      exact ⟨rfl, (fun q => absurd q (by decide)), FIN.out⟩
    · have e2' : (op == 2) = false := by simpa using e2
      by_cases e3 : op = 3
      · subst e3
        have l0 : ((l.length : Int) == 0) = false := by
          rcases n2 with ⟨-, q⟩ | q
          · exact absurd rfl q
          · simpa using q
        clear n1 n2
        go_wp2
        go_ret
        exact ⟨rfl, (fun q => absurd q (by decide)), FIN.out⟩
      · have e3' : (op == 3) = false := by simpa using e3
        clear n1 n2
        go_wp2
        go_ret
        exact ⟨rfl, (fun q => absurd q (by decide)), FIN.out⟩
end Go.Proofs.Ytbfdbicddmffnab.W
