/-
  Slices of messages that are the same. Plain mathematics.
-/
import Derived.Test.YtifgcffifffdnanMlF
import Derived.Test.YtifgcffifffdnanConvM
namespace Go.Proofs.Ytifgcffifffdnan.W
open Go.RowKit
open Go.Proofs.Ytifgcffifffdnan.M

def eqI (a b : Msg) : Prop := a.k = b.k ∧ a.s = b.s ∧ a.n = b.n ∧ a.cn = b.cn ∧ a.ci = b.ci ∧ a.cs = b.cs ∧ a.cm = b.cm ∧ a.op = b.op ∧ a.id = b.id
def eqN (a b : Msg) : Bool := a.k == b.k && (a.s == b.s && (a.n == b.n && (a.cn == b.cn && (a.ci == b.ci && (a.cs == b.cs && (a.cm == b.cm && (a.op == b.op && a.id == b.id)))))))
theorem eqN_iff (a b : Msg) : eqN a b = true ↔ eqI a b := by simp [eqN, eqI]
/-- Whether two messages are the same. -/
def smB (a b : Msg) : Bool := eqN a b && sameS a.l b.l
theorem smB_no {a b : Msg} (h : ¬ eqI a b) : smB a b = false := by
  cases e : eqN a b with
  | true => exact absurd ((eqN_iff a b).1 e) h
  | false => simp [smB, e]
theorem smB_yes {a b : Msg} (h : eqI a b) : smB a b = sameS a.l b.l := by simp [smB, (eqN_iff a b).2 h]
theorem smB_q (a b : Msg) : (a.k = b.k ∧ a.s = b.s ∧ a.n = b.n ∧ a.cn = b.cn ∧ a.ci = b.ci ∧ a.cs = b.cs ∧ a.cm = b.cm ∧ a.op = b.op ∧ a.id = b.id ∧ smB a b = sameS a.l b.l) ∨ (¬ (a.k = b.k ∧ a.s = b.s ∧ a.n = b.n ∧ a.cn = b.cn ∧ a.ci = b.ci ∧ a.cs = b.cs ∧ a.cm = b.cm ∧ a.op = b.op ∧ a.id = b.id) ∧ smB a b = false) := by
  cases e : eqN a b with
  | true =>
    obtain ⟨h1, h2, h3, h4, h5, h6, h7, h8, h9⟩ := (eqN_iff a b).1 e
    exact .inl ⟨h1, h2, h3, h4, h5, h6, h7, h8, h9, by simp [smB, e]⟩
  | false => exact .inr ⟨fun q => absurd (e.symm.trans ((eqN_iff a b).2 q)) (by decide), by simp [smB, e]⟩
/-- The first k of them are the same. -/
def smTo (ks ms : List Msg) (k : Nat) : Bool := (List.range k).all fun i => smB (ks.getD i ⟨0, 0, 0, 0, 0, 0, 0, 0, 0, []⟩) (ms.getD i ⟨0, 0, 0, 0, 0, 0, 0, 0, 0, []⟩)
def smA (ks ms : List Msg) : Bool := ks.length == ms.length && smTo ks ms ks.length
theorem smTo_succ (ks ms : List Msg) (k : Nat) (h1 : k < ks.length) (h2 : k < ms.length) : smTo ks ms (k + 1) = (smTo ks ms k && smB ks[k] ms[k]) := by
  unfold smTo
  rw [List.range_succ, List.all_append]
  simp [List.getD_eq_getElem?_getD, h1, h2]
theorem smTo_no (ks ms : List Msg) (k n : Nat) (hk : k < n) (h : smTo ks ms (k + 1) = false) : smTo ks ms n = false := by
  unfold smTo at *
  rw [List.all_eq_false] at *
  obtain ⟨x, hx, hf⟩ := h
  exact ⟨x, List.mem_range.2 (by have := List.mem_range.1 hx; omega), hf⟩
end Go.Proofs.Ytifgcffifffdnan.W
