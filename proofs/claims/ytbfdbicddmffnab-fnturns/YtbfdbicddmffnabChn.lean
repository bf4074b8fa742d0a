/-
  The source that draws inputs for the laws: chances.
-/
import Derived.Test.YtbfdbicddmffnabSrc
namespace Go.Proofs.Ytbfdbicddmffnab.W
open Go.ChangeShapes Go.WideShapes Go.ChangeAt Go.RowKit
open Go.Proofs.Ytbfdbicddmffnab.M

theorem chance (w0 w : World) (g : Nat) (v : Value) (l : List Nat) (t : Nat) (n : Int) (h : Src w0 w g v l t) (ht : t ≤ 1000000) (hn : n ≤ 4294967296) (hl : l.length ≤ 1048576) :
    Calls Try.prog 53 #[.pointer (some ⟨g, 0, none⟩), .int .i64 n] w fun e w' => ∃ r : Bool, e = .returned (.bool r) ∧ Src w0 w' g v l (t + 1) ∧ w.grownBy w' (some g) := by
  have N := hid (next w0 w g v l t n h ht hn hl)
  clear h
  go_enter Try.func53, Try.ntmps53
  go_wp2_with fail
  refine N.out.mono ?_
  rintro e w' ⟨r, rfl, -, hS, hG⟩
  have HS := hid hS
  have HG := hid hG
  clear hS hG N
  go_wp2
  go_ret
  exact ⟨_, rfl, HS.out, HG.out⟩

theorem Src.grown {w0 w w' : World} {g : Nat} {v : Value} {l : List Nat} {t : Nat} {row : Option Nat} (h : Src w0 w g v l t) (hG : w.grownBy w' row) (hne : some g ≠ row) (hr : ∀ k, row = some k → w0.heap.size ≤ k) : Src w0 w' g v l t :=
  ⟨h.rd, h.byt, h.bel.grown hG h.bel.size hr, h.new, var_grown hG h.cells hne⟩

end Go.Proofs.Ytbfdbicddmffnab.W
