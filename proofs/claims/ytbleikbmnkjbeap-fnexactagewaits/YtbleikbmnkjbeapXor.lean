/-
  The xor of two lists of bytes: plain mathematics. No program is named here.
-/
import Derived.Test.YtbleikbmnkjbeapSl
import Derived.Laws.BitsAllLaws
namespace Go.Proofs.Ytbleikbmnkjbeap.M
open Go.RowKit

/-- Byte by byte the xor of both, as many as the first has. -/
def xl (a b : List Nat) : List Nat := (List.range a.length).map fun i => a.getD i 0 ^^^ b.getD i 0
theorem xl_len (a b : List Nat) : (xl a b).length = a.length := by simp [xl]
theorem xl_at (a b : List Nat) (i : Nat) (h : i < (xl a b).length) (ha : i < a.length) (hb : i < b.length) : (xl a b)[i] = a[i] ^^^ b[i] := by
  simp [xl, List.getD, List.getElem?_eq_getElem ha, List.getElem?_eq_getElem hb]
theorem xor_lt (a b : Nat) (ha : a < 256) (hb : b < 256) : a ^^^ b < 256 := Nat.xor_lt_two_pow (n := 8) ha hb
theorem xor8' (a b : Nat) (ha : a < 256) (hb : b < 256) : bits .xor .u8 (a : Int) (b : Int) = ((a ^^^ b : Nat) : Int) := u8_xor_nat a b ha hb
theorem cell_set_far {w : World} {g k b o : Nat} {u : Value} (hc : w.cell? ⟨b, o, none⟩ = some u) (h : b ≠ g) (v : Value) : (w.setCell ⟨g, k, none⟩ v).cell? ⟨b, o, none⟩ = some u := by
  rw [World.cell?_of_block (w := w) (a := ⟨b, o, none⟩) (heap_setCell_other w ⟨g, k, none⟩ b v h)]; exact hc
end Go.Proofs.Ytbleikbmnkjbeap.M
