/-
  Slices of bytes as strings: SameBytes of the model and of the program.
-/
import Derived.Test.YtbfdbicddmffnabBase
import Derived.Test.YtbfdbicddmffnabConvM
namespace Go.Proofs.Ytbfdbicddmffnab.W
open Go.ChangeShapes Go.WideShapes Go.ChangeAt Go.RowKit
open Go.Proofs.Ytbfdbicddmffnab.M

theorem sameeq (va vb : Value) (la lb : List Nat) (w : World) (ha : Rd w va la) (hb : Rd w vb lb) :
    Calls Try.prog 152 #[va, vb] w fun e w' => e = .returned (.bool (sameS la lb)) ∧ w' = w := by
  have c1 := conv va la w ha
  have c2 := conv vb lb w hb
  obtain ⟨a, capa, rfl, _, _, _⟩ := ha.parts
  obtain ⟨b, capb, rfl, _, _, _⟩ := hb.parts
  clear ha hb
  go_enter Try.func152, Try.ntmps152
  go_wp2
  go_ret
  exact ⟨rfl, rfl⟩

theorem samei (va vb : Value) (la lb : List Nat) (w : World) (ha : Rd w va la) (hb : Rd w vb lb) :
    Calls Try.prog 133 #[va, vb] w fun e w' => e = .returned (.bool (sameS la lb)) ∧ w' = w := by
  have h := sameeq va vb la lb w ha hb
  obtain ⟨a, capa, rfl, _, _, _⟩ := ha.parts
  obtain ⟨b, capb, rfl, _, _, _⟩ := hb.parts
  have H := hid h
  clear ha hb h
  go_enter Try.func133, Try.ntmps133
  go_wp2_with fail
  refine H.out.mono ?_
  rintro e w' ⟨rfl, rfl⟩
  go_wp2
  go_ret
  exact ⟨rfl, rfl⟩
end Go.Proofs.Ytbfdbicddmffnab.W
