/-
  Heads: what the model's l5Head answers.
-/
import Derived.Test.YtmamdbmkjipahabInWalks
import Derived.Test.YtmamdbmkjipahabEnvF
namespace Go.Proofs.Ytmamdbmkjipahab.W
open Go.ChangeShapes Go.WideShapes Go.ChangeAt Go.RowKit
open Go.Proofs.Ytmamdbmkjipahab.M

theorem inb_yes {x lo hi : Int} (h : lo ≤ x ∧ x ≤ hi) : inB x lo hi = true := by unfold inB; exact decide_eq_true h
theorem inb_no {x lo hi : Int} (h : ¬ (lo ≤ x ∧ x ≤ hi)) : inB x lo hi = false := by unfold inB; exact decide_eq_false h
set_option maxRecDepth 100000 in
theorem l5head (k s c : Int) (t : Value) (g : Nat) (w : World) (hV : w.heap[g]? = some (.cells #[.int .i64 k, .int .i64 s, .int .i64 c, t] 68)) :
    Calls Try.prog 106 #[.pointer (some ⟨g, 0, none⟩)] w fun e w' => ∃ b, e = .returned (.bool b) ∧ (hOk k s c → b = true) ∧ (¬ hOk k s c → b = false) ∧ Below w.heap.size w w' := by
  have c0 : w.cell? ⟨g, 0, none⟩ = some (.int .i64 k) := by rw [cell_of_row w g 0 _ _ _ hV]; rfl
  have c1 : w.cell? ⟨g, 1, none⟩ = some (.int .i64 s) := by rw [cell_of_row w g 1 _ _ _ hV]; rfl
  have c2 : w.cell? ⟨g, 2, none⟩ = some (.int .i64 c) := by rw [cell_of_row w g 2 _ _ _ hV]; rfl
  clear hV
  by_cases h1 : 1 ≤ k ∧ k ≤ 255
  · have E1 := hid (inb_yes h1)
    by_cases h2 : 0 ≤ s ∧ s ≤ 15
    · have E2 := hid (inb_yes h2)
      by_cases h3 : 0 ≤ c ∧ c ≤ 1000000000
      · have E3 := hid (inb_yes h3)
        have Y := hid (show hOk k s c from ⟨h1, h2, h3⟩)
        clear h1 h2 h3
        go_enter Try.func106, Try.ntmps106
        go_wp2_with fail
        refine (l1in _ _ _ _).mono ?_
        rintro e w' ⟨rfl, rfl⟩
        rw [E1.out]
        go_wp2_with fail
        refine (l1in _ _ _ _).mono ?_
        rintro e w' ⟨rfl, rfl⟩
        rw [E2.out]
        go_wp2_with fail
        refine (l1in _ _ _ _).mono ?_
        rintro e w' ⟨rfl, rfl⟩
        rw [E3.out]
        go_wp2
        go_ret
        exact ⟨true, rfl, fun _ => rfl, fun h => absurd Y.out h, Below.refl _ _⟩
      · have E3 := hid (inb_no h3)
        have N := hid (show ¬ hOk k s c from fun h => h3 h.2.2)
        clear h1 h2 h3
        go_enter Try.func106, Try.ntmps106
        go_wp2_with fail
        refine (l1in _ _ _ _).mono ?_
        rintro e w' ⟨rfl, rfl⟩
        rw [E1.out]
        go_wp2_with fail
        refine (l1in _ _ _ _).mono ?_
        rintro e w' ⟨rfl, rfl⟩
        rw [E2.out]
        go_wp2_with fail
        refine (l1in _ _ _ _).mono ?_
        rintro e w' ⟨rfl, rfl⟩
        rw [E3.out]
        go_wp2
        go_ret
        exact ⟨false, rfl, fun h => absurd h N.out, fun _ => rfl, Below.refl _ _⟩
    · have E2 := hid (inb_no h2)
      have N := hid (show ¬ hOk k s c from fun h => h2 h.2.1)
      clear h1 h2
      go_enter Try.func106, Try.ntmps106
      go_wp2_with fail
      refine (l1in _ _ _ _).mono ?_
      rintro e w' ⟨rfl, rfl⟩
      rw [E1.out]
      go_wp2_with fail
      refine (l1in _ _ _ _).mono ?_
      rintro e w' ⟨rfl, rfl⟩
      rw [E2.out]
      go_wp2
      go_ret
      exact ⟨false, rfl, fun h => absurd h N.out, fun _ => rfl, Below.refl _ _⟩
  · have E1 := hid (inb_no h1)
    have N := hid (show ¬ hOk k s c from fun h => h1 h.1)
    clear h1
    go_enter Try.func106, Try.ntmps106
    go_wp2_with fail
    refine (l1in _ _ _ _).mono ?_
    rintro e w' ⟨rfl, rfl⟩
    rw [E1.out]
    go_wp2
    go_ret
    exact ⟨false, rfl, fun h => absurd h N.out, fun _ => rfl, Below.refl _ _⟩
end Go.Proofs.Ytmamdbmkjipahab.W
