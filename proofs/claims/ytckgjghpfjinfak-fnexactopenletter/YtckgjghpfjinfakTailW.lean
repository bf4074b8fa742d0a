/-
  What follows the first eleven bytes.
-/
import Derived.Test.YtckgjghpfjinfakCut
namespace Go.Proofs.Ytckgjghpfjinfak.W
open Go.ChangeShapes Go.WideShapes Go.ChangeAt Go.RowKit
open Go.Proofs.Ytckgjghpfjinfak.M

theorem run_tail (b o n c : Nat) (hn : 11 ≤ n) (hc : n ≤ c) : ∃ a' : Option Addr, (∀ w : World, (Instr.slice 22 (.slice (some ⟨b, o, none⟩) n c) (some (.int .i64 11)) none none).run Try.prog w = .ok (.slice a' (n - 11) (c - 11)) w) ∧
    ∀ (w : World) (l : List Nat), Rd w (.slice (some ⟨b, o, none⟩) n c) l → Rd w (.slice a' (n - 11) (c - 11)) (l.drop 11) := by
  by_cases h : c = 11
  · obtain rfl : n = 11 := by omega
    subst h
    refine ⟨some ⟨b, o, none⟩, fun w => ?_, fun w l hr => ?_⟩
    · have hs : ∀ w : World, (sizeOf (Try.prog.elem 22)).run Try.prog w = .ok 1 w := fun _ => by kernel_rfl
      have h := run_slice_l (P := Try.prog) (t := 22) (a := some ⟨b, o, none⟩) (len := 11) (cap := 11) (w := w) (by kernel_rfl) .i64 (11 : Int) (by omega) (by omega)
      rw [h, hs]
      simp [Result.andThen, sliced]
    · obtain ⟨a, c, e, -, -, -⟩ := hr
      simp only [Value.slice.injEq] at e
      have e0 : l.drop 11 = [] := List.drop_of_length_le (by omega)
      rw [e0]
      exact ⟨some ⟨b, o, none⟩, 0, rfl, Nat.le_refl _, Nat.zero_le _, fun i hi => by simp at hi⟩
  · refine ⟨some ⟨b, o + 11, none⟩, fun w => run_from b o n c 11 hn (by omega) w, fun w l hr => ?_⟩
    have hl : l.length = n := by
      obtain ⟨a, c, e, -, -, -⟩ := hr
      simp only [Value.slice.injEq] at e
      omega
    have q := rd_piece hr 11 (n - 11) (by omega)
    rw [sub_drop l 11 (n - 11) (by omega)] at q
    exact q
end Go.Proofs.Ytckgjghpfjinfak.W
