/-
  What NonceOf and HeadOf answer, of the model and of the program, at any numbers.
-/
import Derived.Test.YtmamdbmkjipahabNcW
namespace Go.Proofs.Ytmamdbmkjipahab.W
open Go.ChangeShapes Go.WideShapes Go.ChangeAt Go.RowKit
open Go.Proofs.Ytmamdbmkjipahab.M

/-- Code and bytes of a nonce. -/
def ncIs (s c code : Int) (l : List Nat) : Prop := (mOk s c ∧ code = 0 ∧ l = nonceL s.toNat c.toNat) ∨ (¬ mOk s c ∧ code = 3 ∧ l = [])
theorem nc_some (s c : Int) : ∃ code l, ncIs s c code l := by
  by_cases h : mOk s c
  · exact ⟨_, _, .inl ⟨h, rfl, rfl⟩⟩
  · exact ⟨_, _, .inr ⟨h, rfl, rfl⟩⟩
/-- Code and bytes of a head. -/
def hoIs (k s c code : Int) (l : List Nat) : Prop := (hOk k s c ∧ code = 0 ∧ l = headL k.toNat s.toNat c.toNat) ∨ (¬ hOk k s c ∧ code = 3 ∧ l = [])
theorem ho_some (k s c : Int) : ∃ code l, hoIs k s c code l := by
  by_cases h : hOk k s c
  · exact ⟨_, _, .inl ⟨h, rfl, rfl⟩⟩
  · exact ⟨_, _, .inr ⟨h, rfl, rfl⟩⟩
theorem toN {x : Int} (h : 0 ≤ x) : ((x.toNat : Nat) : Int) = x := Int.toNat_of_nonneg h
theorem snc (s c code : Int) (l : List Nat) (w : World) (h : ncIs s c code l) : Calls Try.prog 48 #[.int .i64 s, .int .i64 c] w fun e w' => ∃ v, e = .returned (.agg #[.int .i64 code, v]) ∧ Own w' w.heap.size v l ∧ Below w.heap.size w w' := by
  rcases h with ⟨h, rfl, rfl⟩ | ⟨h, rfl, rfl⟩
  · have q := snc_ok s.toNat c.toNat w (by have := h.1; omega) (by have := h.2; omega)
    rw [toN h.1.1, toN h.2.1] at q
    exact q
  · exact (snc_bad s c w (fun q => h q.2)).mono fun e w' ⟨he, hB⟩ => ⟨_, he, Own.nil _ _, hB⟩
theorem inc (s c code : Int) (l : List Nat) (w : World) (h : ncIs s c code l) : Calls Try.prog 45 #[.int .i64 s, .int .i64 c] w fun e w' => ∃ v, e = .returned (.agg #[.int .i64 code, v]) ∧ Own w' w.heap.size v l ∧ Below w.heap.size w w' := by
  rcases h with ⟨h, rfl, rfl⟩ | ⟨h, rfl, rfl⟩
  · have q := inc_ok s.toNat c.toNat w (by have := h.1; omega) (by have := h.2; omega)
    rw [toN h.1.1, toN h.2.1] at q
    exact q
  · exact (inc_bad s c w h).mono fun e w' ⟨he, hB⟩ => ⟨_, he, Own.nil _ _, hB⟩
theorem sho (k s c code : Int) (l : List Nat) (w : World) (h : hoIs k s c code l) : Calls Try.prog 49 #[.int .i64 k, .int .i64 s, .int .i64 c] w fun e w' => ∃ v, e = .returned (.agg #[.int .i64 code, v]) ∧ Own w' w.heap.size v l ∧ Below w.heap.size w w' := by
  rcases h with ⟨h, rfl, rfl⟩ | ⟨h, rfl, rfl⟩
  · have q := sho_ok k.toNat s.toNat c.toNat w (by have := h.2.1; omega) (by have := h.2.2; omega) (by have := h.1; omega) (by have := h.1; omega)
    rw [toN (by have := h.1; omega), toN h.2.1.1, toN h.2.2.1] at q
    exact q
  · exact (sho_bad k s c w h).mono fun e w' ⟨he, hB⟩ => ⟨_, he, Own.nil _ _, hB⟩
theorem iho (k s c code : Int) (l : List Nat) (w : World) (h : hoIs k s c code l) : Calls Try.prog 47 #[.int .i64 k, .int .i64 s, .int .i64 c] w fun e w' => ∃ v, e = .returned (.agg #[.int .i64 code, v]) ∧ Own w' w.heap.size v l ∧ Below w.heap.size w w' := by
  rcases h with ⟨h, rfl, rfl⟩ | ⟨h, rfl, rfl⟩
  · have q := iho_ok k.toNat s.toNat c.toNat w (by have := h.2.1; omega) (by have := h.2.2; omega) (by have := h.1; omega) (by have := h.1; omega)
    rw [toN (by have := h.1; omega), toN h.2.1.1, toN h.2.2.1] at q
    exact q
  · exact (iho_bad k s c w h).mono fun e w' ⟨he, hB⟩ => ⟨_, he, Own.nil _ _, hB⟩
end Go.Proofs.Ytmamdbmkjipahab.W
