/-
  Pieces of slices of bytes.
-/
import Derived.Test.YtckgjghpfjinfakGreatBase
import Derived.Test.YtckgjghpfjinfakGreatSlX
namespace Go.Proofs.YtckgjghpfjinfakGreat.W
open Go.ChangeShapes Go.WideShapes Go.ChangeAt Go.RowKit
open Go.Proofs.YtckgjghpfjinfakGreat.M

theorem rd_piece {w : World} {b o n cap : Nat} {l : List Nat} (h : Rd w (.slice (some ⟨b, o, none⟩) n cap) l) (k t : Nat) (hk : k + t ≤ l.length) : Rd w (.slice (some ⟨b, o + k, none⟩) t (cap - k)) (sub l k t) := by
  obtain ⟨a, c, e, h1, h2, hc⟩ := h
  have hl := sub_len l k t hk
  cases e
  refine ⟨some ⟨b, o + k, none⟩, cap - k, by rw [hl], by omega, by omega, fun i hi => ?_⟩
  rw [hl] at hi
  obtain ⟨b', o', e', hcc⟩ := hc (k + i) (by omega)
  cases e'
  refine ⟨b, o + k, rfl, ?_⟩
  rw [Nat.add_assoc, hcc]
  simp [sub]
theorem sub_drop (l : List Nat) (k : Nat) (n : Nat) (h : k + n = l.length) : sub l k n = l.drop k := by
  unfold sub
  rw [List.take_of_length_le (by simp; omega)]
theorem sub_take (l : List Nat) (n : Nat) : sub l 0 n = l.take n := by simp [sub]
/-- s[k:] -/
theorem run_from (b o n c k : Nat) (hk : k ≤ n) (hc : k < c) (w : World) :
    (Instr.slice 25 (.slice (some ⟨b, o, none⟩) n c) (some (.int .i64 (k : Int))) none none).run Tryz.prog w = .ok (.slice (some ⟨b, o + k, none⟩) (n - k) (c - k)) w := by
  have hs : ∀ w : World, (sizeOf (Tryz.prog.elem 25)).run Tryz.prog w = .ok 1 w := fun _ => by kernel_rfl
  have h := run_slice_l (P := Tryz.prog) (t := 25) (a := some ⟨b, o, none⟩) (len := n) (cap := c) (w := w) (by kernel_rfl) .i64 (k : Int) (by omega) (by omega)
  rw [h, hs]
  simp [Result.andThen, sliced, Addr.add_lit, show ¬ c = k by omega]
/-- s[:k] -/
theorem run_upto (b o n c k : Nat) (hk : k ≤ c) (hc : 0 < c) (w : World) :
    (Instr.slice 25 (.slice (some ⟨b, o, none⟩) n c) none (some (.int .i64 (k : Int))) none).run Tryz.prog w = .ok (.slice (some ⟨b, o, none⟩) k c) w := by
  have hs : ∀ w : World, (sizeOf (Tryz.prog.elem 25)).run Tryz.prog w = .ok 1 w := fun _ => by kernel_rfl
  have h := run_slice_h (P := Tryz.prog) (t := 25) (a := some ⟨b, o, none⟩) (len := n) (cap := c) (w := w) (by kernel_rfl) .i64 (k : Int) (by omega) (by omega)
  rw [h, hs]
  simp [Result.andThen, sliced, Addr.add_lit, show ¬ c = 0 by omega]
/-- s[k:k+t] -/
theorem run_piece (b o n c k t : Nat) (hk : k + t ≤ c) (hc : k < c) (w : World) :
    (Instr.slice 25 (.slice (some ⟨b, o, none⟩) n c) (some (.int .i64 (k : Int))) (some (.int .i64 ((k + t : Nat) : Int))) none).run Tryz.prog w = .ok (.slice (some ⟨b, o + k, none⟩) t (c - k)) w := by
  have hs : ∀ w : World, (sizeOf (Tryz.prog.elem 25)).run Tryz.prog w = .ok 1 w := fun _ => by kernel_rfl
  have h := run_slice_lh (P := Tryz.prog) (t := 25) (a := some ⟨b, o, none⟩) (len := n) (cap := c) (w := w) (by kernel_rfl) .i64 .i64 (k : Int) ((k + t : Nat) : Int) (by omega) (by omega) (by omega)
  rw [h, hs]
  simp [Result.andThen, sliced, Addr.add_lit, show ¬ c = k by omega]
  omega
end Go.Proofs.YtckgjghpfjinfakGreat.W
