/-
  The bytes of a block by the box, in place: what the program's method subBytes does.
-/
import Derived.Test.YtckgjghpfjinfaiArrIx
import Derived.Test.YtckgjghpfjinfaiBox
namespace Go.Proofs.Ytckgjghpfjinfai.W
open Go.ChangeShapes Go.WideShapes Go.ChangeAt Go.RowKit
open Go.Proofs.Ytckgjghpfjinfai.M

set_option maxHeartbeats 1000000 in
set_option maxRecDepth 100000 in
theorem subm (gb gx : Nat) (l : List Nat) (w : World) (hl : l.length = 16) (y : Byt l) (hA : Ar w gb 63 l) (hX : ∀ a, a < 256 → w.cell? ⟨gx, a, none⟩ = some (.int .u8 (sbx a : Nat))) (hne : gx ≠ gb) :
    Calls Try.prog 102 #[.pointer (some ⟨gb, 0, none⟩), .pointer (some ⟨gx, 0, none⟩)] w fun e w' => e = .returned (.tuple #[]) ∧ Ar w' gb 63 (sbl l) ∧ w.grownBy w' (some gb) := by
  have hs : (sbl l).length = l.length := sbl_len l
  go_enter Try.func102, Try.ntmps102
  go_wp2
  go_loopw [4, 5, 7] (fun i p j wr => ∃ k : Nat, ∃ u v : Value, k ≤ 16 ∧ j = .int .i64 k ∧ i = u ∧ p = v ∧ Ar wr gb 63 (upd (sbl l) l k) ∧ w.grownBy wr (some gb)) (fun _ _ j _ => 16 - (intOf j).toNat)
  case atStart => exact ⟨0, _, _, by omega, rfl, rfl, rfl, by rw [upd_zero]; exact hA, World.grownBy.refl _ _⟩
  case round =>
    obtain ⟨k, u, v, hk, rfl, rfl, rfl, A, hG⟩ := hrel
    by_cases hlt : k < 16
    · have c1 := A.cell k (by rw [upd_len _ _ hs]; omega)
      rw [upd_gt _ _ hs k k (Nat.le_refl _) (by omega)] at c1
      have f1 := A.open k
      have hx := gt_byt l y k
      have c2 := grown_cell? hG (hX _ hx) hne
      have S := A.stored k (sbx (gt l k))
      have e : gt (sbl l) k = sbx (gt l k) := by rw [gt_eq l k (by omega), gt_eq (sbl l) k (by omega)]; simp [sbl]
      rw [← e, upd_set _ _ hs k (by omega), e] at S
      have SG := grown_cell hG k (.int .u8 (sbx (gt l k) : Nat))
      have hs2 := sbx_lt _ hx
      clear A hG hX e hA
      replace S := hid S
      replace SG := hid SG
      replace hs := hid hs
      have k0 : (0 : Int) ≤ (k : Int) := by omega
      have k1 : (k : Int) < 16 := by omega
      generalize gt l k = x at *
      generalize sbx x = z at *
      go_wp2
      go_quiet (fail)
      go_wp2
      go_region
      go_wp2
      exact ⟨⟨k + 1, _, _, by omega, by go_num, rfl, rfl, S.out.drewN (nq + 1), grown_drewN SG.out (nq + 1)⟩, by simp [intOf]; omega⟩
    · have hk8 : k = 16 := by omega
      subst hk8
      rw [upd_end _ _ hs 16 (by omega)] at A
      go_wp2
      go_end0
      exact ⟨rfl, A, hG⟩
end Go.Proofs.Ytckgjghpfjinfai.W
