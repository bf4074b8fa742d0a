/-
  How the bytes of a key are drawn (l4Bytes).
-/
import Derived.Deep.Cut
import Derived.Test.YtbfdbicddmffnabAppM
import Derived.Test.YtbfdbicddmffnabIv
import Derived.Test.YtbfdbicddmffnabSrc
import Derived.Test.YtbfdbicddmffnabKsA
namespace Go.Proofs.Ytbfdbicddmffnab.W
open Go.ChangeShapes Go.WideShapes Go.ChangeAt Go.RowKit
open Go.Proofs.Ytbfdbicddmffnab.M

theorem rdB_one (w : World) (n : Nat) (T : TypeId) : Rd (w.alloc (.cells #[.int .u8 (n : Int)] T)) (.slice (some ⟨w.heap.size, 0, none⟩) 1 1) [n] := by
  refine ⟨_, 1, rfl, Nat.le_refl _, by unfold maxLen; omega, fun i hi => ⟨w.heap.size, 0, rfl, ?_⟩⟩
  obtain rfl : i = 0 := by simpa using hi
  rw [cell_of_row _ _ _ _ _ _ (heap_alloc_new w _)]
  rfl
set_option maxHeartbeats 2000000 in
set_option maxRecDepth 100000 in
theorem l4y (id' : Int) (w : World) :
    Calls Try.prog 128 #[.int .i64 id'] w fun e w' => ∃ (u : Value) (r : List Nat), e = .returned u ∧ Own w' w.heap.size u r ∧ r.length = 16 ∧ Byt r ∧ Below w.heap.size w w' := by
  have O0 := hid (own_lit0 w)
  have B0 := hid (below_alloc1 w (.cells #[] 5))
  go_enter Try.func128, Try.ntmps128
  go_wp2_with fail
  generalize w.alloc (.cells #[] 5) = w0 at *
  go_loopw [3, 4] (fun s3 i wr => ∃ k : Nat, ∃ u : Value, ∃ r : List Nat, k ≤ 16 ∧ i = .int .i64 k ∧ s3 = u ∧ r.length = k ∧ Hid (Byt r) ∧ Hid (Own wr w.heap.size u r) ∧ Hid (Below w.heap.size w wr)) (fun _ i _ => 16 - (intOf i).toNat)
  case atStart => exact ⟨0, _, [], by omega, rfl, rfl, rfl, hid (fun x hx => by simp at hx), O0, B0⟩
  case round =>
    clear O0 B0
    obtain ⟨k, u, r, hk, rfl, rfl, hr, BY, OO, BL⟩ := hrel
    obtain ⟨pu, cu, rfl, -, -, -⟩ := OO.out.rd.parts
    by_cases hlt : k < 16
    · have hki : (k : Int) < 16 := by omega
      obtain ⟨n, hn, hl⟩ : ∃ n : Nat, wrap64 (wrap64 (id' * 37) + (k : Int) * 11) % 256 = (n : Int) ∧ n < 256 := ⟨_, (Int.toNat_of_nonneg (Int.emod_nonneg _ (by decide))).symm, by omega⟩
      have B1 := hid (below_alloc1 wr (.cells #[.int .u8 (n : Int)] 5))
      have RN := hid (rdB_one wr n 5)
      have O2 := hid (OO.out.below B1.out)
      have S2 := hid (show w.heap.size ≤ (wr.alloc (.cells #[.int .u8 (n : Int)] 5)).heap.size by have := BL.out.size; simp; omega)
      have B2 := hid (BL.out.trans (B1.out.mono BL.out.size))
      have LA := hid (show r.length + [n].length ≤ 4194304 by simp; omega)
      obtain ⟨rs, hrs⟩ : ∃ z, z = r ++ [n] := ⟨_, rfl⟩
      have RS := hid hrs
      clear hrs
      go_wp2_with (at_builtin; refine list_app rfl _ _ rfl _ _ r [n] w.heap.size rfl rfl O2.out RN.out LA.out S2.out ?_; intro v3 w3 hO hG; rw [← RS.out] at hO; obtain ⟨pq, cq, rfl, -, -, -⟩ := hO.rd.parts; have B3 := hid (B2.out.grown hG S2.out (O2.out.row (Nat.le_refl _))); have O3 := hid hO)
      clear hO hG O2 S2 B2 RN hn
      have BN := hid (show Byt rs from fun x hx => by rw [RS.out] at hx; rcases List.mem_append.1 hx with q | q; exact BY.out x q; obtain rfl := List.mem_singleton.1 q; exact hl)
      go_roundw
      case rel => exact ⟨k + 1, _, rs, by omega, by go_num, rfl, by rw [RS.out]; simp [hr], BN, O3, B3⟩
      case measure => simp [intOf]; omega
    · obtain rfl : k = 16 := by omega
      clear hlt
      go_wp2
      go_ret
      exact ⟨_, r, rfl, OO.out, hr, BY.out, BL.out⟩
end Go.Proofs.Ytbfdbicddmffnab.W
