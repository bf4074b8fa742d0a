/-
  The rows of a block turned, in place: what the program's method shiftRows does.
-/
import Derived.Test.YtflnhjbanlpjiaiBlkSize
import Derived.Test.YtflnhjbanlpjiaiBox
namespace Go.Proofs.Ytflnhjbanlpjiai.W
open Go.ChangeShapes Go.WideShapes Go.ChangeAt Go.RowKit
open Go.Proofs.Ytflnhjbanlpjiai.M

set_option maxHeartbeats 1000000 in
set_option maxRecDepth 100000 in
theorem shm (gb : Nat) (l : List Nat) (w : World) (hl : l.length = 16) (hA : Ar w gb 39 l) :
    Calls Try.prog 66 #[.pointer (some ⟨gb, 0, none⟩)] w fun e w' => e = .returned (.tuple #[]) ∧ Ar w' gb 39 (shl l) ∧ w.grownBy w' (some gb) := by
  have hs : (shl l).length = l.length := by rw [shl_len, hl]
  have hgl := hA.lt
  have Z := hid (blk_size l hl)
  go_enter Try.func66, Try.ntmps66
  go_wp2_with (first | refine wpList_load_row rfl 39 _ rfl gb rfl 39 (arr l) _ _ hA Try.underlying39 rfl Z.out ?_ | refine wpList_store_row rfl 39 _ _ rfl w.heap.size (arr l) rfl rfl 39 _ (heap_alloc_new w _) Z.out (by rw [arr_size, hl]; rfl) (arr_one _) ?_)
  rw [World.setRow_alloc_new]
  have A0 := hA.alloc (.cells (arr l) 39)
  have N0 := Ar.new w 39 l
  have G0 := World.grownBy_alloc w (.cells (arr l) 39) (some gb)
  clear hA
  go_loopw [3, 4, 8, 11] (fun i p j jj wr => ∃ c : Nat, ∃ u v x : Value, c ≤ 4 ∧ j = .int .i64 c ∧ i = u ∧ p = v ∧ jj = x ∧ Ar wr gb 39 (upd (shl l) l (4 * c)) ∧ Ar wr w.heap.size 39 l ∧ w.grownBy wr (some gb)) (fun _ _ j _ _ => 4 - (intOf j).toNat)
  case atStart => exact ⟨0, _, _, _, by omega, rfl, rfl, rfl, rfl, by rw [Nat.mul_zero, upd_zero]; exact A0, N0, G0⟩
  case round =>
    obtain ⟨c, u, v, x, hc, rfl, rfl, rfl, rfl, A, N, G⟩ := hrel
    clear A0 N0 G0
    by_cases hlt : c < 4
    · go_wp2
      go_loopw [4, 11] (fun p jj ws => ∃ r : Nat, ∃ v : Value, r ≤ 4 ∧ jj = .int .i64 r ∧ p = v ∧ Ar ws gb 39 (upd (shl l) l (4 * c + r)) ∧ Ar ws w.heap.size 39 l ∧ w.grownBy ws (some gb)) (fun _ jj _ => 4 - (intOf jj).toNat)
      case atStart => exact ⟨0, _, by omega, rfl, rfl, A, N, G⟩
      case round =>
        obtain ⟨r, v, hr, rfl, rfl, A2, N2, G2⟩ := hrel
        clear A N G
        by_cases hlr : r < 4
        · have c1 := N2.cell (4 * ((c + r) % 4) + r) (by omega)
          have c2 : ∃ u, wr.cell? ⟨gb, 4 * c + r, none⟩ = some u := ⟨_, A2.cell (4 * c + r) (by rw [upd_len _ _ hs]; omega)⟩
          obtain ⟨u2, c2⟩ := c2
          have f2 := A2.open (4 * c + r)
          have S := A2.stored (4 * c + r) (gt l (4 * ((c + r) % 4) + r))
          have e : gt (shl l) (4 * c + r) = gt l (4 * ((c + r) % 4) + r) := by
            rw [gt_eq (shl l) _ (by omega)]
            simp only [shl, List.getElem_map, List.getElem_range]
            unfold gt
            rw [show (4 * c + r + 4 * ((4 * c + r) % 4)) % 16 = 4 * ((c + r) % 4) + r by omega]
          rw [← e, upd_set _ _ hs _ (by omega), e] at S
          have SG := grown_cell G2 (4 * c + r) (.int .u8 (gt l (4 * ((c + r) % 4) + r) : Nat))
          have SN := N2.far (g' := gb) (k := 4 * c + r) (.int .u8 (gt l (4 * ((c + r) % 4) + r) : Nat)) (by omega)
          clear A2 N2 G2 e
          replace S := hid S
          replace SG := hid SG
          replace SN := hid SN
          replace hs := hid hs
          obtain ⟨q, hq⟩ : ∃ q, q = 4 * ((c + r) % 4) + r := ⟨_, rfl⟩
          rw [← hq] at c1 S SG SN
          obtain ⟨t, ht⟩ : ∃ t, t = 4 * c + r := ⟨_, rfl⟩
          have e1 : 4 * (((c : Int) + r) % 4) + r = (q : Int) := by omega
          have e2 : 4 * (c : Int) + r = (t : Int) := by omega
          have q1 : (q : Int) < 16 := by omega
          have t1 : (t : Int) < 16 := by omega
          have q0 : (0 : Int) ≤ (q : Int) := by omega
          have t0 : (0 : Int) ≤ (t : Int) := by omega
          have r0 : (0 : Int) ≤ (r : Int) := by omega
          have r1 : (r : Int) < 4 := by omega
          have c0 : (0 : Int) ≤ (c : Int) := by omega
          have c1' : (c : Int) < 4 := by omega
          have ht' := hid ht
          rw [← ht] at c2 f2 S SG SN
          clear hq ht
          generalize gt l q = z at *
          go_wp2
          go_region
          go_wp2
          exact ⟨⟨r + 1, _, by omega, by go_num, rfl, by rw [show 4 * c + (r + 1) = t + 1 by have := ht'.out; omega]; exact S.out.drew, SN.out.drew, grown_drew SG.out⟩, by simp [intOf]; omega⟩
        · have hr4 : r = 4 := by omega
          subst hr4
          go_wp2
          exact ⟨⟨c + 1, _, _, _, by omega, by go_num, rfl, rfl, rfl, A2, N2, G2⟩, by simp [intOf]; omega⟩
    · have hc4 : c = 4 := by omega
      subst hc4
      rw [upd_end _ _ hs (4 * 4) (by omega)] at A
      go_wp2
      go_end0
      exact ⟨rfl, A, G⟩
end Go.Proofs.Ytflnhjbanlpjiai.W
