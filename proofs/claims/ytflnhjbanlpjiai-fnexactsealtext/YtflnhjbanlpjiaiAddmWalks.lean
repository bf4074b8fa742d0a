/-
  A round key added to a block, in place: what the program's method addKey does.
-/
import Derived.Test.YtflnhjbanlpjiaiBlkSize
import Derived.Test.YtflnhjbanlpjiaiBox
namespace Go.Proofs.Ytflnhjbanlpjiai.W
open Go.ChangeShapes Go.WideShapes Go.ChangeAt Go.RowKit
open Go.Proofs.Ytflnhjbanlpjiai.M

set_option maxHeartbeats 1000000 in
set_option maxRecDepth 100000 in
theorem addm (gb : Nat) (l k : List Nat) (w : World) (hl : l.length = 16) (hk : k.length = 16) (y : Byt l) (yk : Byt k) (hA : Ar w gb 39 l) :
    Calls Try.prog 58 #[.pointer (some ⟨gb, 0, none⟩), .agg (arr k)] w fun e w' => e = .returned (.tuple #[]) ∧ Ar w' gb 39 (xl l k) ∧ w.grownBy w' (some gb) := by
  have hs : (xl l k).length = l.length := xl_len l k
  have hgl := hA.lt
  have Z := hid (blk_size k hk)
  go_enter Try.func58, Try.ntmps58
  go_wp2_with (refine wpList_load_row rfl 39 _ rfl w.heap.size rfl 39 (arr k) _ _ (heap_alloc_new w _) Try.underlying39 rfl Z.out ?_)
  go_loopw [4, 5, 7] (fun i p j wr => ∃ n : Nat, ∃ u v : Value, n ≤ 16 ∧ j = .int .i64 n ∧ i = u ∧ p = v ∧ Ar wr gb 39 (upd (xl l k) l n) ∧ w.grownBy wr (some gb)) (fun _ _ j _ => 16 - (intOf j).toNat)
  case atStart => exact ⟨0, _, _, by omega, rfl, rfl, rfl, by rw [upd_zero]; exact hA.alloc _, World.grownBy_alloc w _ _⟩
  case round =>
    obtain ⟨n, u, v, hn, rfl, rfl, rfl, A, hG⟩ := hrel
    by_cases hlt : n < 16
    · have c1 := A.cell n (by rw [upd_len _ _ hs]; omega)
      rw [upd_gt _ _ hs n n (Nat.le_refl _) (by omega)] at c1
      have f1 := A.open n
      have hix := idx_arr 39 16 Try.underlying39 k hk n hlt
      have hx := gt_byt l y n
      have hx2 := gt_byt k yk n
      have S := A.stored n (gt l n ^^^ gt k n)
      have e : gt (xl l k) n = gt l n ^^^ gt k n := by
        rw [gt_eq (xl l k) n (by omega), xl_at l k n (by omega) (by omega) (by omega), gt_eq l n (by omega), gt_eq k n (by omega)]
      rw [← e, upd_set _ _ hs n (by omega), e] at S
      have SG := grown_cell hG n (.int .u8 (gt l n ^^^ gt k n : Nat))
      have E := xor8 _ _ hx hx2
      clear A hG e hA
      replace S := hid S
      replace SG := hid SG
      replace hs := hid hs
      have k0 : (0 : Int) ≤ (n : Int) := by omega
      have k1 : (n : Int) < 16 := by omega
      generalize gt l n ^^^ gt k n = z at *
      generalize gt l n = x at *
      generalize gt k n = x2 at *
      go_wp2
      go_region
      go_wp2
      exact ⟨⟨n + 1, _, _, by omega, by go_num, rfl, rfl, S.out.drew, grown_drew SG.out⟩, by simp [intOf]; omega⟩
    · have hk8 : n = 16 := by omega
      subst hk8
      rw [upd_end _ _ hs 16 (by omega)] at A
      go_wp2
      go_end0
      exact ⟨rfl, A, hG⟩
end Go.Proofs.Ytflnhjbanlpjiai.W
