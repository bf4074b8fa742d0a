/-
  The rows of a block turned, in place: what the program's method shiftRows does.
  The columns of a block mixed, in place: what the program's method mixColumns does.
  A round key added to a block, in place: what the program's method addKey does.
  A block by a key that is worked out: what the program's method encrypt answers.
  A block counted up: the program's counted.
  What hides data: the mask and the count as the program keeps them. Plain mathematics: no program is named here.
  What is hidden: the program's stream.
  Group elements in memory.
  A block as a group element: the program's elementOf.
  The answer of a function of a block.
  What is a block: the program's isBlock, and the bytes of a slice as an array.
  Sums of group elements, and what is times the power 1: the program's powerZero, plus, raised.
  Products of group elements: the program's times, groupProduct.
  A group element as a block, and a slice as a block: the program's blockOfElement, blockOf, groupProduct.
  What is a key: the program's isKey.
  A slice in a variable of its own.
  What is hidden: the program's StreamXor's closure.
  What is recovered at the face: the program's atFace, over any closure.
-/
import Derived.Test.YtckgjghpfjinfaiBlkSize
import Derived.Test.YtckgjghpfjinfaiBox
import Derived.Test.YtckgjghpfjinfaiTpWalks
import Derived.Test.YtckgjghpfjinfaiCipWalks
import Derived.Test.YtckgjghpfjinfaiSubmWalks
import Derived.Test.YtckgjghpfjinfaiSlX
import Derived.Test.YtckgjghpfjinfaiCtrF
import Derived.Test.YtckgjghpfjinfaiSealF
import Derived.Test.YtckgjghpfjinfaiBase
import Derived.Test.YtckgjghpfjinfaiGrpF
import Derived.StillTailTactics
import Derived.Test.YtckgjghpfjinfaiRangeM
import Derived.Test.YtckgjghpfjinfaiWithin
import Derived.Defers
import Derived.Recover

namespace Go.Proofs.Ytckgjghpfjinfai.W
open Go.ChangeShapes Go.WideShapes Go.ChangeAt Go.RowKit
open Go.Proofs.Ytckgjghpfjinfai.M

set_option maxHeartbeats 1000000 in
set_option maxRecDepth 100000 in
theorem shm (gb : Nat) (l : List Nat) (w : World) (hl : l.length = 16) (hA : Ar w gb 63 l) :
    Calls Try.prog 103 #[.pointer (some ⟨gb, 0, none⟩)] w fun e w' => e = .returned (.tuple #[]) ∧ Ar w' gb 63 (shl l) ∧ w.grownBy w' (some gb) := by
  have hs : (shl l).length = l.length := by rw [shl_len, hl]
  have hgl := hA.lt
  have Z := hid (blk_size l hl)
  go_enter Try.func103, Try.ntmps103
  go_wp2_with (first | refine wpList_load_row rfl 63 _ rfl gb rfl 63 (arr l) _ _ hA Try.underlying63 rfl Z.out ?_ | refine wpList_store_row rfl 63 _ _ rfl w.heap.size (arr l) rfl rfl 63 _ (heap_alloc_new w _) Z.out (by rw [arr_size, hl]; rfl) (arr_one _) ?_)
  rw [World.setRow_alloc_new]
  have A0 := hA.alloc (.cells (arr l) 63)
  have N0 := Ar.new w 63 l
  have G0 := World.grownBy_alloc w (.cells (arr l) 63) (some gb)
  clear hA
  go_loopw [3, 4, 8, 11] (fun i p j jj wr => ∃ c : Nat, ∃ u v x : Value, c ≤ 4 ∧ j = .int .i64 c ∧ i = u ∧ p = v ∧ jj = x ∧ Ar wr gb 63 (upd (shl l) l (4 * c)) ∧ Ar wr w.heap.size 63 l ∧ w.grownBy wr (some gb)) (fun _ _ j _ _ => 4 - (intOf j).toNat)
  case atStart => exact ⟨0, _, _, _, by omega, rfl, rfl, rfl, rfl, by rw [Nat.mul_zero, upd_zero]; exact A0, N0, G0⟩
  case round =>
    obtain ⟨c, u, v, x, hc, rfl, rfl, rfl, rfl, A, N, G⟩ := hrel
    clear A0 N0 G0
    by_cases hlt : c < 4
    · go_wp2
      go_loopw [4, 11] (fun p jj ws => ∃ r : Nat, ∃ v : Value, r ≤ 4 ∧ jj = .int .i64 r ∧ p = v ∧ Ar ws gb 63 (upd (shl l) l (4 * c + r)) ∧ Ar ws w.heap.size 63 l ∧ w.grownBy ws (some gb)) (fun _ jj _ => 4 - (intOf jj).toNat)
      case atStart => exact ⟨0, _, by omega, rfl, rfl, A, N, G⟩
      case round =>
        obtain ⟨r, v, hr, rfl, rfl, A2, N2, G2⟩ := hrel
        clear A N G
        by_cases hlr : r < 4
        · have c1 := N2.cell (4 * ((c + r) % 4) + r) (by omega)
          have c2 : ∃ u, wr.cell? ⟨gb, 4 * c + r, none⟩ = some u := ⟨_, A2.cell (4 * c + r) (by rw [upd_len _ _ hs]; omega)⟩
          obtain ⟨u2, c2⟩ := c2
          have f2 := A2.open (4 * c + r)
          have S := A2.stored (4 * c + r) (gt l (4 * ((c + r) % 4) + r))
          have e : gt (shl l) (4 * c + r) = gt l (4 * ((c + r) % 4) + r) := by
            rw [gt_eq (shl l) _ (by omega)]
            simp only [shl, List.getElem_map, List.getElem_range]
            unfold gt
            rw [show (4 * c + r + 4 * ((4 * c + r) % 4)) % 16 = 4 * ((c + r) % 4) + r by omega]
          rw [← e, upd_set _ _ hs _ (by omega), e] at S
          have SG := grown_cell G2 (4 * c + r) (.int .u8 (gt l (4 * ((c + r) % 4) + r) : Nat))
          have SN := N2.far (g' := gb) (k := 4 * c + r) (.int .u8 (gt l (4 * ((c + r) % 4) + r) : Nat)) (by omega)
          clear A2 N2 G2 e
          replace S := hid S
          replace SG := hid SG
          replace SN := hid SN
          replace hs := hid hs
          obtain ⟨q, hq⟩ : ∃ q, q = 4 * ((c + r) % 4) + r := ⟨_, rfl⟩
          rw [← hq] at c1 S SG SN
          obtain ⟨t, ht⟩ : ∃ t, t = 4 * c + r := ⟨_, rfl⟩
          have e1 : 4 * (((c : Int) + r) % 4) + r = (q : Int) := by omega
          have e2 : 4 * (c : Int) + r = (t : Int) := by omega
          have q1 : (q : Int) < 16 := by omega
          have t1 : (t : Int) < 16 := by omega
          have q0 : (0 : Int) ≤ (q : Int) := by omega
          have t0 : (0 : Int) ≤ (t : Int) := by omega
          have r0 : (0 : Int) ≤ (r : Int) := by omega
          have r1 : (r : Int) < 4 := by omega
          have c0 : (0 : Int) ≤ (c : Int) := by omega
          have c1' : (c : Int) < 4 := by omega
          have ht' := hid ht
          rw [← ht] at c2 f2 S SG SN
          clear hq ht
          generalize gt l q = z at *
          go_wp2
          go_region
          go_wp2
          exact ⟨⟨r + 1, _, by omega, by go_num, rfl, by rw [show 4 * c + (r + 1) = t + 1 by have := ht'.out; omega]; exact S.out.drew, SN.out.drew, grown_drew SG.out⟩, by simp [intOf]; omega⟩
        · have hr4 : r = 4 := by omega
          subst hr4
          go_wp2
          exact ⟨⟨c + 1, _, _, _, by omega, by go_num, rfl, rfl, rfl, A2, N2, G2⟩, by simp [intOf]; omega⟩
    · have hc4 : c = 4 := by omega
      subst hc4
      rw [upd_end _ _ hs (4 * 4) (by omega)] at A
      go_wp2
      go_end0
      exact ⟨rfl, A, G⟩
end Go.Proofs.Ytckgjghpfjinfai.W

namespace Go.Proofs.Ytckgjghpfjinfai.W
open Go.ChangeShapes Go.WideShapes Go.ChangeAt Go.RowKit
open Go.Proofs.Ytckgjghpfjinfai.M

set_option maxHeartbeats 1000000 in
set_option maxRecDepth 100000 in
theorem mxm (gb : Nat) (l : List Nat) (w : World) (hl : l.length = 16) (y : Byt l) (hA : Ar w gb 63 l) :
    Calls Try.prog 104 #[.pointer (some ⟨gb, 0, none⟩)] w fun e w' => e = .returned (.tuple #[]) ∧ Ar w' gb 63 (mxl l) ∧ w.grownBy w' (some gb) := by
  have hs : (mxl l).length = l.length := by rw [mxl_len, hl]
  have hgl := hA.lt
  have Z := hid (blk_size l hl)
  go_enter Try.func104, Try.ntmps104
  go_wp2_with (first | refine wpList_load_row rfl 63 _ rfl gb rfl 63 (arr l) _ _ hA Try.underlying63 rfl Z.out ?_ | refine wpList_store_row rfl 63 _ _ rfl w.heap.size (arr l) rfl rfl 63 _ (heap_alloc_new w _) Z.out (by rw [arr_size, hl]; rfl) (arr_one _) ?_)
  rw [World.setRow_alloc_new]
  have A0 := hA.alloc (.cells (arr l) 63)
  have N0 := Ar.new w 63 l
  have G0 := World.grownBy_alloc w (.cells (arr l) 63) (some gb)
  clear hA
  go_loopw [3, 4, 5, 6, 10, 21] (fun i q p n j jj wr => ∃ c : Nat, ∃ u v x y z : Value, c ≤ 4 ∧ j = .int .i64 c ∧ i = u ∧ q = y ∧ p = v ∧ n = z ∧ jj = x ∧ Ar wr gb 63 (upd (mxl l) l (4 * c)) ∧ Ar wr w.heap.size 63 l ∧ w.grownBy wr (some gb)) (fun _ _ _ _ j _ _ => 4 - (intOf j).toNat)
  case atStart => exact ⟨0, _, _, _, _, _, by omega, rfl, rfl, rfl, rfl, rfl, rfl, by rw [Nat.mul_zero, upd_zero]; exact A0, N0, G0⟩
  case round =>
    obtain ⟨c, u, v, x, y1, z1, hc, rfl, rfl, rfl, rfl, rfl, rfl, A, N, G⟩ := hrel
    clear A0 N0 G0
    by_cases hlt : c < 4
    · obtain ⟨w1, rfl⟩ : ∃ w1, w1 = wr := ⟨_, rfl⟩
      have c0 : (0 : Int) ≤ (c : Int) := by omega
      have c1 : (c : Int) < 4 := by omega
      have HS : ∀ w' : World, (Instr.sliceAt 63 (.pointer (some ⟨w.heap.size, 0, none⟩)) (some (.int .i64 (4 * (c : Int)))) (some (.int .i64 (4 * ((c : Int) + 1)))) none).run Try.prog w' = .ok (.slice (some ⟨w.heap.size, 4 * c, none⟩) 4 (16 - 4 * c)) w' := fun w' => by
        have hs : ∀ w : World, (sizeOf (Try.prog.elem 63)).run Try.prog w = .ok 1 w := fun _ => by kernel_rfl
        rw [run_sliceAt_array_lh (P := Try.prog) w' 63 _ (by kernel_rfl) .i64 .i64 (4 * (c : Int)) (4 * ((c : Int) + 1)) (by omega) (by omega) (by rw [show Try.prog.arrayLen 63 = 16 by kernel_rfl]; omega), hs]
        have e1 : (4 * (c : Int)).toNat = 4 * c := by omega
        have e2 : (4 * ((c : Int) + 1)).toNat = 4 * c + 4 := by omega
        have e3 : ¬ (16 = 4 * c) := by omega
        simp [Result.andThen, slicedAt, e1, e2, e3, Addr.add_lit, show Try.prog.arrayLen 63 = 16 by kernel_rfl]
      have HP := arr_at 101 5 4 Try.underlying101 (some ⟨w.heap.size, 4 * c, none⟩) 4 (16 - 4 * c) (Nat.le_refl _)
      have hcl := sub_len l (4 * c) 4 (by omega)
      have Z4 := hid (show (Try.prog.info? 101).map (·.size) = some (arr (sub l (4 * c) 4)).size by rw [arr_size, hcl]; kernel_rfl)
      have ZL := hid hcl
      have RG := hid (N.range (4 * c) 4)
      clear hcl
      go_wp2_with (first | refine load_sub rfl 101 _ rfl w.heap.size (4 * c) rfl (sub l (4 * c) 4) RG.out _ Try.underlying101 rfl Z4.out ?_ | refine wpList_store_row rfl 101 _ _ rfl w1.heap.size (arr (sub l (4 * c) 4)) rfl rfl 101 _ (heap_alloc_new w1 _) Z4.out (by rw [arr_size, ZL.out]; rfl) (arr_one _) ?_)
      rw [World.setRow_alloc_new]
      have N1 := N.alloc (.cells (arr (sub l (4 * c) 4)) 101)
      have A1 := A.alloc (.cells (arr (sub l (4 * c) 4)) 101)
      have C1 := Ar.new w1 101 (sub l (4 * c) 4)
      have G1 := grown_trans G (World.grownBy_alloc w1 (.cells (arr (sub l (4 * c) 4)) 101) (some gb))
      have hz := N.lt
      generalize w1.heap.size = g at *
      clear A N G RG HS HP Z4 Z
      go_loopw [5, 6, 21] (fun p n jj ws => ∃ r : Nat, ∃ v z : Value, r ≤ 4 ∧ jj = .int .i64 r ∧ p = v ∧ n = z ∧ Ar ws gb 63 (upd (mxl l) l (4 * c + r)) ∧ Ar ws w.heap.size 63 l ∧ Ar ws g 101 (sub l (4 * c) 4) ∧ w.grownBy ws (some gb)) (fun _ _ jj _ => 4 - (intOf jj).toNat)
      case atStart => exact ⟨0, _, _, by omega, rfl, rfl, rfl, A1, N1, C1, G1⟩
      case round =>
        obtain ⟨r, v, z, hr, rfl, rfl, rfl, A2, N2, C2, G2⟩ := hrel
        clear A1 N1 C1 G1
        by_cases hlr : r < 4
        · have hcl := ZL.out
          obtain ⟨n1, h1⟩ : ∃ n, n = (r + 1) % 4 := ⟨_, rfl⟩
          obtain ⟨n2, h2⟩ : ∃ n, n = (r + 2) % 4 := ⟨_, rfl⟩
          obtain ⟨n3, h3⟩ : ∃ n, n = (r + 3) % 4 := ⟨_, rfl⟩
          obtain ⟨t, ht⟩ : ∃ t, t = 4 * c + r := ⟨_, rfl⟩
          have d0 := C2.cell r (by omega)
          have d1 := C2.cell n1 (by omega)
          have d2 := C2.cell n2 (by omega)
          have d3 := C2.cell n3 (by omega)
          have b0 : gt (sub l (4 * c) 4) r = gt l (4 * c + r) := sub_gt _ _ _ _ (by omega)
          have b1 : gt (sub l (4 * c) 4) n1 = gt l (4 * c + n1) := sub_gt _ _ _ _ (by omega)
          have b2 : gt (sub l (4 * c) 4) n2 = gt l (4 * c + n2) := sub_gt _ _ _ _ (by omega)
          have b3 : gt (sub l (4 * c) 4) n3 = gt l (4 * c + n3) := sub_gt _ _ _ _ (by omega)
          rw [b0] at d0
          rw [b1] at d1
          rw [b2] at d2
          rw [b3] at d3
          have x0 := gt_byt l y (4 * c + r)
          have x1 := gt_byt l y (4 * c + n1)
          have x2 := gt_byt l y (4 * c + n2)
          have x3 := gt_byt l y (4 * c + n3)
          have e : gt (mxl l) t = (((xt (gt l (4 * c + r)) ^^^ xt (gt l (4 * c + n1))) ^^^ gt l (4 * c + n1)) ^^^ gt l (4 * c + n2)) ^^^ gt l (4 * c + n3) := by
            have hm := mxl_len l
            rw [gt_eq (mxl l) _ (by omega)]
            simp only [mxl, List.getElem_map, List.getElem_range, mxb]
            unfold gt
            rw [show t / 4 * 4 + (t + 0) % 4 = 4 * c + r by omega, show t / 4 * 4 + (t + 1) % 4 = 4 * c + n1 by omega, show t / 4 * 4 + (t + 2) % 4 = 4 * c + n2 by omega, show t / 4 * 4 + (t + 3) % 4 = 4 * c + n3 by omega, Nat.xor_assoc (xt _) (xt _)]
          have c2 : ∃ u, wr.cell? ⟨gb, t, none⟩ = some u := ⟨_, A2.cell t (by rw [upd_len _ _ hs]; omega)⟩
          obtain ⟨u2, c2⟩ := c2
          have f2 := A2.open t
          have S := A2.stored (4 * c + r) (gt (mxl l) (4 * c + r))
          rw [upd_set _ _ hs _ (by omega), ← ht] at S
          have SG := grown_cell G2 t (.int .u8 (gt (mxl l) t : Nat))
          have SN := N2.far (g' := gb) (k := t) (.int .u8 (gt (mxl l) t : Nat)) (by omega)
          have SC := C2.far (g' := gb) (k := t) (.int .u8 (gt (mxl l) t : Nat)) (by omega)
          have k0 := SC.cell r (by omega)
          have k2 := SC.cell n2 (by omega)
          have k3 := SC.cell n3 (by omega)
          rw [b0] at k0
          rw [b2] at k2
          rw [b3] at k3
          generalize gt l (4 * c + r) = a0 at *
          generalize gt l (4 * c + n1) = a1 at *
          generalize gt l (4 * c + n2) = a2 at *
          generalize gt l (4 * c + n3) = a3 at *
          generalize gt (mxl l) t = m at *
          have y0 := xt_lt a0
          have y1 := xt_lt a1
          have E : bits .xor .u8 (bits .xor .u8 (bits .xor .u8 (bits .xor .u8 (xt a0 : Nat) (xt a1 : Nat)) (a1 : Nat)) (a2 : Nat)) (a3 : Nat) = ((m : Nat) : Int) := by
            rw [xor8 _ _ y0 y1, xor8 _ _ (xor_lt _ _ y0 y1) x1, xor8 _ _ (xor_lt _ _ (xor_lt _ _ y0 y1) x1) x2, xor8 _ _ (xor_lt _ _ (xor_lt _ _ (xor_lt _ _ y0 y1) x1) x2) x3, e]
          clear e b0 b1 b2 b3 A2 N2 C2 G2
          replace S := hid S
          replace SG := hid SG
          replace SN := hid SN
          replace SC := hid SC
          have KP := hid (And.intro k0 (And.intro k2 k3))
          clear k0 k2 k3
          replace hs := hid hs
          have e1 : ((r : Int) + 1) % 4 = (n1 : Int) := by omega
          have e2 : ((r : Int) + 2) % 4 = (n2 : Int) := by omega
          have e3 : ((r : Int) + 3) % 4 = (n3 : Int) := by omega
          have e4 : 4 * (c : Int) + r = (t : Int) := by omega
          have q1 : (n1 : Int) < 4 := by omega
          have q2 : (n2 : Int) < 4 := by omega
          have q3 : (n3 : Int) < 4 := by omega
          have q4 : (t : Int) < 16 := by omega
          have p1 : (0 : Int) ≤ (n1 : Int) := by omega
          have p2 : (0 : Int) ≤ (n2 : Int) := by omega
          have p3 : (0 : Int) ≤ (n3 : Int) := by omega
          have p4 : (0 : Int) ≤ (t : Int) := by omega
          have r0 : (0 : Int) ≤ (r : Int) := by omega
          have r1 : (r : Int) < 4 := by omega
          have v1 : IntKind.i64.wrap ((r : Int) + 2) = (r : Int) + 2 := by rw [IntKind.wrap_i64]; omega
          have v2 : IntKind.i64.wrap ((r : Int) + 3) = (r : Int) + 3 := by rw [IntKind.wrap_i64]; omega
          have v3 : IntKind.i64.wrap (4 * (c : Int)) = 4 * (c : Int) := by rw [IntKind.wrap_i64]; omega
          have v4 : IntKind.i64.wrap (t : Int) = (t : Int) := by rw [IntKind.wrap_i64]; omega
          have v5 : ((r : Int) + 2).tmod 4 = (n2 : Int) := by rw [Int.tmod_eq_emod_of_nonneg (by omega)]; omega
          have v6 : ((r : Int) + 3).tmod 4 = (n3 : Int) := by rw [Int.tmod_eq_emod_of_nonneg (by omega)]; omega
          have v7 : IntKind.i64.wrap (n2 : Int) = (n2 : Int) := by rw [IntKind.wrap_i64]; omega
          have v8 : IntKind.i64.wrap (n3 : Int) = (n3 : Int) := by rw [IntKind.wrap_i64]; omega
          have ht' := hid ht
          clear h1 h2 h3 ht
          have KT : (wr.setCell ⟨gb, t, none⟩ (.int .u8 (m : Nat))).drew.cell? ⟨g, r, none⟩ = some (.int .u8 (a0 : Nat)) ∧ (wr.setCell ⟨gb, t, none⟩ (.int .u8 (m : Nat))).drew.cell? ⟨g, n2, none⟩ = some (.int .u8 (a2 : Nat)) ∧ (wr.setCell ⟨gb, t, none⟩ (.int .u8 (m : Nat))).drew.cell? ⟨g, n3, none⟩ = some (.int .u8 (a3 : Nat)) := KP.out
          clear KT
          go_wp2_with fail
          go_region_held3 (fun w' => w'.cell? ⟨g, r, none⟩ = some (.int .u8 (a0 : Nat)) ∧ w'.cell? ⟨g, n2, none⟩ = some (.int .u8 (a2 : Nat)) ∧ w'.cell? ⟨g, n3, none⟩ = some (.int .u8 (a3 : Nat))) (first | exact KP.out | go_keep) ((go_at_call 98; refine (tp1 _ ?_ _).mono ?_; (first | exact x0 | exact x1); rintro e w' ⟨rfl, rfl⟩))
          go_wp2
          exact ⟨⟨r + 1, _, _, by omega, by go_num, rfl, rfl, by rw [show 4 * c + (r + 1) = t + 1 by have := ht'.out; omega]; exact S.out.drew, SN.out.drew, SC.out.drew, grown_drew SG.out⟩, by simp [intOf]; omega⟩
        · have hr4 : r = 4 := by omega
          subst hr4
          go_wp2
          exact ⟨⟨c + 1, _, _, _, _, _, by omega, by go_num, rfl, rfl, rfl, rfl, rfl, A2, N2, G2⟩, by simp [intOf]; omega⟩
    · have hc4 : c = 4 := by omega
      subst hc4
      rw [upd_end _ _ hs (4 * 4) (by omega)] at A
      go_wp2
      go_end0
      exact ⟨rfl, A, G⟩
end Go.Proofs.Ytckgjghpfjinfai.W

namespace Go.Proofs.Ytckgjghpfjinfai.W
open Go.ChangeShapes Go.WideShapes Go.ChangeAt Go.RowKit
open Go.Proofs.Ytckgjghpfjinfai.M

set_option maxHeartbeats 1000000 in
set_option maxRecDepth 100000 in
theorem addm (gb : Nat) (l k : List Nat) (w : World) (hl : l.length = 16) (hk : k.length = 16) (y : Byt l) (yk : Byt k) (hA : Ar w gb 63 l) :
    Calls Try.prog 85 #[.pointer (some ⟨gb, 0, none⟩), .agg (arr k)] w fun e w' => e = .returned (.tuple #[]) ∧ Ar w' gb 63 (xl l k) ∧ w.grownBy w' (some gb) := by
  have hs : (xl l k).length = l.length := xl_len l k
  have hgl := hA.lt
  have Z := hid (blk_size k hk)
  go_enter Try.func85, Try.ntmps85
  go_wp2_with (refine wpList_load_row rfl 63 _ rfl w.heap.size rfl 63 (arr k) _ _ (heap_alloc_new w _) Try.underlying63 rfl Z.out ?_)
  go_loopw [4, 5, 7] (fun i p j wr => ∃ n : Nat, ∃ u v : Value, n ≤ 16 ∧ j = .int .i64 n ∧ i = u ∧ p = v ∧ Ar wr gb 63 (upd (xl l k) l n) ∧ w.grownBy wr (some gb)) (fun _ _ j _ => 16 - (intOf j).toNat)
  case atStart => exact ⟨0, _, _, by omega, rfl, rfl, rfl, by rw [upd_zero]; exact hA.alloc _, World.grownBy_alloc w _ _⟩
  case round =>
    obtain ⟨n, u, v, hn, rfl, rfl, rfl, A, hG⟩ := hrel
    by_cases hlt : n < 16
    · have c1 := A.cell n (by rw [upd_len _ _ hs]; omega)
      rw [upd_gt _ _ hs n n (Nat.le_refl _) (by omega)] at c1
      have f1 := A.open n
      have hix := idx_arr 63 16 Try.underlying63 k hk n hlt
      have hx := gt_byt l y n
      have hx2 := gt_byt k yk n
      have S := A.stored n (gt l n ^^^ gt k n)
      have e : gt (xl l k) n = gt l n ^^^ gt k n := by
        rw [gt_eq (xl l k) n (by omega), xl_at l k n (by omega) (by omega) (by omega), gt_eq l n (by omega), gt_eq k n (by omega)]
      rw [← e, upd_set _ _ hs n (by omega), e] at S
      have SG := grown_cell hG n (.int .u8 (gt l n ^^^ gt k n : Nat))
      have E := xor8 _ _ hx hx2
      clear A hG e hA
      replace S := hid S
      replace SG := hid SG
      replace hs := hid hs
      have k0 : (0 : Int) ≤ (n : Int) := by omega
      have k1 : (n : Int) < 16 := by omega
      generalize gt l n ^^^ gt k n = z at *
      generalize gt l n = x at *
      generalize gt k n = x2 at *
      go_wp2
      go_region
      go_wp2
      exact ⟨⟨n + 1, _, _, by omega, by go_num, rfl, rfl, S.out.drew, grown_drew SG.out⟩, by simp [intOf]; omega⟩
    · have hk8 : n = 16 := by omega
      subst hk8
      rw [upd_end _ _ hs 16 (by omega)] at A
      go_wp2
      go_end0
      exact ⟨rfl, A, hG⟩
end Go.Proofs.Ytckgjghpfjinfai.W

namespace Go.Proofs.Ytckgjghpfjinfai.W
open Go.ChangeShapes Go.WideShapes Go.ChangeAt Go.RowKit
open Go.Proofs.Ytckgjghpfjinfai.M

theorem rk_sub (F : Nat → Nat) (r : Nat) (hr : r < 11) : sub (cph F 176) (256 + 16 * r) 16 = rkl F r := by
  have l1 := sub_len (cph F 176) (256 + 16 * r) 16 (by rw [cph_len]; omega)
  apply List.ext_getElem (by rw [l1, rkl_len])
  intro i h1 h2
  have hi : i < 16 := by rw [rkl_len] at h2; exact h2
  rw [← gt_eq _ i h1, ← gt_eq _ i h2, sub_gt _ _ _ _ hi, rkl_gt _ _ _ hi, show 256 + 16 * r + i = 256 + (16 * r + i) by omega, cph_word, rowTo_gt _ _ _ _ (by omega) (Nat.le_refl _)]

theorem ar_grown {w w' : World} {g gb : Nat} {T : TypeId} {l : List Nat} (h : Ar w g T l) (hG : w.grownBy w' (some gb)) (hne : g ≠ gb) : Ar w' g T l := var_grown hG h (by intro e; exact hne (Option.some.inj e))
theorem cph_cells {w : World} {g : Nat} {T : TypeId} {F : Nat → Nat} (h : Ar w g T (cph F 176)) (a : Nat) (ha : a < 256) : w.cell? ⟨g, a, none⟩ = some (.int .u8 (sbx a : Nat)) := by
  rw [h.cell a (by rw [cph_len]; omega), cph_box _ _ _ ha]
theorem cph_rk {w : World} {g : Nat} {T : TypeId} {F : Nat → Nat} (h : Ar w g T (cph F 176)) (r : Nat) (hr : r < 11) : w.rangeAt g (256 + 16 * r) ((rkl F r).map bv) := by
  have q := h.range (256 + 16 * r) 16
  rw [rk_sub F r hr] at q
  exact q

set_option maxHeartbeats 2000000 in
set_option maxRecDepth 100000 in
theorem encr (l : List Nat) (F : Nat → Nat) (g : Nat) (w : World) (hl : l.length = 16) (y : Byt l) (hF : ∀ j, F j < 256) (hC : Ar w g 110 (cph F 176)) :
    Calls Try.prog 79 #[.pointer (some ⟨g, 0, none⟩), .agg (arr l)] w fun e w' => e = .returned (.agg (arr (enc F l))) ∧ Below w.heap.size w w' := by
  have hmf : ∀ (fn : Fn) (first cap : Array Value) (w : World), (Instr.makeFunc fn first cap).run Try.prog w = .ok (.func fn first cap) w := fun _ _ _ _ => rfl
  have HF := hid hF
  have HL := hid hl
  have hgl := hC.lt
  clear hl hF
  go_enter Try.func79, Try.ntmps79
  have X : Ar ((w.alloc (.cells (arr l) 63)).alloc (.cells #[.int .u8 0, .int .u8 0, .int .u8 0, .int .u8 0, .int .u8 0, .int .u8 0, .int .u8 0, .int .u8 0, .int .u8 0, .int .u8 0, .int .u8 0, .int .u8 0, .int .u8 0, .int .u8 0, .int .u8 0, .int .u8 0] 63)) w.heap.size 63 l := heap_alloc2_old w _ _
  have R : Ar ((w.alloc (.cells (arr l) 63)).alloc (.cells #[.int .u8 0, .int .u8 0, .int .u8 0, .int .u8 0, .int .u8 0, .int .u8 0, .int .u8 0, .int .u8 0, .int .u8 0, .int .u8 0, .int .u8 0, .int .u8 0, .int .u8 0, .int .u8 0, .int .u8 0, .int .u8 0] 63)) (w.heap.size + 1) 63 (zs 16) := heap_alloc2_new w _ _
  have B := below_alloc2 w (.cells (arr l) 63) (.cells #[.int .u8 0, .int .u8 0, .int .u8 0, .int .u8 0, .int .u8 0, .int .u8 0, .int .u8 0, .int .u8 0, .int .u8 0, .int .u8 0, .int .u8 0, .int .u8 0, .int .u8 0, .int .u8 0, .int .u8 0, .int .u8 0] 63)
  have C := (hC.alloc (.cells (arr l) 63)).alloc (.cells #[.int .u8 0, .int .u8 0, .int .u8 0, .int .u8 0, .int .u8 0, .int .u8 0, .int .u8 0, .int .u8 0, .int .u8 0, .int .u8 0, .int .u8 0, .int .u8 0, .int .u8 0, .int .u8 0, .int .u8 0, .int .u8 0] 63)
  clear hC
  have RG := hid (cph_rk C 0 (by omega))
  go_wp2_with (refine load_sub rfl 63 _ rfl g (256) rfl (rkl F (0)) RG.out _ Try.underlying63 rfl (blk_size _ (rkl_len _ _)) ?_)
  generalize (w.alloc (.cells (arr l) 63)).alloc (.cells #[.int .u8 0, .int .u8 0, .int .u8 0, .int .u8 0, .int .u8 0, .int .u8 0, .int .u8 0, .int .u8 0, .int .u8 0, .int .u8 0, .int .u8 0, .int .u8 0, .int .u8 0, .int .u8 0, .int .u8 0, .int .u8 0] 63) = W at *
  obtain ⟨gb, hgb⟩ : ∃ b, b = w.heap.size := ⟨_, rfl⟩
  rw [← hgb] at X R ⊢
  have Hgb := hid hgb
  clear hgb
  refine (addm gb l (rkl F 0) _ HL.out (rkl_len _ _) y (rkl_byt F HF.out 0) X).mono ?_
  rintro e w1 ⟨rfl, XN, hG⟩
  replace C := ar_grown C hG (by have := Hgb.out; omega)
  replace R := ar_grown R hG (by have := Hgb.out; omega)
  replace B := B.grown hG B.size (fun k e => by cases e; have := Hgb.out; omega)
  replace X := XN
  clear XN hG
  rw [show xl l (rkl F 0) = stt F l 0 from rfl] at X
  clear RG
  have XH := hid X
  have CH := hid C
  have RH := hid R
  have BH := hid B
  clear X C R B
  go_wp2_with fail
  go_loopw [9] (fun s9 ws => ∃ n r : Nat, n ≤ 9 ∧ Hid (r = n + 1) ∧ s9 = .int .i64 (r : Nat) ∧ Ar ws gb 63 (stt F l n) ∧ Ar ws g 110 (cph F 176) ∧ Ar ws (gb + 1) 63 (zs 16) ∧ Below w.heap.size w ws) (fun s9 _ => 10 - (intOf s9).toNat)
  case atStart => exact ⟨0, 1, by omega, hid rfl, rfl, XH.out, CH.out, RH.out, BH.out⟩
  case round =>
    obtain ⟨n, r, hn, Hr, rfl, X, C, R, B⟩ := hrel
    clear XH CH RH BH
    have sl := hid (stt_len F l HL.out n)
    have sb := hid (stt_byt F HF.out l y n)
    have I0 := idx_rk g 256 r (by have := Hr.out; omega)
    by_cases hlt : n < 9
    · have r1 : (r : Int) < 10 := by have := Hr.out; omega
      have r0 : (0 : Int) ≤ (r : Int) := by omega
      have SE := hid (show stt F l (n + 1) = xl (mxl (shl (sbl (stt F l n)))) (rkl F (n + 1)) by rw [stt, if_pos (by omega)])
      have XH := hid X
      have CH := hid C
      have RH := hid R
      have BH := hid B
      clear X C R B
      go_wp2_with fail
      have X := XH.out
      have C := CH.out
      have R := RH.out
      have B := BH.out
      clear XH CH RH BH
      refine (subm gb g (stt F l n) _ sl.out sb.out X (cph_cells C) (by have := Hgb.out; omega)).mono ?_
      rintro e w2 ⟨rfl, XN, hG⟩
      replace C := ar_grown C hG (by have := Hgb.out; omega)
      replace R := ar_grown R hG (by have := Hgb.out; omega)
      replace B := B.grown hG B.size (fun k e => by cases e; have := Hgb.out; omega)
      replace X := XN
      clear XN hG
      have XH := hid X
      have CH := hid C
      have RH := hid R
      have BH := hid B
      clear X C R B
      go_wp2_with fail
      have X := XH.out
      have C := CH.out
      have R := RH.out
      have B := BH.out
      clear XH CH RH BH
      refine (shm gb (sbl (stt F l n)) _ (sbl_len16 _ sl.out) X).mono ?_
      rintro e w3 ⟨rfl, XN, hG⟩
      replace C := ar_grown C hG (by have := Hgb.out; omega)
      replace R := ar_grown R hG (by have := Hgb.out; omega)
      replace B := B.grown hG B.size (fun k e => by cases e; have := Hgb.out; omega)
      replace X := XN
      clear XN hG
      have XH := hid X
      have CH := hid C
      have RH := hid R
      have BH := hid B
      clear X C R B
      go_wp2_with fail
      have X := XH.out
      have C := CH.out
      have R := RH.out
      have B := BH.out
      clear XH CH RH BH
      refine (mxm gb (shl (sbl (stt F l n))) _ (shl_len _) (shl_byt _ (sbl_byt _ sb.out)) X).mono ?_
      rintro e w4 ⟨rfl, XN, hG⟩
      replace C := ar_grown C hG (by have := Hgb.out; omega)
      replace R := ar_grown R hG (by have := Hgb.out; omega)
      replace B := B.grown hG B.size (fun k e => by cases e; have := Hgb.out; omega)
      replace X := XN
      clear XN hG
      have RG := hid (cph_rk C r (by have := Hr.out; omega))
      have XH := hid X
      have CH := hid C
      have RH := hid R
      have BH := hid B
      clear X C R B
      go_wp2_with (refine load_sub rfl 63 _ rfl g (256 + 16 * r) rfl (rkl F (r)) RG.out _ Try.underlying63 rfl (blk_size _ (rkl_len _ _)) ?_)
      have X := XH.out
      have C := CH.out
      have R := RH.out
      have B := BH.out
      clear XH CH RH BH
      refine (addm gb (mxl (shl (sbl (stt F l n)))) (rkl F r) _ (mxl_len _) (rkl_len _ _) (mxl_byt _ (shl_byt _ (sbl_byt _ sb.out))) (rkl_byt F HF.out r) X).mono ?_
      rintro e w5 ⟨rfl, XN, hG⟩
      replace C := ar_grown C hG (by have := Hgb.out; omega)
      replace R := ar_grown R hG (by have := Hgb.out; omega)
      replace B := B.grown hG B.size (fun k e => by cases e; have := Hgb.out; omega)
      replace X := XN
      clear XN hG
      clear RG
      have XH := hid X
      have CH := hid C
      have RH := hid R
      have BH := hid B
      clear X C R B
      go_wp2_with fail
      refine ⟨⟨n + 1, r + 1, by omega, hid (by rw [Hr.out]), num_succ r, ?_, CH.out, RH.out, BH.out⟩, ?_⟩
      · rw [SE.out]
        have q := XH.out
        rw [Hr.out] at q
        exact q
      · have hr := Hr.out
        simp [intOf]
        omega
    · have hn9 : n = 9 := by omega
      subst hn9
      have r1 : ¬ (r : Int) < 10 := by have := Hr.out; omega
      have SE := hid (show enc F l = xl (shl (sbl (stt F l 9))) (rkl F 10) by rw [enc, stt, if_neg (by omega)])
      clear I0 hn hlt
      have XH := hid X
      have CH := hid C
      have RH := hid R
      have BH := hid B
      clear X C R B
      go_wp2_with fail
      have X := XH.out
      have C := CH.out
      have R := RH.out
      have B := BH.out
      clear XH CH RH BH
      refine (subm gb g (stt F l 9) _ sl.out sb.out X (cph_cells C) (by have := Hgb.out; omega)).mono ?_
      rintro e w2 ⟨rfl, XN, hG⟩
      replace C := ar_grown C hG (by have := Hgb.out; omega)
      replace R := ar_grown R hG (by have := Hgb.out; omega)
      replace B := B.grown hG B.size (fun k e => by cases e; have := Hgb.out; omega)
      replace X := XN
      clear XN hG
      have XH := hid X
      have CH := hid C
      have RH := hid R
      have BH := hid B
      clear X C R B
      go_wp2_with fail
      have X := XH.out
      have C := CH.out
      have R := RH.out
      have B := BH.out
      clear XH CH RH BH
      refine (shm gb (sbl (stt F l 9)) _ (sbl_len16 _ sl.out) X).mono ?_
      rintro e w3 ⟨rfl, XN, hG⟩
      replace C := ar_grown C hG (by have := Hgb.out; omega)
      replace R := ar_grown R hG (by have := Hgb.out; omega)
      replace B := B.grown hG B.size (fun k e => by cases e; have := Hgb.out; omega)
      replace X := XN
      clear XN hG
      have RG := hid (cph_rk C 10 (by omega))
      have XH := hid X
      have CH := hid C
      have RH := hid R
      have BH := hid B
      clear X C R B
      go_wp2_with (refine load_sub rfl 63 _ rfl g (416) rfl (rkl F (10)) RG.out _ Try.underlying63 rfl (blk_size _ (rkl_len _ _)) ?_)
      have X := XH.out
      have C := CH.out
      have R := RH.out
      have B := BH.out
      clear XH CH RH BH
      refine (addm gb (shl (sbl (stt F l 9))) (rkl F 10) _ (shl_len _) (rkl_len _ _) (shl_byt _ (sbl_byt _ sb.out)) (rkl_byt F HF.out 10) X).mono ?_
      rintro e w5 ⟨rfl, XN, hG⟩
      replace C := ar_grown C hG (by have := Hgb.out; omega)
      replace R := ar_grown R hG (by have := Hgb.out; omega)
      replace B := B.grown hG B.size (fun k e => by cases e; have := Hgb.out; omega)
      replace X := XN
      clear XN hG
      clear RG
      rw [← SE.out] at X
      have Z := hid (blk_size (enc F l) (stt_len F l HL.out 10))
      have SR := hid (R.row (l' := enc F l))
      have SB := hid (below_row B (g := gb + 1) (by have := Hgb.out; omega) (arr (enc F l)))
      have ho := hid (show (arr (zs 16)).size = (arr (enc F l)).size by rw [arr_size, arr_size, zs_len]; exact (stt_len F l HL.out 10).symm)
      have XH := hid X
      have CH := hid C
      have RH := hid R
      have BH := hid B
      clear X C R B
      go_wp2_with (first | refine wpList_load_row rfl 63 _ rfl gb rfl 63 (arr (enc F l)) _ _ XH.out Try.underlying63 rfl Z.out ?_ | refine wpList_store_row rfl 63 _ _ rfl (gb + 1) (arr (enc F l)) rfl rfl 63 _ RH.out Z.out ho.out (arr_one _) ?_)
      exact bodyPost_ret (v := .agg (arr (enc F l))) (results_cell_row rfl _ _ (gb + 1) 63 _ _ _ rfl SR.out Try.underlying63 rfl Z.out) rfl ⟨rfl, SB.out⟩
end Go.Proofs.Ytckgjghpfjinfai.W

namespace Go.Proofs.Ytckgjghpfjinfai.W
open Go.ChangeShapes Go.WideShapes Go.ChangeAt Go.RowKit
open Go.Proofs.Ytckgjghpfjinfai.M

set_option maxHeartbeats 1000000 in
set_option maxRecDepth 100000 in
theorem counted (l : List Nat) (w : World) (hl : l.length = 16) (y : Byt l) :
    Calls Try.prog 42 #[.agg (arr l)] w fun e w' => e = .returned (.agg (arr (cu l))) ∧ Below w.heap.size w w' := by
  have HL := hid hl
  clear hl
  have A0 := Ar.new w 63 l
  have A1 := Ar.new (w.alloc (.cells (arr l) 63)) 63 (zs 16)
  simp only [World.size_alloc] at A1
  have H0 := hid (A0.alloc (.cells (arr (zs 16)) 63))
  have H1 := hid A1
  have HB := hid (below_alloc2 w (.cells (arr l) 63) (.cells (arr (zs 16)) 63))
  have Z := hid (blk_size (cu l) (cu_len l HL.out))
  clear A0 A1
  go_enter Try.func42, Try.ntmps42
  go_wp2_with fail
  go_loopw [3] (fun i3 ws => ∃ n : Nat, n ≤ 4 ∧ i3 = .int .i64 (15 - (n : Int)) ∧ Hid (∀ j, j < n → gt l (15 - j) = 255) ∧ Hid (Ar ws w.heap.size 63 (zd l n)) ∧ Hid (Ar ws (w.heap.size + 1) 63 (zs 16)) ∧ Hid (Below w.heap.size w ws)) (fun i3 _ => (intOf i3).toNat)
  case atStart => exact ⟨0, by omega, rfl, hid (fun j h => by omega), hid (by rw [zd_zero l HL.out]; exact H0.out), H1, HB⟩
  case round =>
    clear H0 H1 HB
    obtain ⟨n, hn, rfl, HF, H0, H1, HB⟩ := hrel
    by_cases hlt : n < 4
    · obtain ⟨t, ht⟩ : ∃ t : Nat, t + n = 15 := ⟨15 - n, by omega⟩
      have et : 15 - n = t := by omega
      rw [show 15 - (n : Int) = (t : Int) by omega]
      have c0 := H0.out.cell t (by rw [zd_len l HL.out n (by omega)]; omega)
      have f0 := H0.out.open t
      have ZG := zd_gt l HL.out n (by omega)
      rw [et] at ZG
      rw [ZG] at c0
      have b0 := gt_byt l y t
      have t0 : (0 : Int) ≤ (t : Int) := by omega
      have t1 : (t : Int) < 16 := by omega
      have t2 : (12 : Int) ≤ (t : Int) := by omega
      by_cases h255 : gt l t = 255
      · have S := H0.out.stored t 0
        have ZS := zd_set l HL.out n hlt
        rw [et] at ZS
        rw [ZS] at S
        have SB := HB.out.setCell (p := ⟨w.heap.size, t, none⟩) (Nat.le_refl _) (.int .u8 ((0 : Nat) : Int))
        have SR := H1.out.far (g' := w.heap.size) (k := t) (.int .u8 ((0 : Nat) : Int)) (by omega)
        have HN := hid (show ∀ j, j < n + 1 → gt l (15 - j) = 255 from fun j hj => by
          by_cases e : j = n
          · subst e; rw [et]; exact h255
          · exact HF.out j (by omega))
        rw [h255] at c0
        rw [show ((0 : Nat) : Int) = 0 from rfl] at S SB SR
        replace S := hid S
        replace SB := hid SB
        replace SR := hid SR
        clear ZG ZS
        go_wp2_with fail
        exact ⟨⟨n + 1, by omega, by congr 1; omega, HN, S, SR, SB⟩, by simp [intOf]; omega⟩
      · have CS := cu_stop l HL.out y n hlt HF.out (by rw [et]; exact h255)
        rw [et] at CS
        have S := H0.out.stored t (gt l t + 1)
        rw [CS] at S
        have SB := HB.out.setCell (p := ⟨w.heap.size, t, none⟩) (Nat.le_refl _) (.int .u8 ((gt l t + 1 : Nat) : Int))
        have SR := H1.out.far (g' := w.heap.size) (k := t) (.int .u8 ((gt l t + 1 : Nat) : Int)) (by omega)
        clear ZG CS HF
        generalize gt l t = x at *
        have x1 : x < 255 := by omega
        have wx : IntKind.u8.wrap ((x : Int) + 1) = (x : Int) + 1 := by rw [IntKind.wrap_u8']; omega
        have nz : ((x : Int) + 1 != 0) = true := by rw [bne_iff_ne]; omega
        rw [show ((x + 1 : Nat) : Int) = (x : Int) + 1 by omega] at S SB SR
        replace S := hid S
        replace SB := hid SB
        replace SR := hid SR
        go_wp2_with (first | refine wpList_load_row rfl 63 _ rfl w.heap.size rfl 63 (arr (cu l)) _ _ S.out Try.underlying63 rfl Z.out ?_ | refine wpList_store_row rfl 63 _ _ rfl (w.heap.size + 1) (arr (cu l)) rfl rfl 63 _ SR.out Z.out (by rw [arr_size, arr_size, cu_len l HL.out]; rfl) (arr_one _) ?_)
        exact bodyPost_ret (v := .agg (arr (cu l))) (results_cell_row rfl _ _ (w.heap.size + 1) 63 _ _ _ rfl (SR.out.row (l' := cu l)) Try.underlying63 rfl Z.out) rfl ⟨rfl, below_row SB.out (by omega) _⟩
    · have hn4 : n = 4 := by omega
      subst hn4
      have CA := cu_all l HL.out HF.out
      rw [CA] at H0
      go_wp2_with (first | refine wpList_load_row rfl 63 _ rfl w.heap.size rfl 63 (arr (cu l)) _ _ H0.out Try.underlying63 rfl Z.out ?_ | refine wpList_store_row rfl 63 _ _ rfl (w.heap.size + 1) (arr (cu l)) rfl rfl 63 _ H1.out Z.out (by rw [arr_size, arr_size, cu_len l HL.out]; rfl) (arr_one _) ?_)
      exact bodyPost_ret (v := .agg (arr (cu l))) (results_cell_row rfl _ _ (w.heap.size + 1) 63 _ _ _ rfl (H1.out.row (l' := cu l)) Try.underlying63 rfl Z.out) rfl ⟨rfl, below_row HB.out (by omega) _⟩
end Go.Proofs.Ytckgjghpfjinfai.W

namespace Go.Proofs.Ytckgjghpfjinfai.M
open Go.RowKit

def mki (F : Nat → Nat) (b : List Nat) (i : Nat) : List Nat := if i = 0 then zs 16 else enc F (cuN b ((i - 1) / 16))
theorem mki_succ (F : Nat → Nat) (b : List Nat) (i : Nat) : mki F b (i + 1) = enc F (cuN b (i / 16)) := by rw [mki, if_neg (by omega), Nat.add_sub_cancel]
theorem mki_same (F : Nat → Nat) (b : List Nat) (i : Nat) (h : ¬ i % 16 = 0) : mki F b i = mki F b (i + 1) := by rw [mki_succ, mki, if_neg (by omega), show (i - 1) / 16 = i / 16 by omega]
theorem mki_len (F : Nat → Nat) (b : List Nat) (hb : b.length = 16) (i : Nat) : (mki F b i).length = 16 := by
  unfold mki
  split
  · exact zs_len 16
  · exact stt_len F _ (cuN_len b hb _) 10
def cti (b : List Nat) (i : Nat) : List Nat := cuN b ((i + 15) / 16)
theorem cti_zero (b : List Nat) : cti b 0 = b := rfl
theorem cti_new (b : List Nat) (i : Nat) (h : i % 16 = 0) : cti b i = cuN b (i / 16) ∧ cu (cti b i) = cti b (i + 1) := by
  have e1 : (i + 15) / 16 = i / 16 := by omega
  have e2 : (i + 1 + 15) / 16 = i / 16 + 1 := by omega
  refine ⟨by rw [cti, e1], ?_⟩
  rw [cti, cti, e1, e2]
  rfl
theorem cti_same (b : List Nat) (i : Nat) (h : ¬ i % 16 = 0) : cti b i = cti b (i + 1) := by rw [cti, cti, show (i + 1 + 15) / 16 = (i + 15) / 16 by omega]
theorem cti_len (b : List Nat) (hb : b.length = 16) (i : Nat) : (cti b i).length = 16 := cuN_len b hb _
theorem cti_byt (b : List Nat) (y : Byt b) (i : Nat) : Byt (cti b i) := cuN_byt b y _
theorem strm_next (F : Nat → Nat) (b d : List Nat) (i : Nat) (hi : i < d.length) : gt (strm F b d) i = gt d i ^^^ gt (mki F b (i + 1)) (i % 16) := by
  rw [strm_gt _ _ _ _ hi, mki_succ]
  rfl
end Go.Proofs.Ytckgjghpfjinfai.M

namespace Go.Proofs.Ytckgjghpfjinfai.W
open Go.ChangeShapes Go.WideShapes Go.ChangeAt Go.RowKit
open Go.Proofs.Ytckgjghpfjinfai.M

theorem own_madeAt (w0 : World) (base g n : Nat) (h : w0.ownsRow base 5 1 (.slice (some ⟨g, 0, none⟩) n n) n (madeCells (Value.int .u8 0).cells (n * 1)).toList) :
    Own w0 base (.slice (some ⟨g, 0, none⟩) n n) (List.replicate n 0) := by
  have e : (madeCells (Value.int .u8 0).cells (n * 1)).toList = (List.replicate n 0).map bv := by
    rw [List.map_replicate, Nat.mul_one]; exact toList_madeCells_one _ _
  rw [e] at h
  unfold Own
  rw [List.length_replicate]
  exact h
theorem own_rowOff {w : World} {base g g' cap n : Nat} {l : List Nat} (h : Own w base (.slice (some ⟨g, 0, none⟩) n cap) l) (cs : Array Value) (hne : g ≠ g') : Own (w.setRow g' cs) base (.slice (some ⟨g, 0, none⟩) n cap) l := by
  refine ⟨h.1, ?_⟩
  rcases h.2 with hn | ⟨h1, cap', cur, e, hbb, hgg, rest⟩
  · exact .inl hn
  · cases e
    exact .inr ⟨g, _, cur, rfl, hbb, by rw [setRow_other w g' g cs hne]; exact hgg, rest⟩
theorem ar_old {w w' : World} {B g : Nat} {T : TypeId} {l : List Nat} (h : Ar w g T l) (hb : Below B w w') (hg : g < B) : Ar w' g T l := h.keep hb hg
set_option maxHeartbeats 2000000 in
set_option maxRecDepth 100000 in
theorem istream (gc : Nat) (b : List Nat) (vd : Value) (d : List Nat) (F : Nat → Nat) (w : World) (hC : Ar w gc 110 (cph F 176)) (hF : ∀ j, F j < 256) (hb : b.length = 16) (yb : Byt b) (hd : Rd w vd d) (yd : Byt d) (nd : d.length ≤ 1048576) :
    Calls Try.prog 50 #[.pointer (some ⟨gc, 0, none⟩), .agg (arr b), vd] w fun e w' => e = .returned (.slice (some ⟨w.heap.size + 1, 0, none⟩) d.length d.length) ∧ Own w' w.heap.size (.slice (some ⟨w.heap.size + 1, 0, none⟩) d.length d.length) (strm F b d) ∧ Below w.heap.size w w' := by
  obtain ⟨i0, hi, hz0, hz1, hz2⟩ := info_parts info8
  obtain ⟨pd, capd, rfl, -, -, hcd⟩ := hd.parts
  have HC := hid hC
  have HG := hid hC.lt
  have HF := hid hF
  have NB := hid hb
  have HCD := hid hcd
  have A0 := Ar.new w 63 b
  have B0 := below_alloc1 w (.cells (arr b) 63)
  clear hC hF hb hcd hd
  go_enter Try.func50, Try.ntmps50
  go_wp2_with (at_make; refine wpList_make_full _ rfl _ _ 22 rfl w.heap.size 5 i0 (.int .u8 0) 1 Try.underlying22 hi hz0 hz1 .i64 .i64 _ _ d.length rfl rfl rfl rfl (by rw [hz2]; omega) (by unfold maxLen; omega) (by simp) ?_; intro w0 hown0 hgrow0)
  rw [World.size_alloc] at hown0
  have O0 := own_madeAt w0 w.heap.size (w.heap.size + 1) d.length hown0
  have go1 := World.ownsRow.lt hown0 (w.heap.size + 1) rfl
  have HO := hid (O0.below (below_alloc1 w0 (.cells (arr (zs 16)) 63)))
  have HN := hid (Ar.alloc (show Ar w0 w.heap.size 63 b from var_grown hgrow0 A0 (by simp)) (.cells (arr (zs 16)) 63))
  have HM := hid (Ar.new w0 63 (zs 16))
  have HB := hid ((B0.grown hgrow0 (by simp) (fun k e => by cases e)).alloc (by omega) (.cells (arr (zs 16)) 63))
  have HZ := hid go1.2
  clear hown0 hgrow0 O0 A0 B0 go1 hi hz0 hz1 hz2
  generalize w0.heap.size = gm at *
  have SL := hid (strm_len F b d)
  go_loopw [9, 10, 16] (fun a9 a10 a16 ws => ∃ i : Nat, ∃ u v : Value, i ≤ d.length ∧ a9 = u ∧ a10 = v ∧ a16 = .int .i64 (i : Nat) ∧ Hid (Own ws w.heap.size (.slice (some ⟨w.heap.size + 1, 0, none⟩) d.length d.length) (front (strm F b d) i)) ∧ Hid (Ar ws w.heap.size 63 (cti b i)) ∧ Hid (Ar ws gm 63 (mki F b i)) ∧ Hid (Below w.heap.size w ws)) (fun _ _ a16 _ => d.length - (intOf a16).toNat)
  case atStart => exact ⟨0, _, _, by omega, rfl, rfl, rfl, hid (by rw [front_zero, SL.out]; exact HO.out), HN, HM, HB⟩
  case round =>
    clear HO HN HM HB
    obtain ⟨i, u, v, hi, rfl, rfl, rfl, HO, HN, HM, HB⟩ := hrel
    by_cases hlt : i < d.length
    · obtain ⟨bd, od, rfl, cd⟩ := HCD.out i hlt
      replace cd := cell_kept HB.out cd
      unfold bv at cd
      rw [← gt_eq d i hlt] at cd
      have i0 : (0 : Int) ≤ (i : Int) := by omega
      have i1 : (i : Int) < (d.length : Int) := by omega
      have hx := gt_byt d yd i
      have ML := hid (mki_len F b NB.out (i + 1))
      have MY := hid (show Byt (mki F b (i + 1)) by rw [mki_succ]; exact stt_byt F HF.out _ (cuN_byt b yb _) 10)
      have SN := hid (strm_next F b d i hlt)
      have FS := hid (front_set (strm F b d) i (by rw [SL.out]; exact hlt))
      have FL := hid (front_len (strm F b d) i (by rw [SL.out]; omega))
      have GE := hid (gt_eq (strm F b d) i (by rw [SL.out]; exact hlt))
      have CL := hid (cti_len b NB.out i)
      have CL2 := hid (cti_len b NB.out (i + 1))
      have CY := hid (cti_byt b yb i)
      have ML0 := hid (mki_len F b NB.out i)
      by_cases h16 : i % 16 = 0
      · obtain ⟨CT1, CT2⟩ := cti_new b i h16
        replace CT1 := hid CT1
        replace CT2 := hid CT2
        have MS := hid (mki_succ F b i)
        have c16 : ((i : Int) % 16 == 0) = true := by rw [beq_iff_eq]; omega
        replace h16 := hid h16
        have HCr := hid (HC.out.keep HB.out HG.out)
        have ZC := hid (blk_size (cti b i) CL.out)
        have ZM := hid (blk_size (mki F b (i + 1)) ML.out)
        have ZN := hid (blk_size (cti b (i + 1)) CL2.out)
        go_wp2_with (refine wpList_load_row rfl 63 _ rfl (w.heap.size) rfl 63 (arr (cti b i)) _ _ HN.out Try.underlying63 rfl ZC.out ?_)
        refine (encr (cti b i) F gc _ CL.out CY.out HF.out HCr.out).mono ?_
        rintro e w1 ⟨rfl, hB1⟩
        rw [CT1.out, ← MS.out]
        have K1 := hid (HM.out.below hB1)
        have N1 := hid ((HN.out.below hB1).rowFar (g' := gm) (arr (mki F b (i + 1))) (by have := HZ.out; omega))
        have M1 := hid (K1.out.row (l' := mki F b (i + 1)))
        have O1 := hid (own_rowOff (HO.out.below hB1) (g' := gm) (arr (mki F b (i + 1))) (by have := HZ.out; omega))
        have B1 := hid (below_row (HB.out.trans (hB1.mono HB.out.size)) (g := gm) (by have := HZ.out; omega) (arr (mki F b (i + 1))))
        clear HO HN HM HB hB1
        go_wp2_with (first | refine wpList_store_row rfl 63 _ _ rfl (gm) (arr (mki F b (i + 1))) rfl rfl 63 _ K1.out ZM.out (by rw [arr_size, arr_size, ML0.out, ML.out]) (arr_one _) ?_ | refine wpList_load_row rfl 63 _ rfl (w.heap.size) rfl 63 (arr (cti b i)) _ _ N1.out Try.underlying63 rfl ZC.out ?_)
        refine (counted (cti b i) _ CL.out CY.out).mono ?_
        rintro e w2 ⟨rfl, hB2⟩
        rw [CT2.out]
        have K2 := hid (N1.out.below hB2)
        have N2 := hid (K2.out.row (l' := cti b (i + 1)))
        have M2 := hid ((M1.out.below hB2).rowFar (g' := w.heap.size) (arr (cti b (i + 1))) (by have := HZ.out; omega))
        have O2 := hid (own_rowOff (O1.out.below hB2) (g' := w.heap.size) (arr (cti b (i + 1))) (by omega))
        have B2 := hid (below_row (B1.out.trans (hB2.mono B1.out.size)) (g := w.heap.size) (Nat.le_refl _) (arr (cti b (i + 1))))
        clear N1 M1 O1 B1 hB2 K1
        have xm := M2.out.cell (i % 16) (by rw [ML.out]; omega)
        have ym := gt_byt _ MY.out (i % 16)
        have co : ∃ u, (w2.setRow w.heap.size (arr (cti b (i + 1)))).cell? ⟨w.heap.size + 1, i, none⟩ = some u := ⟨_, O2.out.cell (FL.out.trans SL.out) i (by rw [FL.out, SL.out]; exact hlt)⟩
        obtain ⟨u0, co⟩ := co
        have fo := O2.out.open (FL.out.trans SL.out) i
        have SO := O2.out.stored (FL.out.trans SL.out) i (gt (strm F b d) i)
        rw [GE.out, FS.out, ← GE.out, SN.out] at SO
        have E := xor8' _ _ hx ym
        have SB := B2.out.setCell (p := ⟨w.heap.size + 1, i, none⟩) (by show w.heap.size ≤ w.heap.size + 1; omega) (bv (gt d i ^^^ gt (mki F b (i + 1)) (i % 16)))
        have SNN := N2.out.far (g' := w.heap.size + 1) (k := i) (bv (gt d i ^^^ gt (mki F b (i + 1)) (i % 16))) (by omega)
        have SM := M2.out.far (g' := w.heap.size + 1) (k := i) (bv (gt d i ^^^ gt (mki F b (i + 1)) (i % 16))) (by have := HZ.out; omega)
        replace SO := SO.1
        unfold bv at SO SB SNN SM
        generalize gt d i ^^^ gt (mki F b (i + 1)) (i % 16) = z at *
        generalize gt (mki F b (i + 1)) (i % 16) = m1 at *
        generalize gt d i = x1 at *
        replace SO := hid SO
        replace SB := hid SB
        replace SNN := hid SNN
        replace SM := hid SM
        have r0 : (0 : Int) ≤ (i : Int) % 16 := by omega
        have r1 : (i : Int) % 16 < 16 := by omega
        clear O2 N2 M2 B2
        go_wp2_with (refine wpList_store_row rfl 63 _ _ rfl (w.heap.size) (arr (cti b (i + 1))) rfl rfl 63 _ K2.out ZN.out (by rw [arr_size, arr_size, CL.out, CL2.out]) (arr_one _) ?_; generalize w2.setRow w.heap.size (arr (cti b (i + 1))) = W2 at *)
        exact ⟨⟨i + 1, _, _, by omega, rfl, rfl, num_succ i, SO, SNN, SM, SB⟩, by simp [intOf]; omega⟩
      · have c16 : ((i : Int) % 16 == 0) = false := by rw [beq_eq_false_iff_ne]; omega
        rw [mki_same F b i h16] at HM
        rw [cti_same b i h16] at HN
        have xm := HM.out.cell (i % 16) (by rw [ML.out]; omega)
        have ym := gt_byt _ MY.out (i % 16)
        have co : ∃ u, wr.cell? ⟨w.heap.size + 1, i, none⟩ = some u := ⟨_, HO.out.cell (FL.out.trans SL.out) i (by rw [FL.out, SL.out]; exact hlt)⟩
        obtain ⟨u0, co⟩ := co
        have fo := HO.out.open (FL.out.trans SL.out) i
        have SO := HO.out.stored (FL.out.trans SL.out) i (gt (strm F b d) i)
        rw [GE.out, FS.out, ← GE.out, SN.out] at SO
        have E := xor8' _ _ hx ym
        have SB := HB.out.setCell (p := ⟨w.heap.size + 1, i, none⟩) (by show w.heap.size ≤ w.heap.size + 1; omega) (bv (gt d i ^^^ gt (mki F b (i + 1)) (i % 16)))
        have SNN := HN.out.far (g' := w.heap.size + 1) (k := i) (bv (gt d i ^^^ gt (mki F b (i + 1)) (i % 16))) (by omega)
        have SM := HM.out.far (g' := w.heap.size + 1) (k := i) (bv (gt d i ^^^ gt (mki F b (i + 1)) (i % 16))) (by have := HZ.out; omega)
        replace SO := SO.1
        unfold bv at SO SB SNN SM
        generalize gt d i ^^^ gt (mki F b (i + 1)) (i % 16) = z at *
        generalize gt (mki F b (i + 1)) (i % 16) = m1 at *
        generalize gt d i = x1 at *
        replace SO := hid SO
        replace SB := hid SB
        replace SNN := hid SNN
        replace SM := hid SM
        have r0 : (0 : Int) ≤ (i : Int) % 16 := by omega
        have r1 : (i : Int) % 16 < 16 := by omega
        clear HO HN HM HB
        go_wp2
        exact ⟨⟨i + 1, _, _, by omega, rfl, rfl, num_succ i, SO, SNN, SM, SB⟩, by simp [intOf]; omega⟩
    · have hk8 : i = d.length := by omega
      subst hk8
      have i1 : ¬ ((d.length : Nat) : Int) < (d.length : Int) := by omega
      have FE := front_end (strm F b d)
      rw [SL.out] at FE
      rw [FE] at HO
      go_wp2
      go_ret
      exact ⟨rfl, HO.out, HB.out⟩
end Go.Proofs.Ytckgjghpfjinfai.W

namespace Go.Proofs.Ytckgjghpfjinfai.W
open Go.ChangeShapes Go.WideShapes Go.ChangeAt Go.RowKit
open Go.Proofs.Ytckgjghpfjinfai.M

theorem below_alloc3 (w : World) (a b c : Obj) : Below w.heap.size w (((w.alloc a).alloc b).alloc c) := (below_alloc2 w a b).alloc (by simp; omega) _
/-- A group element's cells, and it as a value. -/
def ec (p : Nat × Nat) : Array Value := #[.int .u64 (p.1 : Int), .int .u64 (p.2 : Int)]
def ev (p : Nat × Nat) : Value := .agg (ec p)
theorem ec_size (p : Nat × Nat) : (Try.prog.info? 77).map (·.size) = some (ec p).size := by
  rw [show (ec p).size = 2 from rfl]; kernel_rfl
theorem ec_one (p : Nat × Nat) : (ec p).all (·.oneCell') = true := by
  rw [Array.all_eq_true_iff_forall_mem]
  intro v hv
  simp only [ec, List.mem_toArray, List.mem_cons, List.not_mem_nil, or_false] at hv
  rcases hv with rfl | rfl <;> rfl
/-- The block g is a group element. -/
def El (w : World) (g : Nat) (p : Nat × Nat) : Prop := w.heap[g]? = some (.cells (ec p) 77)
theorem El.below {w w' : World} {g : Nat} {p : Nat × Nat} (h : El w g p) (hb : Below w.heap.size w w') : El w' g p := var_below hb h
theorem El.row {w : World} {g : Nat} {p q : Nat × Nat} (h : El w g p) : El (w.setRow g (ec q)) g q := setRow_heap w g _ _ _ _ h
theorem El.far {w : World} {g g' : Nat} {p : Nat × Nat} (h : El w g p) (cs : Array Value) (hne : g ≠ g') : El (w.setRow g' cs) g p := by
  unfold El
  rw [setRow_other w g' g cs hne]
  exact h
theorem El.drew {w : World} {g : Nat} {p : Nat × Nat} (h : El w g p) : El w.drew g p := h

end Go.Proofs.Ytckgjghpfjinfai.W

namespace Go.Proofs.Ytckgjghpfjinfai.W
open Go.ChangeShapes Go.WideShapes Go.ChangeAt Go.RowKit
open Go.Proofs.Ytckgjghpfjinfai.M

theorem El.cell0 {w : World} {g : Nat} {p : Nat × Nat} (h : El w g p) : w.cell? ⟨g, 0, none⟩ = some (.int .u64 (p.1 : Int)) ∧ w.frozen? ⟨g, 0, none⟩ = false := ⟨by rw [cell_of_row w g 0 _ _ _ h]; rfl, frozen_of_row w g 0 _ _ h⟩
theorem El.cell1 {w : World} {g : Nat} {p : Nat × Nat} (h : El w g p) : w.cell? ⟨g, 1, none⟩ = some (.int .u64 (p.2 : Int)) ∧ w.frozen? ⟨g, 1, none⟩ = false := ⟨by rw [cell_of_row w g 1 _ _ _ h]; rfl, frozen_of_row w g 1 _ _ h⟩
theorem El.set0 {w : World} {g : Nat} {p : Nat × Nat} (h : El w g p) (x : Nat) : El (w.setCell ⟨g, 0, none⟩ (.int .u64 (x : Int))) g (x, p.2) := by
  have h1 := heap_setCell_same w g 0 _ _ (.int .u64 (x : Int)) h
  exact h1
theorem El.set1 {w : World} {g : Nat} {p : Nat × Nat} (h : El w g p) (x : Nat) : El (w.setCell ⟨g, 1, none⟩ (.int .u64 (x : Int))) g (p.1, x) := by
  have h1 := heap_setCell_same w g 1 _ _ (.int .u64 (x : Int)) h
  exact h1
theorem El.cfar {w : World} {g g' k : Nat} {p : Nat × Nat} (h : El w g p) (v : Value) (hne : g ≠ g') : El (w.setCell ⟨g', k, none⟩ v) g p := by
  unfold El
  rw [heap_setCell_other w ⟨g', k, none⟩ g v hne]
  exact h

theorem joinb (a x : Nat) (ha : a < 72057594037927936) (hx : x < 256) : bits .or .u64 (IntKind.u64.wrap ((a : Int) * 256)) (IntKind.u64.wrap (x : Int)) = ((a * 256 + x : Nat) : Int) := by
  rw [IntKind.wrap_u64, IntKind.wrap_u64, show ((a : Int) * 256) % 18446744073709551616 = ((a * 256 : Nat) : Int) by omega, show (x : Int) % 18446744073709551616 = (x : Int) by omega, u64_or_nat _ _ (by omega) (by omega), nat_join 8 (a * 256) x (by omega) hx]
set_option maxHeartbeats 1000000 in
set_option maxRecDepth 100000 in
theorem elemof (l : List Nat) (w : World) (hl : l.length = 16) (y : Byt l) :
    Calls Try.prog 82 #[.agg (arr l)] w fun e w' => e = .returned (.agg (ec (elt l))) ∧ Below w.heap.size w w' := by
  have HL := hid hl
  clear hl
  have A0 := (Ar.new w 63 l)
  have V1 := heap_alloc_new (w.alloc (.cells (arr l) 63)) (.cells (ec g0) 77)
  have V2 := heap_alloc_new ((w.alloc (.cells (arr l) 63)).alloc (.cells (ec g0) 77)) (.cells (ec g0) 77)
  simp only [World.size_alloc] at V1 V2
  have HA := hid ((A0.alloc (.cells (ec g0) 77)).alloc (.cells (ec g0) 77))
  have H1 := hid (show El _ _ _ from var_alloc (.cells (ec g0) 77) V1)
  have H2 := hid (show El _ _ _ from V2)
  have HB := hid (below_alloc3 w (.cells (arr l) 63) (.cells (ec g0) 77) (.cells (ec g0) 77))
  clear A0 V1 V2
  go_enter Try.func82, Try.ntmps82
  go_wp2_with fail
  go_loopw [4, 5] (fun i4 i5 ws => ∃ n : Nat, ∃ u : Value, n ≤ 8 ∧ i4 = u ∧ i5 = .int .i64 (n : Nat) ∧ Hid (Ar ws w.heap.size 63 l) ∧ Hid (El ws (w.heap.size + 1) g0) ∧ Hid (El ws (w.heap.size + 1 + 1) (hfN l 0 n, hfN l 8 n)) ∧ Hid (Below w.heap.size w ws)) (fun _ i5 _ => 8 - (intOf i5).toNat)
  case atStart => exact ⟨0, _, by omega, rfl, rfl, HA, H1, H2, HB⟩
  case round =>
    clear HA H1 H2 HB
    obtain ⟨n, u, hn, rfl, rfl, HA, H1, H2, HB⟩ := hrel
    by_cases hlt : n < 8
    · have c0 := H2.out.cell0
      have c1 := H2.out.cell1
      have d0 := HA.out.cell n (by rw [HL.out]; omega)
      have d1 := HA.out.cell (8 + n) (by rw [HL.out]; omega)
      obtain ⟨c0, f0⟩ := c0
      obtain ⟨c1, f1⟩ := c1
      simp only at c0 c1
      have n0 : (0 : Int) ≤ (n : Int) := by omega
      have n8 : (n : Int) < 8 := by omega
      have n16 : (n : Int) < 16 := by omega
      have b0 := gt_byt l y n
      have b1 := gt_byt l y (8 + n)
      have s0 := hf_small l y 0 n hlt
      have s1 := hf_small l y 8 n hlt
      have N0 := hid (show hfN l 0 (n + 1) = hfN l 0 n * 256 + gt l n by rw [hfN, Nat.zero_add])
      have N1 := hid (show hfN l 8 (n + 1) = hfN l 8 n * 256 + gt l (8 + n) from rfl)
      generalize hfN l 0 n = a at *
      generalize hfN l 8 n = b at *
      generalize gt l n = x at *
      have GZ := hid (rfl : gt l (8 + n) = gt l (8 + n))
      generalize hz : gt l (8 + n) = z at d1 b1 N1
      replace GZ := hid hz
      clear hz
      have e0 := joinb a x s0 b0
      have e1 := joinb b z s1 b1
      rw [← N0.out] at e0
      rw [← N1.out] at e1
      clear N0 N1
      have M0 := hid (rfl : hfN l 0 (n + 1) = hfN l 0 (n + 1))
      have M1 := hid (rfl : hfN l 8 (n + 1) = hfN l 8 (n + 1))
      generalize hm0 : hfN l 0 (n + 1) = m0 at e0
      generalize hm1 : hfN l 8 (n + 1) = m1 at e1
      replace M0 := hid hm0
      replace M1 := hid hm1
      clear hm0 hm1
      go_wp2_with fail
      refine wp_region_still_tail 9 (by kernel_rfl) (by kernel_rfl) ?_
      change wpStill _ _ (World.drew _) (fun a' => wpList _ _ _ _ a' (World.drew _)) _ _
      simp only [List.take_succ_cons, List.take_zero, List.drop_succ_cons, List.drop_zero]
      repeat still_step
      refine wpStill_nil ?_
      have K2 := hid (H2.out.set0 m0)
      have K1 := hid (H1.out.cfar (g' := w.heap.size + 1 + 1) (k := 0) (.int .u64 (m0 : Int)) (by omega))
      have KA := hid (HA.out.far (g' := w.heap.size + 1 + 1) (k := 0) (.int .u64 (m0 : Int)) (by omega))
      have KB := hid (HB.out.setCell (p := ⟨w.heap.size + 1 + 1, 0, none⟩) (by show w.heap.size ≤ w.heap.size + 1 + 1; omega) (.int .u64 (m0 : Int)))
      go_wp2_with fail
      clear c0 c1 f0 f1 d0 d1
      generalize wr.setCell ⟨w.heap.size + 1 + 1, 0, none⟩ (.int .u64 (m0 : Int)) = W at *
      obtain ⟨c1, f1⟩ := K2.out.cell1
      have d1 := KA.out.cell (8 + n) (by rw [HL.out]; omega)
      rw [GZ.out, show 8 + n = (8 + (n : Int)).toNat by omega] at d1
      simp only at c1
      have wn : IntKind.i64.wrap (8 + (n : Int)) = ((8 + n : Nat) : Int) := by rw [IntKind.wrap_i64]; omega
      have k0 : (0 : Int) ≤ 8 + (n : Int) := by omega
      have k1 : 8 + (n : Int) < 16 := by omega
      refine wp_region_still_tail 10 (by kernel_rfl) (by kernel_rfl) ?_
      change wpStill _ _ (World.drew _) (fun a' => wpList _ _ _ _ a' (World.drew _)) _ _
      simp only [List.take_succ_cons, List.take_zero, List.drop_succ_cons, List.drop_zero]
      repeat still_step
      refine wpStill_nil ?_
      have L2 := hid (K2.out.set1 m1)
      have L1 := hid (K1.out.cfar (g' := w.heap.size + 1 + 1) (k := 1) (.int .u64 (m1 : Int)) (by omega))
      have LA := hid (KA.out.far (g' := w.heap.size + 1 + 1) (k := 1) (.int .u64 (m1 : Int)) (by omega))
      have LB := hid (KB.out.setCell (p := ⟨w.heap.size + 1 + 1, 1, none⟩) (by show w.heap.size ≤ w.heap.size + 1 + 1; omega) (.int .u64 (m1 : Int)))
      go_wp2
      exact ⟨⟨n + 1, _, by omega, rfl, num_succ n, hid LA.out.drew.drew, hid L1.out.drew.drew, hid (by rw [M0.out, M1.out]; exact L2.out.drew.drew), hid LB.out.drew.drew⟩, by simp [intOf]; omega⟩
    · have hn8 : n = 8 := by omega
      subst hn8
      go_wp2_with (first | refine wpList_load_row rfl 77 _ rfl (w.heap.size + 1 + 1) rfl 77 (ec (elt l)) _ _ H2.out Try.underlying77 rfl (ec_size _) ?_ | refine wpList_store_row rfl 77 _ _ rfl (w.heap.size + 1) (ec (elt l)) rfl rfl 77 _ H1.out (ec_size _) rfl (ec_one _) ?_)
      exact bodyPost_ret (v := .agg (ec (elt l))) (results_cell_row rfl _ _ (w.heap.size + 1) 77 _ _ _ rfl (H1.out.row (q := elt l)) Try.underlying77 rfl (ec_size _)) rfl ⟨rfl, below_row HB.out (by omega) _⟩
end Go.Proofs.Ytckgjghpfjinfai.W

namespace Go.Proofs.Ytckgjghpfjinfai.W
open Go.ChangeShapes Go.WideShapes Go.ChangeAt Go.RowKit
open Go.Proofs.Ytckgjghpfjinfai.M

/-- The answer of a function of a block. -/
def blkC (l : List Nat) : Int := if l.length = 16 then 0 else 2
def blkB (f : List Nat → List Nat) (l : List Nat) : List Nat := if l.length = 16 then f l else []
theorem blkB_len (f : List Nat → List Nat) (l : List Nat) (hf : ∀ l : List Nat, l.length = 16 → (f l).length = 16) : (blkB f l).length ≤ 16 := by
  unfold blkB
  split
  · rw [hf l ‹_›]; omega
  · simp
end Go.Proofs.Ytckgjghpfjinfai.W

namespace Go.Proofs.Ytckgjghpfjinfai.W
open Go.ChangeShapes Go.WideShapes Go.ChangeAt Go.RowKit
open Go.Proofs.Ytckgjghpfjinfai.M

theorem isblk (a : Option Addr) (n cap : Nat) (w : World) :
    Calls Try.prog 73 #[.slice a n cap] w fun e w' => e = .returned (.bool ((n : Int) == 16)) ∧ w' = w := by
  go_enter Try.func73, Try.ntmps73
  go_wp2
  go_ret
  exact ⟨rfl, rfl⟩
theorem isblk_yes (a : Option Addr) (cap : Nat) (w : World) :
    Calls Try.prog 73 #[.slice a 16 cap] w fun e w' => e = .returned (.bool true) ∧ w' = w := isblk a 16 cap w
theorem isblk_no (a : Option Addr) (n cap : Nat) (hn : n ≠ 16) (w : World) :
    Calls Try.prog 73 #[.slice a n cap] w fun e w' => e = .returned (.bool false) ∧ w' = w := by
  have h := isblk a n cap w
  rw [show ((n : Int) == 16) = false by simp; omega] at h
  exact h
end Go.Proofs.Ytckgjghpfjinfai.W

namespace Go.Proofs.Ytckgjghpfjinfai.W
open Go.ChangeShapes Go.WideShapes Go.ChangeAt Go.RowKit
open Go.Proofs.Ytckgjghpfjinfai.M

theorem pzero (w : World) : Calls Try.prog 123 #[] w fun e w' => e = .returned (.int .u64 9223372036854775808) ∧ w' = w := by
  go_enter Try.func123, Try.ntmps123
  go_wp2
  go_ret
  exact ⟨rfl, rfl⟩

theorem gplus (a b c d : Nat) (w : World) (ha : a < 18446744073709551616) (hb : b < 18446744073709551616) (hc : c < 18446744073709551616) (hd : d < 18446744073709551616) :
    Calls Try.prog 110 #[.agg #[.int .u64 (a : Int), .int .u64 (b : Int)], .agg #[.int .u64 (c : Int), .int .u64 (d : Int)]] w fun e w' => e = .returned (.agg #[.int .u64 ((a ^^^ c : Nat) : Int), .int .u64 ((b ^^^ d : Nat) : Int)]) ∧ Below w.heap.size w w' := by
  have e1 := u64_xor_nat a c ha hc
  have e2 := u64_xor_nat b d hb hd
  go_enter Try.func110, Try.ntmps110
  go_wp2
  exact bodyPost_ret (v := .agg #[.int .u64 ((a ^^^ c : Nat) : Int), .int .u64 ((b ^^^ d : Nat) : Int)]) (by simp [results, Try.results110, go_sem]) rfl ⟨rfl, below_alloc3 w _ _ _⟩
theorem and1 (a : Nat) (h : a < 18446744073709551616) : bits .and .u64 (a : Int) 1 = ((a % 2 : Nat) : Int) := by
  rw [show (1 : Int) = ((1 : Nat) : Int) from rfl, u64_and_nat _ _ h (by omega), nat_mask1]
theorem odd_yes (a : Nat) (h : a < 18446744073709551616) (h1 : a % 2 = 1) : (bits .and .u64 (a : Int) 1 == 1) = true := by rw [and1 a h, h1]; rfl
theorem odd_no (a : Nat) (h : a < 18446744073709551616) (h1 : ¬ a % 2 = 1) : (bits .and .u64 (a : Int) 1 == 1) = false := by rw [and1 a h, show a % 2 = 0 by omega]; rfl
theorem or_top (a : Nat) (h : a < 9223372036854775808) : bits .or .u64 (a : Int) 9223372036854775808 = ((a ^^^ 9223372036854775808 : Nat) : Int) := by
  rw [show (9223372036854775808 : Int) = ((9223372036854775808 : Nat) : Int) from rfl, u64_or_nat _ _ (by omega) (by omega)]
  congr 1
  apply Nat.eq_of_testBit_eq
  intro k
  rw [Nat.testBit_or, Nat.testBit_xor]
  by_cases hk : k = 63
  · subst hk
    rw [Nat.testBit_lt_two_pow (x := a) (i := 63) h]
    rfl
  · have e : (9223372036854775808 : Nat).testBit k = false := by
      have := Nat.testBit_two_pow (n := 63) (m := k)
      rw [show (9223372036854775808 : Nat) = 2 ^ 63 from rfl, this]
      simp; omega
    rw [e]
    simp

theorem gxV {p : Nat × Nat} {x y : Nat} (h1 : (gx p).1 = x) (h2 : (gx p).2 = y) : ev (gx p) = .agg #[.int .u64 (x : Int), .int .u64 (y : Int)] := by rw [ev, ec, h1, h2]
theorem n225 : ((16212958658533785600 : Nat) : Int) = 16212958658533785600 := rfl
theorem n0 : ((0 : Nat) : Int) = 0 := rfl
set_option maxRecDepth 100000 in
theorem grise (p : Nat × Nat) (w : World) (hp : G64 p) :
    Calls Try.prog 124 #[.agg #[.int .u64 (p.1 : Int), .int .u64 (p.2 : Int)], .agg #[.int .u64 16212958658533785600, .int .u64 0]] w fun e w' => e = .returned (ev (gx p)) ∧ Below w.heap.size w w' := by
  obtain ⟨a, b⟩ := p
  obtain ⟨ha, hb⟩ := hp
  simp only at ha hb
  have ea : ((a / 2 : Nat) : Int) = (a : Int) / 2 := by omega
  have eb : ((b / 2 : Nat) : Int) = (b : Int) / 2 := by omega
  by_cases h1 : a % 2 = 1
  · by_cases h2 : b % 2 = 1
    · have c1 := odd_yes a ha h1
      have c2 := odd_yes b hb h2
      have o1 := or_top (b / 2) (by omega)
      have o2 : b / 2 ^^^ 9223372036854775808 < 18446744073709551616 := xlt64 _ _ (by omega) (by omega)
      have q1 := u64_xor_nat (a / 2) 16212958658533785600 (by omega) (by decide)
      have q2 := u64_xor_nat (b / 2 ^^^ 9223372036854775808) 0 o2 (by decide)
      have E := hid (gxV (p := (a, b)) (x := a / 2 ^^^ 16212958658533785600) (y := (b / 2 ^^^ 9223372036854775808) ^^^ 0) (by simp [gx, h2]) (by simp [gx, h1]))
      rw [eb] at o1
      rw [ea] at q1
      simp only [n225, n0] at q1 q2
      clear ea eb
      go_enter Try.func124, Try.ntmps124
      go_wp2_with fail
      refine wp_region_still_tail 5 (by kernel_rfl) (by kernel_rfl) ?_
      change wpStill _ _ (World.drew _) (fun a' => wpList _ _ _ _ a' (World.drew _)) _ _
      simp only [List.take_succ_cons, List.take_zero, List.drop_succ_cons, List.drop_zero]
      still_step
      still_step
      still_call (pzero _)
      still_step
      still_step
      refine wpStill_nil ?_
      go_wp2
      refine bodyPost_ret (v := .agg #[.int .u64 (((a / 2 ^^^ 16212958658533785600 : Nat) : Int)), .int .u64 ((((b / 2 ^^^ 9223372036854775808) ^^^ 0 : Nat) : Int))]) (by simp [results, Try.results110, go_sem]) rfl ?_
      go_wp2
      exact bodyPost_ret (v := .agg #[.int .u64 (((a / 2 ^^^ 16212958658533785600 : Nat) : Int)), .int .u64 ((((b / 2 ^^^ 9223372036854775808) ^^^ 0 : Nat) : Int))]) (by simp [results, Try.results124, go_sem]) rfl ⟨by first | (rw [E.out]; done) | (rw [E.out]; rfl), by repeat (first | exact Below.refl _ _ | apply Below.drew | refine Below.alloc ?_ (by simp; try omega) _)⟩
    · have c1 := odd_yes a ha h1
      have c2 := odd_no b hb h2
      have o1 := or_top (b / 2) (by omega)
      have o2 : b / 2 ^^^ 9223372036854775808 < 18446744073709551616 := xlt64 _ _ (by omega) (by omega)
      have E := hid (gxV (p := (a, b)) (x := a / 2) (y := b / 2 ^^^ 9223372036854775808) (by simp [gx, h2]) (by simp [gx, h1]))
      rw [eb] at o1
      clear ea eb
      go_enter Try.func124, Try.ntmps124
      go_wp2_with fail
      refine wp_region_still_tail 5 (by kernel_rfl) (by kernel_rfl) ?_
      change wpStill _ _ (World.drew _) (fun a' => wpList _ _ _ _ a' (World.drew _)) _ _
      simp only [List.take_succ_cons, List.take_zero, List.drop_succ_cons, List.drop_zero]
      still_step
      still_step
      still_call (pzero _)
      still_step
      still_step
      refine wpStill_nil ?_
      go_wp2
      exact bodyPost_ret (v := .agg #[.int .u64 ((a : Int) / 2), .int .u64 (((b / 2 ^^^ 9223372036854775808 : Nat) : Int))]) (by simp [results, Try.results124, go_sem]) rfl ⟨by first | (rw [E.out]; done) | (rw [E.out]; rfl), by repeat (first | exact Below.refl _ _ | apply Below.drew | refine Below.alloc ?_ (by simp; try omega) _)⟩
  · by_cases h2 : b % 2 = 1
    · have c1 := odd_no a ha h1
      have c2 := odd_yes b hb h2
      have q1 := u64_xor_nat (a / 2) 16212958658533785600 (by omega) (by decide)
      have q2 := u64_xor_nat (b / 2) 0 (by omega) (by decide)
      have E := hid (gxV (p := (a, b)) (x := a / 2 ^^^ 16212958658533785600) (y := (b / 2) ^^^ 0) (by simp [gx, h2]) (by simp [gx, h1]))
      rw [ea] at q1
      rw [eb] at q2
      simp only [n225, n0] at q1 q2
      clear ea eb
      go_enter Try.func124, Try.ntmps124
      go_wp2
      refine bodyPost_ret (v := .agg #[.int .u64 (((a / 2 ^^^ 16212958658533785600 : Nat) : Int)), .int .u64 ((((b / 2) ^^^ 0 : Nat) : Int))]) (by simp [results, Try.results110, go_sem]) rfl ?_
      go_wp2
      exact bodyPost_ret (v := .agg #[.int .u64 (((a / 2 ^^^ 16212958658533785600 : Nat) : Int)), .int .u64 ((((b / 2) ^^^ 0 : Nat) : Int))]) (by simp [results, Try.results124, go_sem]) rfl ⟨by first | (rw [E.out]; done) | (rw [E.out]; rfl), by repeat (first | exact Below.refl _ _ | apply Below.drew | refine Below.alloc ?_ (by simp; try omega) _)⟩
    · have c1 := odd_no a ha h1
      have c2 := odd_no b hb h2
      have E := hid (gxV (p := (a, b)) (x := a / 2) (y := b / 2) (by simp [gx, h2]) (by simp [gx, h1]))
      clear ea eb
      go_enter Try.func124, Try.ntmps124
      go_wp2
      exact bodyPost_ret (v := .agg #[.int .u64 ((a : Int) / 2), .int .u64 ((b : Int) / 2)]) (by simp [results, Try.results124, go_sem]) rfl ⟨by first | (rw [E.out]; done) | (rw [E.out]; rfl), by repeat (first | exact Below.refl _ _ | apply Below.drew | refine Below.alloc ?_ (by simp; try omega) _)⟩
theorem gplusE (p q : Nat × Nat) (w : World) (hp : G64 p) (hq : G64 q) :
    Calls Try.prog 110 #[.agg (ec p), .agg (ec q)] w fun e w' => e = .returned (.agg (ec (ga p q))) ∧ Below w.heap.size w w' := gplus _ _ _ _ w hp.1 hp.2 hq.1 hq.2
theorem griseE (p : Nat × Nat) (w : World) (hp : G64 p) :
    Calls Try.prog 124 #[.agg (ec p), .agg (ec (16212958658533785600, 0))] w fun e w' => e = .returned (.agg (ec (gx p))) ∧ Below w.heap.size w w' := grise p w hp
end Go.Proofs.Ytckgjghpfjinfai.W

namespace Go.Proofs.Ytckgjghpfjinfai.W
open Go.ChangeShapes Go.WideShapes Go.ChangeAt Go.RowKit
open Go.Proofs.Ytckgjghpfjinfai.M

theorem idx_two (a b : Int) (n : Nat) (hn : n < 2) (w : World) :
    (Instr.index 157 (.agg #[.int .u64 a, .int .u64 b]) (.int .i64 (n : Int))).run Try.prog w = .ok (.int .u64 (if n = 0 then a else b)) w := by
  have hu : Try.prog.underlying 157 = some (.array 2 75) := Try.underlying157
  rcases (show n = 0 ∨ n = 1 by omega) with rfl | rfl
  · simp [Instr.index, run_underlying hu, asIntOf, part, go_sem]
  · simp [Instr.index, run_underlying hu, asIntOf, part, go_sem]
theorem half_of (q : Nat × Nat) (n : Nat) : (if n = 0 then (q.1 : Int) else (q.2 : Int)) = ((if n = 0 then q.1 else q.2 : Nat) : Int) := by split <;> rfl
theorem fb_half (q : Nat × Nat) (n j : Nat) (hn : n < 2) (hj : j < 64) : fb q (64 * n + j) = (if n = 0 then q.1 else q.2).testBit (63 - j) := by
  unfold fb
  rcases (show n = 0 ∨ n = 1 by omega) with rfl | rfl
  · rw [if_pos (by omega), if_pos rfl, show 63 - (64 * 0 + j) = 63 - j by omega]
  · rw [if_neg (by omega), if_neg (by omega), show 127 - (64 * 1 + j) = 63 - j by omega]
theorem pw_at (j : Nat) (hj : j < 64) : 9223372036854775808 / 2 ^ j = 2 ^ (63 - j) := by
  rw [show (9223372036854775808 : Nat) = 2 ^ 63 from rfl]
  exact Nat.pow_div (by omega) (by omega)
theorem pw_and (f j : Nat) (hf : f < 18446744073709551616) (hj : j < 64) : bits .and .u64 (f : Int) ((9223372036854775808 / 2 ^ j : Nat) : Int) = ((f / 2 ^ (63 - j) % 2 * 2 ^ (63 - j) : Nat) : Int) := by
  have h : 2 ^ (63 - j) < 2 ^ 64 := Nat.pow_lt_pow_right (by omega) (by omega)
  rw [pw_at j hj, u64_and_nat _ _ hf h, nat_bit]
theorem pw_yes (f j : Nat) (hf : f < 18446744073709551616) (hj : j < 64) (h : f.testBit (63 - j) = true) : (bits .and .u64 (f : Int) ((9223372036854775808 / 2 ^ j : Nat) : Int) != 0) = true := by
  have h2 := (tb_eq _ _).1 h
  have h3 : 0 < 2 ^ (63 - j) := Nat.pow_pos (by omega)
  rw [pw_and f j hf hj, h2, bne_iff_ne]
  omega
theorem pw_no (f j : Nat) (hf : f < 18446744073709551616) (hj : j < 64) (h : f.testBit (63 - j) = false) : (bits .and .u64 (f : Int) ((9223372036854775808 / 2 ^ j : Nat) : Int) != 0) = false := by
  have h2 : ¬ f / 2 ^ (63 - j) % 2 = 1 := fun e => by rw [(tb_eq _ _).2 e] at h; cases h
  rw [pw_and f j hf hj, show f / 2 ^ (63 - j) % 2 = 0 by omega]
  simp

/-- Five new variables. -/
theorem five (w : World) (a b c d e : Obj) : ((((((w.alloc a).alloc b).alloc c).alloc d).alloc e).heap[w.heap.size]? = some a) ∧ ((((((w.alloc a).alloc b).alloc c).alloc d).alloc e).heap[w.heap.size + 1 + 1]? = some c) ∧ ((((((w.alloc a).alloc b).alloc c).alloc d).alloc e).heap[w.heap.size + 1 + 1 + 1]? = some d) ∧ ((((((w.alloc a).alloc b).alloc c).alloc d).alloc e).heap[w.heap.size + 1 + 1 + 1 + 1]? = some e) ∧ Below w.heap.size w (((((w.alloc a).alloc b).alloc c).alloc d).alloc e) := by
  refine ⟨var_alloc _ (var_alloc _ (var_alloc _ (var_alloc _ (heap_alloc_new w a)))), ?_, ?_, ?_, by repeat (first | exact Below.refl _ _ | apply Below.drew | refine Below.alloc ?_ (by simp; try omega) _)⟩
  · have h := heap_alloc_new ((w.alloc a).alloc b) c
    simp only [World.size_alloc] at h
    exact var_alloc _ (var_alloc _ h)
  · have h := heap_alloc_new (((w.alloc a).alloc b).alloc c) d
    simp only [World.size_alloc] at h
    exact var_alloc _ h
  · have h := heap_alloc_new ((((w.alloc a).alloc b).alloc c).alloc d) e
    simp only [World.size_alloc] at h
    exact h

set_option maxHeartbeats 1000000 in
set_option maxRecDepth 100000 in
theorem gtimes (p q : Nat × Nat) (w : World) (hp : G64 p) (hq : G64 q) :
    Calls Try.prog 117 #[.agg (ec p), .agg (ec q), .agg (ec (16212958658533785600, 0))] w fun e w' => e = .returned (.agg (ec (gmul q p))) ∧ Below w.heap.size w w' := by
  have HP := hid hp
  have HQ := hid hq
  clear hp hq
  obtain ⟨V0, V2, V3, V4, B⟩ := five w (.cells (ec p) 77) (.cells (ec q) 77) (.cells (ec (16212958658533785600, 0)) 77) (.cells (ec g0) 77) (.cells (ec g0) 77)
  have H0 := hid (show El _ _ _ from V0)
  have H2 := hid (show El _ _ _ from V2)
  have H3 := hid (show El _ _ _ from V3)
  have H4 := hid (show El _ _ _ from V4)
  have HB := hid B
  clear V0 V2 V3 V4 B
  show Calls _ _ #[.agg #[.int .u64 (p.1 : Int), .int .u64 (p.2 : Int)], .agg #[.int .u64 (q.1 : Int), .int .u64 (q.2 : Int)], .agg #[.int .u64 16212958658533785600, .int .u64 0]] _ _
  go_enter Try.func117, Try.ntmps117
  go_wp2_with fail
  go_loopw [9, 10, 16] (fun f9 p10 i16 ws => ∃ n : Nat, ∃ u v : Value, n ≤ 2 ∧ f9 = u ∧ p10 = v ∧ i16 = .int .i64 (n : Nat) ∧ Hid (El ws w.heap.size (gxN p (64 * n))) ∧ Hid (El ws (w.heap.size + 1 + 1) (16212958658533785600, 0)) ∧ Hid (El ws (w.heap.size + 1 + 1 + 1) g0) ∧ Hid (El ws (w.heap.size + 1 + 1 + 1 + 1) (gs (fb q) p (64 * n))) ∧ Hid (Below w.heap.size w ws)) (fun _ _ i16 _ => 2 - (intOf i16).toNat)
  case atStart => exact ⟨0, _, _, by omega, rfl, rfl, rfl, H0, H2, H3, H4, HB⟩
  case round =>
    clear H0 H2 H3 H4 HB
    obtain ⟨n, u, v, hn, rfl, rfl, rfl, H0, H2, H3, H4, HB⟩ := hrel
    by_cases hlt : n < 2
    · have hix := idx_two (q.1 : Int) (q.2 : Int) n hlt
      rw [half_of] at hix
      have HF := hid (fun j (hj : j < 64) => fb_half q n j hlt hj)
      have F64 := hid (show (if n = 0 then q.1 else q.2) < 18446744073709551616 by have h1 := HQ.out.1; have h2 := HQ.out.2; split <;> assumption)
      have n0 : (0 : Int) ≤ (n : Int) := by omega
      have n2 : (n : Int) < 2 := by omega
      generalize (if n = 0 then q.1 else q.2 : Nat) = f at *
      go_wp2_with (go_at_call 123; refine (pzero _).mono ?_; rintro e w' ⟨rfl, rfl⟩)
      go_loopw [10] (fun p10 wt => ∃ j : Nat, j ≤ 64 ∧ p10 = .int .u64 ((9223372036854775808 / 2 ^ j : Nat) : Int) ∧ Hid (El wt w.heap.size (gxN p (64 * n + j))) ∧ Hid (El wt (w.heap.size + 1 + 1) (16212958658533785600, 0)) ∧ Hid (El wt (w.heap.size + 1 + 1 + 1) g0) ∧ Hid (El wt (w.heap.size + 1 + 1 + 1 + 1) (gs (fb q) p (64 * n + j))) ∧ Hid (Below w.heap.size w wt)) (fun p10 _ => (intOf p10).toNat)
      case atStart => exact ⟨0, by omega, rfl, H0, H2, H3, H4, HB⟩
      case round =>
        clear H0 H2 H3 H4 HB
        obtain ⟨j, hj, rfl, I0, I2, I3, I4, IB⟩ := hrel
        by_cases hlj : j < 64
        · have XG := hid (gxN_64 HP.out (64 * n + j))
          have SG := hid (gs_64 (fb q) HP.out (64 * n + j))
          have PP := pw_at j hlj
          have PL : 0 < 2 ^ (63 - j) := Nat.pow_pos (by omega)
          rw [← PP] at PL
          have PN := hid (show Value.int .u64 (((9223372036854775808 / 2 ^ j : Nat) : Int) / 2) = .int .u64 ((9223372036854775808 / 2 ^ (j + 1) : Nat) : Int) by rw [show ((9223372036854775808 / 2 ^ j : Nat) : Int) / 2 = ((9223372036854775808 / 2 ^ j / 2 : Nat) : Int) by omega, Nat.div_div_eq_div_mul, ← Nat.pow_succ])
          have p1 : (((9223372036854775808 / 2 ^ j : Nat) : Int) != 0) = true := by rw [bne_iff_ne]; omega
          have p2 : 9223372036854775808 / 2 ^ j < 18446744073709551616 := Nat.lt_of_le_of_lt (Nat.div_le_self _ _) (by decide)
          have MS := hid (show (intOf (Value.int .u64 (((9223372036854775808 / 2 ^ j : Nat) : Int) / 2))).toNat < (intOf (Value.int .u64 ((9223372036854775808 / 2 ^ j : Nat) : Int))).toNat by simp only [intOf]; omega)
          by_cases hb : f.testBit (63 - j) = true
          · have c1 := pw_yes f j F64.out hlj hb
            have SN := hid (gs_yes (fb q) p (64 * n + j) ((HF.out j hlj).trans hb))
            clear PP HF
            generalize 9223372036854775808 / 2 ^ j = pw at *
            go_wp2_with (first | refine wpList_load_row rfl 77 _ rfl (w.heap.size + 1 + 1 + 1 + 1) rfl 77 (ec (gs (fb q) p (64 * n + j))) _ _ I4.out Try.underlying77 rfl (ec_size _) ?_ | refine wpList_load_row rfl 77 _ rfl (w.heap.size) rfl 77 (ec (gxN p (64 * n + j))) _ _ I0.out Try.underlying77 rfl (ec_size _) ?_)
            refine (gplusE (gs (fb q) p (64 * n + j)) (gxN p (64 * n + j)) _ SG.out XG.out).mono ?_
            rintro e w1 ⟨rfl, hB⟩
            have Y4 := hid (I4.out.below hB)
            have Y0 := hid ((I0.out.below hB).far (ec (ga (gs (fb q) p (64 * n + j)) (gxN p (64 * n + j)))) (show w.heap.size ≠ w.heap.size + 1 + 1 + 1 + 1 by omega))
            have Y2 := hid ((I2.out.below hB).far (ec (ga (gs (fb q) p (64 * n + j)) (gxN p (64 * n + j)))) (show w.heap.size + 1 + 1 ≠ w.heap.size + 1 + 1 + 1 + 1 by omega))
            have Y3 := hid ((I3.out.below hB).far (ec (ga (gs (fb q) p (64 * n + j)) (gxN p (64 * n + j)))) (show w.heap.size + 1 + 1 + 1 ≠ w.heap.size + 1 + 1 + 1 + 1 by omega))
            have YB := hid (below_row (IB.out.trans (hB.mono IB.out.size)) (show w.heap.size ≤ w.heap.size + 1 + 1 + 1 + 1 by omega) (ec (ga (gs (fb q) p (64 * n + j)) (gxN p (64 * n + j)))))
            have YN := hid (Y4.out.row (q := ga (gs (fb q) p (64 * n + j)) (gxN p (64 * n + j))))
            clear hB
            go_wp2_with (first | refine wpList_store_row rfl 77 _ _ rfl (w.heap.size + 1 + 1 + 1 + 1) (ec (ga (gs (fb q) p (64 * n + j)) (gxN p (64 * n + j)))) rfl rfl 77 _ Y4.out (ec_size _) rfl (ec_one _) ?_ | refine wpList_load_row rfl 77 _ rfl (w.heap.size) rfl 77 (ec (gxN p (64 * n + j))) _ _ Y0.out Try.underlying77 rfl (ec_size _) ?_ | refine wpList_load_row rfl 77 _ rfl (w.heap.size + 1 + 1) rfl 77 (ec (16212958658533785600, 0)) _ _ Y2.out Try.underlying77 rfl (ec_size _) ?_)
            refine (griseE (gxN p (64 * n + j)) _ XG.out).mono ?_
            rintro e w2 ⟨rfl, hB⟩
            have T0 := hid (Y0.out.below hB)
            have T2 := hid ((Y2.out.below hB).far (ec (gx (gxN p (64 * n + j)))) (show w.heap.size + 1 + 1 ≠ w.heap.size by omega))
            have T3 := hid ((Y3.out.below hB).far (ec (gx (gxN p (64 * n + j)))) (show w.heap.size + 1 + 1 + 1 ≠ w.heap.size by omega))
            have T4 := hid ((YN.out.below hB).far (ec (gx (gxN p (64 * n + j)))) (show w.heap.size + 1 + 1 + 1 + 1 ≠ w.heap.size by omega))
            have TB := hid (below_row (YB.out.trans (hB.mono YB.out.size)) (Nat.le_refl _) (ec (gx (gxN p (64 * n + j)))))
            have TN := hid (T0.out.row (q := gx (gxN p (64 * n + j))))
            clear hB
            go_wp2_with (first | refine wpList_store_row rfl 77 _ _ rfl (w.heap.size) (ec (gx (gxN p (64 * n + j)))) rfl rfl 77 _ T0.out (ec_size _) rfl (ec_one _) ?_)
            refine ⟨⟨j + 1, by omega, ?_, TN, T2, T3, ?_, TB⟩, ?_⟩
            · exact PN.out
            · rw [← Nat.add_assoc, SN.out]; exact T4
            · exact MS.out
          · have hb : f.testBit (63 - j) = false := by simpa using hb
            have c1 := pw_no f j F64.out hlj hb
            have SN := hid (gs_no (fb q) p (64 * n + j) ((HF.out j hlj).trans hb))
            clear PP HF
            generalize 9223372036854775808 / 2 ^ j = pw at *
            go_wp2_with (first | refine wpList_load_row rfl 77 _ rfl (w.heap.size) rfl 77 (ec (gxN p (64 * n + j))) _ _ I0.out Try.underlying77 rfl (ec_size _) ?_ | refine wpList_load_row rfl 77 _ rfl (w.heap.size + 1 + 1) rfl 77 (ec (16212958658533785600, 0)) _ _ I2.out Try.underlying77 rfl (ec_size _) ?_)
            refine (griseE (gxN p (64 * n + j)) _ XG.out).mono ?_
            rintro e w2 ⟨rfl, hB⟩
            have T0 := hid (I0.out.below hB)
            have T2 := hid ((I2.out.below hB).far (ec (gx (gxN p (64 * n + j)))) (show w.heap.size + 1 + 1 ≠ w.heap.size by omega))
            have T3 := hid ((I3.out.below hB).far (ec (gx (gxN p (64 * n + j)))) (show w.heap.size + 1 + 1 + 1 ≠ w.heap.size by omega))
            have T4 := hid ((I4.out.below hB).far (ec (gx (gxN p (64 * n + j)))) (show w.heap.size + 1 + 1 + 1 + 1 ≠ w.heap.size by omega))
            have TB := hid (below_row (IB.out.trans (hB.mono IB.out.size)) (Nat.le_refl _) (ec (gx (gxN p (64 * n + j)))))
            have TN := hid (T0.out.row (q := gx (gxN p (64 * n + j))))
            clear hB
            go_wp2_with (first | refine wpList_store_row rfl 77 _ _ rfl (w.heap.size) (ec (gx (gxN p (64 * n + j)))) rfl rfl 77 _ T0.out (ec_size _) rfl (ec_one _) ?_)
            refine ⟨⟨j + 1, by omega, ?_, TN, T2, T3, ?_, TB⟩, ?_⟩
            · exact PN.out
            · rw [← Nat.add_assoc, SN.out]; exact T4
            · exact MS.out
        · have hj64 : j = 64 := by omega
          subst hj64
          rw [show 9223372036854775808 / 2 ^ 64 = 0 from rfl]
          go_wp2_with fail
          refine ⟨⟨n + 1, _, _, by omega, rfl, rfl, num_succ n, I0, I2, I3, I4, IB⟩, ?_⟩
          simp [intOf]
          omega
    · have hn2 : n = 2 := by omega
      subst hn2
      go_wp2_with (first | refine wpList_load_row rfl 77 _ rfl (w.heap.size + 1 + 1 + 1 + 1) rfl 77 (ec (gmul q p)) _ _ H4.out Try.underlying77 rfl (ec_size _) ?_ | refine wpList_store_row rfl 77 _ _ rfl (w.heap.size + 1 + 1 + 1) (ec (gmul q p)) rfl rfl 77 _ H3.out (ec_size _) rfl (ec_one _) ?_)
      exact bodyPost_ret (v := .agg (ec (gmul q p))) (results_cell_row rfl _ _ (w.heap.size + 1 + 1 + 1) 77 _ _ _ rfl (H3.out.row (q := gmul q p)) Try.underlying77 rfl (ec_size _)) rfl ⟨rfl, below_row HB.out (by omega) _⟩
end Go.Proofs.Ytckgjghpfjinfai.W

namespace Go.Proofs.Ytckgjghpfjinfai.W
open Go.ChangeShapes Go.WideShapes Go.ChangeAt Go.RowKit
open Go.Proofs.Ytckgjghpfjinfai.M

set_option maxHeartbeats 1000000 in
set_option maxRecDepth 100000 in
theorem blkofel (p : Nat × Nat) (w : World) (hp : G64 p) :
    Calls Try.prog 111 #[.agg (ec p)] w fun e w' => e = .returned (.agg (arr (eb p))) ∧ Below w.heap.size w w' := by
  have HP := hid hp
  clear hp
  have V0 := heap_alloc_new w (.cells (ec p) 77)
  have A1 := Ar.new (w.alloc (.cells (ec p) 77)) 63 (zs 16)
  have A2 := Ar.new ((w.alloc (.cells (ec p) 77)).alloc (.cells (arr (zs 16)) 63)) 63 (zs 16)
  simp only [World.size_alloc] at A1 A2
  have H0 := hid (show El _ _ _ from var_alloc (.cells (arr (zs 16)) 63) (var_alloc (.cells (arr (zs 16)) 63) V0))
  have H1 := hid (A1.alloc (.cells (arr (zs 16)) 63))
  have H2 := hid A2
  have HB := hid (below_alloc3 w (.cells (ec p) 77) (.cells (arr (zs 16)) 63) (.cells (arr (zs 16)) 63))
  clear V0 A1 A2
  go_enter Try.func111, Try.ntmps111
  go_wp2_with fail
  go_loopw [4] (fun i4 ws => ∃ k : Nat, k ≤ 8 ∧ i4 = .int .i64 (7 - (k : Int)) ∧ Hid (El ws w.heap.size (p.1 / 256 ^ k, p.2 / 256 ^ k)) ∧ Hid (Ar ws (w.heap.size + 1) 63 (zs 16)) ∧ Hid (Ar ws (w.heap.size + 1 + 1) 63 (rk (gt (eb p)) k)) ∧ Hid (Below w.heap.size w ws)) (fun i4 _ => (intOf i4 + 1).toNat)
  case atStart => exact ⟨0, by omega, rfl, hid (by rw [Nat.pow_zero, Nat.div_one, Nat.div_one]; exact H0.out), H1, H2, HB⟩
  case round =>
    clear H0 H1 H2 HB
    obtain ⟨k, hk, rfl, H0, H1, H2, HB⟩ := hrel
    by_cases hlt : k < 8
    · obtain ⟨t, ht⟩ : ∃ t : Nat, t + k = 7 := ⟨7 - k, by omega⟩
      rw [show 7 - (k : Int) = (t : Int) by omega]
      obtain ⟨c0, f0⟩ := H0.out.cell0
      obtain ⟨c1, f1⟩ := H0.out.cell1
      simp only at c0 c1
      have d0 := H2.out.cell t (by rw [rk_len]; omega)
      have g0' := H2.out.open t
      have E0 := eb_lo p k t hlt ht
      have E1 := eb_hi p k t (8 + t) hlt ht rfl
      have RS := hid (rk_set (gt (eb p)) k t (8 + t) hlt ht rfl)
      have S1 := H2.out.stored t (gt (eb p) t)
      have d1 := H2.out.cell (8 + t) (by rw [rk_len]; omega)
      have g1' := H2.out.open (8 + t)
      have S2 := (S1.stored (8 + t) (gt (eb p) (8 + t)))
      have S1B := HB.out.setCell (p := ⟨w.heap.size + 1 + 1, t, none⟩) (by show w.heap.size ≤ w.heap.size + 1 + 1; omega) (.int .u8 (gt (eb p) t : Nat))
      have S2B := (S1B.setCell (p := ⟨w.heap.size + 1 + 1, 8 + t, none⟩) (by show w.heap.size ≤ w.heap.size + 1 + 1; omega) (.int .u8 (gt (eb p) (8 + t) : Nat)))
      have S2E := ((H0.out.cfar (g' := w.heap.size + 1 + 1) (k := t) (.int .u8 (gt (eb p) t : Nat)) (by omega)).cfar (g' := w.heap.size + 1 + 1) (k := 8 + t) (.int .u8 (gt (eb p) (8 + t) : Nat)) (by omega))
      have S2R := ((H1.out.far (g' := w.heap.size + 1 + 1) (k := t) (.int .u8 (gt (eb p) t : Nat)) (by omega)).far (g' := w.heap.size + 1 + 1) (k := 8 + t) (.int .u8 (gt (eb p) (8 + t) : Nat)) (by omega))
      rw [RS.out] at S2
      clear S1 S1B RS
      generalize gt (eb p) t = x at *
      generalize gt (eb p) (8 + t) = z at *
      have P0 := hid (pow_step p.1 k)
      have P1 := hid (pow_step p.2 k)
      have q0 : p.1 / 256 ^ k < 18446744073709551616 := Nat.lt_of_le_of_lt (Nat.div_le_self _ _) HP.out.1
      have q1 : p.2 / 256 ^ k < 18446744073709551616 := Nat.lt_of_le_of_lt (Nat.div_le_self _ _) HP.out.2
      generalize p.1 / 256 ^ k = a at *
      generalize p.2 / 256 ^ k = b at *
      have e0 : (x : Int) = IntKind.u8.wrap (a : Int) := by rw [IntKind.wrap_u8']; omega
      have e1 : (z : Int) = IntKind.u8.wrap (b : Int) := by rw [IntKind.wrap_u8']; omega
      have wn : IntKind.i64.wrap (8 + (t : Int)) = 8 + (t : Int) := by rw [IntKind.wrap_i64]; omega
      have t0 : (0 : Int) ≤ (t : Int) := by omega
      have t1 : (t : Int) < 16 := by omega
      have k0 : (0 : Int) ≤ 8 + (t : Int) := by omega
      have k1 : 8 + (t : Int) < 16 := by omega
      rw [show 8 + t = (8 + (t : Int)).toNat by omega] at d1 g1' S2 S2B S2E S2R
      rw [e0, e1] at S2 S2B S2E S2R
      replace S2 := hid S2
      replace S2B := hid S2B
      replace S2E := hid S2E
      replace S2R := hid S2R
      clear e0 e1
      go_wp2_with fail
      go_region
      all_goals
        clear c0 c1 f0 f1 d0 d1 g0' g1'
        generalize (wr.setCell ⟨w.heap.size + 1 + 1, t, none⟩ (.int .u8 (IntKind.u8.wrap (a : Int)))).setCell ⟨w.heap.size + 1 + 1, (8 + (t : Int)).toNat, none⟩ (.int .u8 (IntKind.u8.wrap (b : Int))) = W at *
        obtain ⟨c0, f0⟩ := S2E.out.cell0
        obtain ⟨c1, f1⟩ := S2E.out.cell1
        simp only at c0 c1
        have U0 := hid ((S2E.out.set0 (a / 256)).set1 (b / 256))
        have U1 := hid ((S2R.out.far (g' := w.heap.size) (k := 0) (.int .u64 ((a / 256 : Nat) : Int)) (by omega)).far (g' := w.heap.size) (k := 1) (.int .u64 ((b / 256 : Nat) : Int)) (by omega))
        have U2 := hid ((S2.out.far (g' := w.heap.size) (k := 0) (.int .u64 ((a / 256 : Nat) : Int)) (by omega)).far (g' := w.heap.size) (k := 1) (.int .u64 ((b / 256 : Nat) : Int)) (by omega))
        have UB := hid ((S2B.out.setCell (p := ⟨w.heap.size, 0, none⟩) (Nat.le_refl _) (.int .u64 ((a / 256 : Nat) : Int))).setCell (p := ⟨w.heap.size, 1, none⟩) (Nat.le_refl _) (.int .u64 ((b / 256 : Nat) : Int)))
        go_wp2
        exact ⟨⟨k + 1, by omega, i64_eq (by omega), hid (by rw [← P0.out, ← P1.out]; exact U0.out.drew), hid U1.out.drew, hid U2.out.drew, hid UB.out.drew⟩, by simp [intOf]⟩
    · have hk8 : k = 8 := by omega
      subst hk8
      rw [rk_end] at H2
      have Z := hid (blk_size (eb p) (eb_len p))
      go_wp2_with (first | refine wpList_load_row rfl 63 _ rfl (w.heap.size + 1 + 1) rfl 63 (arr (eb p)) _ _ H2.out Try.underlying63 rfl Z.out ?_ | refine wpList_store_row rfl 63 _ _ rfl (w.heap.size + 1) (arr (eb p)) rfl rfl 63 _ H1.out Z.out (by rw [arr_size, arr_size, eb_len]; rfl) (arr_one _) ?_)
      exact bodyPost_ret (v := .agg (arr (eb p))) (results_cell_row rfl _ _ (w.heap.size + 1) 63 _ _ _ rfl (H1.out.row (l' := eb p)) Try.underlying63 rfl Z.out) rfl ⟨rfl, below_row HB.out (by omega) _⟩

/-- A slice that is a block. -/
theorem blkof (v : Value) (l : List Nat) (w : World) (h : Rd w v l) (hl : l.length = 16) :
    Calls Try.prog 41 #[v] w fun e w' => e = .returned (.agg (arr l)) ∧ Below w.heap.size w w' := by
  obtain ⟨b, o, cap, rfl, -, hb⟩ := h.spot (by omega)
  rw [hl] at h ⊢
  have Z := hid (blk_size l hl)
  have P2 := arr_at 63 5 16 Try.underlying63 (some ⟨b, o, none⟩) 16 cap (Nat.le_refl _)
  have R := hid (rangeAt.below (rd_range h) (below_alloc1 w (.cells (arr (zs 16)) 63)))
  have V := hid (Ar.new w 63 (zs 16))
  clear h
  go_enter Try.func41, Try.ntmps41
  go_wp2_with (first | (go_at_call 73; refine (isblk_yes _ _ _).mono ?_; rintro e w' ⟨rfl, rfl⟩) | refine load_sub rfl 63 _ rfl b o rfl l R.out _ Try.underlying63 rfl Z.out ?_ | refine wpList_store_row rfl 63 _ _ rfl w.heap.size (arr l) rfl rfl 63 _ V.out Z.out (by rw [arr_size, arr_size, hl]; rfl) (arr_one _) ?_)
  exact bodyPost_ret (v := .agg (arr l)) (results_cell_row rfl _ _ w.heap.size 63 _ _ _ rfl (V.out.row (l' := l)) Try.underlying63 rfl Z.out) rfl ⟨rfl, below_row (below_alloc1 w _) (Nat.le_refl _) _⟩

theorem blkof_no (v : Value) (l : List Nat) (w : World) (h : Rd w v l) (hl : l.length ≠ 16) :
    Calls Try.prog 41 #[v] w fun e w' => e = .panicked [{ v := .iface 9 (.string { data := #[110, 111, 32, 98, 108, 111, 99, 107] }), recovered := false }] ∧ Below w.heap.size w w' := by
  obtain ⟨p, cap, rfl, -, -, -⟩ := h.parts
  clear h
  have H := hid hl
  clear hl
  go_enter Try.func41, Try.ntmps41
  go_wp2_with (first | (go_at_call 73; refine (isblk_no _ _ _ H.out _).mono ?_; rintro e w' ⟨rfl, rfl⟩))
  exact ⟨rfl, rfl, below_alloc1 w _⟩
theorem gprod (p q : Nat × Nat) (w : World) (hp : G64 p) (hq : G64 q) :
    Calls Try.prog 109 #[.agg (ec p), .agg (ec q)] w fun e w' => e = .returned (.agg (ec (gmul q p))) ∧ Below w.heap.size w w' := by
  have V2 := heap_alloc_new ((w.alloc (.cells (ec p) 77)).alloc (.cells (ec q) 77)) (.cells (ec g0) 77)
  simp only [World.size_alloc] at V2
  have H2 := hid (show El _ _ _ from V2)
  have HB := hid (below_alloc3 w (.cells (ec p) 77) (.cells (ec q) 77) (.cells (ec g0) 77))
  clear V2
  show Calls _ _ #[.agg #[.int .u64 (p.1 : Int), .int .u64 (p.2 : Int)], .agg #[.int .u64 (q.1 : Int), .int .u64 (q.2 : Int)]] _ _
  go_enter Try.func109, Try.ntmps109
  go_wp2_with fail
  refine (gtimes p q _ hp hq).mono ?_
  rintro e w1 ⟨rfl, hB⟩
  have K2 := hid (H2.out.below hB)
  have KB := hid (HB.out.trans (hB.mono HB.out.size))
  clear hB
  go_wp2_with (refine wpList_store_row rfl 77 _ _ rfl (w.heap.size + 1 + 1) (ec (gmul q p)) rfl rfl 77 _ K2.out (ec_size _) rfl (ec_one _) ?_)
  exact bodyPost_ret (v := .agg (ec (gmul q p))) (results_cell_row rfl _ _ (w.heap.size + 1 + 1) 77 _ _ _ rfl (K2.out.row (q := gmul q p)) Try.underlying77 rfl (ec_size _)) rfl ⟨rfl, below_row KB.out (by omega) _⟩
end Go.Proofs.Ytckgjghpfjinfai.W

namespace Go.Proofs.Ytckgjghpfjinfai.W
open Go.ChangeShapes Go.WideShapes Go.ChangeAt Go.RowKit
open Go.Proofs.Ytckgjghpfjinfai.M

theorem iskey (a : Option Addr) (n cap : Nat) (w : World) :
    Calls Try.prog 47 #[.slice a n cap] w fun e w' => e = .returned (.bool ((n : Int) == 16)) ∧ w' = w := by
  go_enter Try.func47, Try.ntmps47
  go_wp2
  go_ret
  exact ⟨rfl, rfl⟩
theorem iskey_yes (a : Option Addr) (cap : Nat) (w : World) :
    Calls Try.prog 47 #[.slice a 16 cap] w fun e w' => e = .returned (.bool true) ∧ w' = w := iskey a 16 cap w
theorem iskey_no (a : Option Addr) (n cap : Nat) (hn : n ≠ 16) (w : World) :
    Calls Try.prog 47 #[.slice a n cap] w fun e w' => e = .returned (.bool false) ∧ w' = w := by
  have h := iskey a n cap w
  rw [show ((n : Int) == 16) = false by simp; omega] at h
  exact h
end Go.Proofs.Ytckgjghpfjinfai.W

namespace Go.Proofs.Ytckgjghpfjinfai.M
open Go.RowKit

/-- A slice in a variable of its own. -/
def Bx (w : World) (g : Nat) (v : Value) : Prop := w.cell? ⟨g, 0, none⟩ = some v
theorem Bx.below {w w' : World} {g : Nat} {v : Value} (h : Bx w g v) (hb : Below w.heap.size w w') : Bx w' g v := cell_kept hb h
end Go.Proofs.Ytckgjghpfjinfai.M

namespace Go.Proofs.Ytckgjghpfjinfai.W
open Go.ChangeShapes Go.WideShapes Go.ChangeAt Go.RowKit
open Go.Proofs.Ytckgjghpfjinfai.M

theorem ar_all {w : World} {g : Nat} {T : TypeId} {l : List Nat} (h : Ar w g T l) : w.rangeAt g 0 (l.map bv) := fun j v hv => by
  rw [cell_of_row w g (0 + j) _ _ _ h, Nat.zero_add]
  simp [arr, hv]

set_option maxHeartbeats 2000000 in
set_option maxRecDepth 100000 in
theorem sx1_no (gk gb gd : Nat) (vk vb vd : Value) (k b d : List Nat) (w : World) (ck : Bx w gk vk) (cb : Bx w gb vb) (cd : Bx w gd vd) (hk : Rd w vk k) (hb : Rd w vb b) (hd : Rd w vd d) (nb : b.length ≠ 16) :
    Calls Try.prog 46 #[.pointer (some ⟨gb, 0, none⟩), .pointer (some ⟨gk, 0, none⟩), .pointer (some ⟨gd, 0, none⟩)] w fun e w' => e = .panicked [{ v := .iface 9 (.string { data := #[110, 111, 32, 98, 108, 111, 99, 107] }), recovered := false }] ∧ Below w.heap.size w w' := by
  obtain ⟨pk, capk, rfl, -, -, -⟩ := hk.parts
  obtain ⟨pb, capb, rfl, -, -, -⟩ := hb.parts
  obtain ⟨pd, capd, rfl, -, -, -⟩ := hd.parts
  have B0 := below_alloc1 w (.cells #[.int .i64 0, .slice none 0 0] 24)
  have V0 := heap_alloc_new w (.cells #[.int .i64 0, .slice none 0 0] 24)
  have CB : (w.alloc (.cells #[.int .i64 0, .slice none 0 0] 24)).cell? ⟨gb, 0, none⟩ = some _ := cb.below B0
  have CK := hid ck
  have CD := hid cd
  have HR := hid (hb.below B0)
  have HK := hid hk
  have HD := hid hd
  have VH := hid V0
  have BH := hid B0
  have NB := hid nb
  clear ck cb cd hk hb hd V0 B0 nb
  go_enter Try.func46, Try.ntmps46
  go_wp2_with fail
  refine (blkof_no _ b _ HR.out NB.out).mono ?_
  rintro e w1 ⟨rfl, hM⟩
  exact ⟨rfl, rfl, BH.out.trans (hM.mono BH.out.size)⟩

set_option maxHeartbeats 2000000 in
set_option maxRecDepth 100000 in
theorem sx1_key (gk gb gd : Nat) (vk vb vd : Value) (k b d : List Nat) (w : World) (ck : Bx w gk vk) (cb : Bx w gb vb) (cd : Bx w gd vd) (hk : Rd w vk k) (hb : Rd w vb b) (hd : Rd w vd d) (nb : b.length = 16) (nk : k.length ≠ 16) :
    Calls Try.prog 46 #[.pointer (some ⟨gb, 0, none⟩), .pointer (some ⟨gk, 0, none⟩), .pointer (some ⟨gd, 0, none⟩)] w fun e w' => e = .returned (.agg #[.int .i64 2, .slice none 0 0]) ∧ Below w.heap.size w w' := by
  obtain ⟨pk, capk, rfl, -, -, -⟩ := hk.parts
  obtain ⟨pb, capb, rfl, -, -, -⟩ := hb.parts
  obtain ⟨pd, capd, rfl, -, -, -⟩ := hd.parts
  have B0 := below_alloc1 w (.cells #[.int .i64 0, .slice none 0 0] 24)
  have V0 := heap_alloc_new w (.cells #[.int .i64 0, .slice none 0 0] 24)
  have CB : (w.alloc (.cells #[.int .i64 0, .slice none 0 0] 24)).cell? ⟨gb, 0, none⟩ = some _ := cb.below B0
  have CK := hid ck
  have CD := hid cd
  have HR := hid (hb.below B0)
  have HK := hid hk
  have HD := hid hd
  have VH := hid V0
  have BH := hid B0
  have NB := hid nb
  clear ck cb cd hk hb hd V0 B0 nb
  go_enter Try.func46, Try.ntmps46
  go_wp2_with fail
  have NK := hid nk
  clear nk
  refine (blkof _ b _ HR.out NB.out).mono ?_
  rintro e w1 ⟨rfl, hM⟩
  replace VH := hid (var_below hM VH.out)
  replace BH := hid (BH.out.trans (hM.mono BH.out.size))
  clear CB HR hM
  have hz2 := hid (BH.out.size)
  have hz3 := hid (var_lt VH.out)
  have ZB := hid (blk_size b NB.out)
  have V3 := hid (show Ar _ _ _ (zs 16) from heap_alloc_new w1 (.cells #[.int .u8 0, .int .u8 0, .int .u8 0, .int .u8 0, .int .u8 0, .int .u8 0, .int .u8 0, .int .u8 0, .int .u8 0, .int .u8 0, .int .u8 0, .int .u8 0, .int .u8 0, .int .u8 0, .int .u8 0, .int .u8 0] 63))
  have VR := hid (show (((w1.alloc (.cells #[.int .u8 0, .int .u8 0, .int .u8 0, .int .u8 0, .int .u8 0, .int .u8 0, .int .u8 0, .int .u8 0, .int .u8 0, .int .u8 0, .int .u8 0, .int .u8 0, .int .u8 0, .int .u8 0, .int .u8 0, .int .u8 0] 63)).setRow w1.heap.size (arr b)).heap[w.heap.size]? = some (.cells #[.int .i64 0, .slice none 0 0] 24)) by
    rw [setRow_other _ _ _ _ (show w.heap.size ≠ w1.heap.size by have := hz3.out; omega)]
    exact var_alloc _ VH.out)
  have BX := hid (below_row (BH.out.alloc hz2.out (.cells #[.int .u8 0, .int .u8 0, .int .u8 0, .int .u8 0, .int .u8 0, .int .u8 0, .int .u8 0, .int .u8 0, .int .u8 0, .int .u8 0, .int .u8 0, .int .u8 0, .int .u8 0, .int .u8 0, .int .u8 0, .int .u8 0] 63)) (g := w1.heap.size) hz2.out (arr b))
  have V4 := hid (V3.out.row (l' := b))
  have SZ := hid (show ((w1.alloc (.cells #[.int .u8 0, .int .u8 0, .int .u8 0, .int .u8 0, .int .u8 0, .int .u8 0, .int .u8 0, .int .u8 0, .int .u8 0, .int .u8 0, .int .u8 0, .int .u8 0, .int .u8 0, .int .u8 0, .int .u8 0, .int .u8 0] 63)).setRow w1.heap.size (arr b)).heap.size = w1.heap.size + 1 by simp)
  clear VH BH
  have C4 : ((w1.alloc (.cells #[.int .u8 0, .int .u8 0, .int .u8 0, .int .u8 0, .int .u8 0, .int .u8 0, .int .u8 0, .int .u8 0, .int .u8 0, .int .u8 0, .int .u8 0, .int .u8 0, .int .u8 0, .int .u8 0, .int .u8 0, .int .u8 0] 63)).setRow w1.heap.size (arr b)).cell? ⟨gk, 0, none⟩ = some _ := cell_kept BX.out CK.out
  have C5 : ((w1.alloc (.cells #[.int .u8 0, .int .u8 0, .int .u8 0, .int .u8 0, .int .u8 0, .int .u8 0, .int .u8 0, .int .u8 0, .int .u8 0, .int .u8 0, .int .u8 0, .int .u8 0, .int .u8 0, .int .u8 0, .int .u8 0, .int .u8 0] 63)).setRow w1.heap.size (arr b)).cell? ⟨gd, 0, none⟩ = some _ := cell_kept BX.out CD.out
  go_wp2_with (refine wpList_store_row rfl 63 _ _ rfl w1.heap.size (arr b) rfl rfl 63 _ V3.out ZB.out (by rw [arr_size, arr_size, NB.out]; rfl) (arr_one _) ?_; generalize ((w1.alloc (.cells #[.int .u8 0, .int .u8 0, .int .u8 0, .int .u8 0, .int .u8 0, .int .u8 0, .int .u8 0, .int .u8 0, .int .u8 0, .int .u8 0, .int .u8 0, .int .u8 0, .int .u8 0, .int .u8 0, .int .u8 0, .int .u8 0] 63)).setRow w1.heap.size (arr b)) = W at *)
  refine (iskey_no _ _ _ NK.out _).mono ?_
  rintro e w' ⟨rfl, rfl⟩
  obtain ⟨f1, f2, f3, f4⟩ := var2_facts VR.out
  have hset := hid (var2_set (x' := .int .i64 2) (y' := .slice none 0 0) VR.out)
  have hbel := hid (below_set2 (x := .int .i64 2) (y := .slice none 0 0) BX.out (Nat.le_refl _))
  go_wp2
  exact bodyPost_ret (v := .agg #[.int .i64 2, .slice none 0 0]) (results_cell_row rfl _ _ w.heap.size 24 _ _ _ rfl hset.out Try.underlying24 rfl (by kernel_rfl)) rfl ⟨rfl, hbel.out⟩

set_option maxHeartbeats 2000000 in
set_option maxRecDepth 100000 in
theorem sx1_many (gk gb gd : Nat) (vk vb vd : Value) (k b d : List Nat) (w : World) (ck : Bx w gk vk) (cb : Bx w gb vb) (cd : Bx w gd vd) (hk : Rd w vk k) (hb : Rd w vb b) (hd : Rd w vd d) (nb : b.length = 16) (nk : k.length = 16) (nd : 600 < d.length) :
    Calls Try.prog 46 #[.pointer (some ⟨gb, 0, none⟩), .pointer (some ⟨gk, 0, none⟩), .pointer (some ⟨gd, 0, none⟩)] w fun e w' => e = .returned (.agg #[.int .i64 2, .slice none 0 0]) ∧ Below w.heap.size w w' := by
  obtain ⟨pk, capk, rfl, -, -, -⟩ := hk.parts
  obtain ⟨pb, capb, rfl, -, -, -⟩ := hb.parts
  obtain ⟨pd, capd, rfl, -, -, -⟩ := hd.parts
  have B0 := below_alloc1 w (.cells #[.int .i64 0, .slice none 0 0] 24)
  have V0 := heap_alloc_new w (.cells #[.int .i64 0, .slice none 0 0] 24)
  have CB : (w.alloc (.cells #[.int .i64 0, .slice none 0 0] 24)).cell? ⟨gb, 0, none⟩ = some _ := cb.below B0
  have CK := hid ck
  have CD := hid cd
  have HR := hid (hb.below B0)
  have HK := hid hk
  have HD := hid hd
  have VH := hid V0
  have BH := hid B0
  have NB := hid nb
  clear ck cb cd hk hb hd V0 B0 nb
  go_enter Try.func46, Try.ntmps46
  go_wp2_with fail
  have NK := hid nk
  have WI := hid (show inB (d.length : Int) 0 600 = false by unfold inB; rw [decide_eq_false (by omega)])
  clear nk
  refine (blkof _ b _ HR.out NB.out).mono ?_
  rintro e w1 ⟨rfl, hM⟩
  replace VH := hid (var_below hM VH.out)
  replace BH := hid (BH.out.trans (hM.mono BH.out.size))
  clear CB HR hM
  have hz2 := hid (BH.out.size)
  have hz3 := hid (var_lt VH.out)
  have ZB := hid (blk_size b NB.out)
  have V3 := hid (show Ar _ _ _ (zs 16) from heap_alloc_new w1 (.cells #[.int .u8 0, .int .u8 0, .int .u8 0, .int .u8 0, .int .u8 0, .int .u8 0, .int .u8 0, .int .u8 0, .int .u8 0, .int .u8 0, .int .u8 0, .int .u8 0, .int .u8 0, .int .u8 0, .int .u8 0, .int .u8 0] 63))
  have VR := hid (show (((w1.alloc (.cells #[.int .u8 0, .int .u8 0, .int .u8 0, .int .u8 0, .int .u8 0, .int .u8 0, .int .u8 0, .int .u8 0, .int .u8 0, .int .u8 0, .int .u8 0, .int .u8 0, .int .u8 0, .int .u8 0, .int .u8 0, .int .u8 0] 63)).setRow w1.heap.size (arr b)).heap[w.heap.size]? = some (.cells #[.int .i64 0, .slice none 0 0] 24)) by
    rw [setRow_other _ _ _ _ (show w.heap.size ≠ w1.heap.size by have := hz3.out; omega)]
    exact var_alloc _ VH.out)
  have BX := hid (below_row (BH.out.alloc hz2.out (.cells #[.int .u8 0, .int .u8 0, .int .u8 0, .int .u8 0, .int .u8 0, .int .u8 0, .int .u8 0, .int .u8 0, .int .u8 0, .int .u8 0, .int .u8 0, .int .u8 0, .int .u8 0, .int .u8 0, .int .u8 0, .int .u8 0] 63)) (g := w1.heap.size) hz2.out (arr b))
  have V4 := hid (V3.out.row (l' := b))
  have SZ := hid (show ((w1.alloc (.cells #[.int .u8 0, .int .u8 0, .int .u8 0, .int .u8 0, .int .u8 0, .int .u8 0, .int .u8 0, .int .u8 0, .int .u8 0, .int .u8 0, .int .u8 0, .int .u8 0, .int .u8 0, .int .u8 0, .int .u8 0, .int .u8 0] 63)).setRow w1.heap.size (arr b)).heap.size = w1.heap.size + 1 by simp)
  clear VH BH
  have C4 : ((w1.alloc (.cells #[.int .u8 0, .int .u8 0, .int .u8 0, .int .u8 0, .int .u8 0, .int .u8 0, .int .u8 0, .int .u8 0, .int .u8 0, .int .u8 0, .int .u8 0, .int .u8 0, .int .u8 0, .int .u8 0, .int .u8 0, .int .u8 0] 63)).setRow w1.heap.size (arr b)).cell? ⟨gk, 0, none⟩ = some _ := cell_kept BX.out CK.out
  have C5 : ((w1.alloc (.cells #[.int .u8 0, .int .u8 0, .int .u8 0, .int .u8 0, .int .u8 0, .int .u8 0, .int .u8 0, .int .u8 0, .int .u8 0, .int .u8 0, .int .u8 0, .int .u8 0, .int .u8 0, .int .u8 0, .int .u8 0, .int .u8 0] 63)).setRow w1.heap.size (arr b)).cell? ⟨gd, 0, none⟩ = some _ := cell_kept BX.out CD.out
  go_wp2_with (refine wpList_store_row rfl 63 _ _ rfl w1.heap.size (arr b) rfl rfl 63 _ V3.out ZB.out (by rw [arr_size, arr_size, NB.out]; rfl) (arr_one _) ?_; generalize ((w1.alloc (.cells #[.int .u8 0, .int .u8 0, .int .u8 0, .int .u8 0, .int .u8 0, .int .u8 0, .int .u8 0, .int .u8 0, .int .u8 0, .int .u8 0, .int .u8 0, .int .u8 0, .int .u8 0, .int .u8 0, .int .u8 0, .int .u8 0] 63)).setRow w1.heap.size (arr b)) = W at *)
  rw [NK.out]
  refine (iskey_yes _ _ _).mono ?_
  rintro e W ⟨rfl, rfl⟩
  go_wp2_with fail
  have SX : (W.alloc (.cells #[.int .i64 (d.length : Int), .int .i64 0, .int .i64 600] 70)).heap[W.heap.size]? = some (.cells #[.int .i64 (d.length : Int), .int .i64 0, .int .i64 600] 70) := heap_alloc_new W _
  refine (within1 (d.length : Int) 0 600 W.heap.size _ SX).mono ?_
  rintro e w3 ⟨rfl, hM⟩
  replace hM := (below_alloc1 W (.cells #[.int .i64 (d.length : Int), .int .i64 0, .int .i64 600] 70)).trans (hM.mono (by simp))
  replace VR := hid (var_below hM VR.out)
  replace V4 := hid (V4.out.below hM)
  replace BX := hid (BX.out.trans (hM.mono BX.out.size))
  rw [WI.out]
  clear hM C4 C5 SX SZ
  obtain ⟨f1, f2, f3, f4⟩ := var2_facts VR.out
  have hset := hid (var2_set (x' := .int .i64 2) (y' := .slice none 0 0) VR.out)
  have hbel := hid (below_set2 (x := .int .i64 2) (y := .slice none 0 0) BX.out (Nat.le_refl _))
  go_wp2
  exact bodyPost_ret (v := .agg #[.int .i64 2, .slice none 0 0]) (results_cell_row rfl _ _ w.heap.size 24 _ _ _ rfl hset.out Try.underlying24 rfl (by kernel_rfl)) rfl ⟨rfl, hbel.out⟩

set_option maxHeartbeats 2000000 in
set_option maxRecDepth 100000 in
theorem sx1_ok (gk gb gd : Nat) (vk vb vd : Value) (k b d : List Nat) (w : World) (ck : Bx w gk vk) (cb : Bx w gb vb) (cd : Bx w gd vd) (hk : Rd w vk k) (hb : Rd w vb b) (hd : Rd w vd d) (yk : Byt k) (yb : Byt b) (yd : Byt d) (nb : b.length = 16) (nk : k.length = 16) (nd : d.length ≤ 600) :
    Calls Try.prog 46 #[.pointer (some ⟨gb, 0, none⟩), .pointer (some ⟨gk, 0, none⟩), .pointer (some ⟨gd, 0, none⟩)] w fun e w' => ∃ r, e = .returned (.agg #[.int .i64 0, r]) ∧ Owx w' w.heap.size r (strm (kf k) b d) ∧ Below w.heap.size w w' := by
  obtain ⟨pk, capk, rfl, -, -, -⟩ := hk.parts
  obtain ⟨pb, capb, rfl, -, -, -⟩ := hb.parts
  obtain ⟨pd, capd, rfl, -, -, -⟩ := hd.parts
  have B0 := below_alloc1 w (.cells #[.int .i64 0, .slice none 0 0] 24)
  have V0 := heap_alloc_new w (.cells #[.int .i64 0, .slice none 0 0] 24)
  have CB : (w.alloc (.cells #[.int .i64 0, .slice none 0 0] 24)).cell? ⟨gb, 0, none⟩ = some _ := cb.below B0
  have CK := hid ck
  have CD := hid cd
  have HR := hid (hb.below B0)
  have HK := hid hk
  have HD := hid hd
  have VH := hid V0
  have BH := hid B0
  have NB := hid nb
  clear ck cb cd hk hb hd V0 B0 nb
  go_enter Try.func46, Try.ntmps46
  go_wp2_with fail
  have NK := hid nk
  have WI := hid (show inB (d.length : Int) 0 600 = true by unfold inB; rw [decide_eq_true (by omega)])
  have ND := hid nd
  clear nk
  refine (blkof _ b _ HR.out NB.out).mono ?_
  rintro e w1 ⟨rfl, hM⟩
  replace VH := hid (var_below hM VH.out)
  replace BH := hid (BH.out.trans (hM.mono BH.out.size))
  clear CB HR hM
  have hz2 := hid (BH.out.size)
  have hz3 := hid (var_lt VH.out)
  have ZB := hid (blk_size b NB.out)
  have V3 := hid (show Ar _ _ _ (zs 16) from heap_alloc_new w1 (.cells #[.int .u8 0, .int .u8 0, .int .u8 0, .int .u8 0, .int .u8 0, .int .u8 0, .int .u8 0, .int .u8 0, .int .u8 0, .int .u8 0, .int .u8 0, .int .u8 0, .int .u8 0, .int .u8 0, .int .u8 0, .int .u8 0] 63))
  have VR := hid (show (((w1.alloc (.cells #[.int .u8 0, .int .u8 0, .int .u8 0, .int .u8 0, .int .u8 0, .int .u8 0, .int .u8 0, .int .u8 0, .int .u8 0, .int .u8 0, .int .u8 0, .int .u8 0, .int .u8 0, .int .u8 0, .int .u8 0, .int .u8 0] 63)).setRow w1.heap.size (arr b)).heap[w.heap.size]? = some (.cells #[.int .i64 0, .slice none 0 0] 24)) by
    rw [setRow_other _ _ _ _ (show w.heap.size ≠ w1.heap.size by have := hz3.out; omega)]
    exact var_alloc _ VH.out)
  have BX := hid (below_row (BH.out.alloc hz2.out (.cells #[.int .u8 0, .int .u8 0, .int .u8 0, .int .u8 0, .int .u8 0, .int .u8 0, .int .u8 0, .int .u8 0, .int .u8 0, .int .u8 0, .int .u8 0, .int .u8 0, .int .u8 0, .int .u8 0, .int .u8 0, .int .u8 0] 63)) (g := w1.heap.size) hz2.out (arr b))
  have V4 := hid (V3.out.row (l' := b))
  have SZ := hid (show ((w1.alloc (.cells #[.int .u8 0, .int .u8 0, .int .u8 0, .int .u8 0, .int .u8 0, .int .u8 0, .int .u8 0, .int .u8 0, .int .u8 0, .int .u8 0, .int .u8 0, .int .u8 0, .int .u8 0, .int .u8 0, .int .u8 0, .int .u8 0] 63)).setRow w1.heap.size (arr b)).heap.size = w1.heap.size + 1 by simp)
  clear VH BH
  have C4 : ((w1.alloc (.cells #[.int .u8 0, .int .u8 0, .int .u8 0, .int .u8 0, .int .u8 0, .int .u8 0, .int .u8 0, .int .u8 0, .int .u8 0, .int .u8 0, .int .u8 0, .int .u8 0, .int .u8 0, .int .u8 0, .int .u8 0, .int .u8 0] 63)).setRow w1.heap.size (arr b)).cell? ⟨gk, 0, none⟩ = some _ := cell_kept BX.out CK.out
  have C5 : ((w1.alloc (.cells #[.int .u8 0, .int .u8 0, .int .u8 0, .int .u8 0, .int .u8 0, .int .u8 0, .int .u8 0, .int .u8 0, .int .u8 0, .int .u8 0, .int .u8 0, .int .u8 0, .int .u8 0, .int .u8 0, .int .u8 0, .int .u8 0] 63)).setRow w1.heap.size (arr b)).cell? ⟨gd, 0, none⟩ = some _ := cell_kept BX.out CD.out
  go_wp2_with (refine wpList_store_row rfl 63 _ _ rfl w1.heap.size (arr b) rfl rfl 63 _ V3.out ZB.out (by rw [arr_size, arr_size, NB.out]; rfl) (arr_one _) ?_; generalize ((w1.alloc (.cells #[.int .u8 0, .int .u8 0, .int .u8 0, .int .u8 0, .int .u8 0, .int .u8 0, .int .u8 0, .int .u8 0, .int .u8 0, .int .u8 0, .int .u8 0, .int .u8 0, .int .u8 0, .int .u8 0, .int .u8 0, .int .u8 0] 63)).setRow w1.heap.size (arr b)) = W at *)
  rw [NK.out]
  refine (iskey_yes _ _ _).mono ?_
  rintro e W ⟨rfl, rfl⟩
  go_wp2_with fail
  have SX : (W.alloc (.cells #[.int .i64 (d.length : Int), .int .i64 0, .int .i64 600] 70)).heap[W.heap.size]? = some (.cells #[.int .i64 (d.length : Int), .int .i64 0, .int .i64 600] 70) := heap_alloc_new W _
  refine (within1 (d.length : Int) 0 600 W.heap.size _ SX).mono ?_
  rintro e w3 ⟨rfl, hM⟩
  replace hM := (below_alloc1 W (.cells #[.int .i64 (d.length : Int), .int .i64 0, .int .i64 600] 70)).trans (hM.mono (by simp))
  replace VR := hid (var_below hM VR.out)
  replace V4 := hid (V4.out.below hM)
  replace BX := hid (BX.out.trans (hM.mono BX.out.size))
  rw [WI.out]
  clear hM C4 C5 SX SZ
  have HKW := hid (HK.out.below BX.out)
  obtain ⟨b1, o1, e1⟩ : ∃ b1 o1, pk = some ⟨b1, o1, none⟩ := by
    obtain ⟨a, c, e, -, -, hc⟩ := HK.out
    obtain ⟨b1, o1, q, -⟩ := hc 0 (by rw [NK.out]; omega)
    cases e
    exact ⟨b1, o1, q⟩
  subst e1
  have RK := hid (rd_range HK.out)
  have ZK := hid (key_size k NK.out)
  have ZB2 := hid (blk_size b NB.out)
  rw [NK.out] at CK
  have P1 := arr_at 62 5 16 Try.underlying62 (some ⟨b1, o1, none⟩) 16 capk (Nat.le_refl _)
  have CK2 : Hid (Bx w gk (.slice (some ⟨b1, o1, none⟩) 16 capk)) := CK
  go_wp2_with fail
  have V1 : w3.drew.heap[w.heap.size]? = some (.cells #[.int .i64 0, .slice none 0 0] 24) := VR.out
  refine wp_region_held_drew (S := fun w' => Below w.heap.size w w' ∧ Ar w' w1.heap.size 63 b) (by kernel_rfl) ⟨BX.out.drew, V4.out.drew⟩ (fun hH => ?_)
  refine wpAnyH_take (i := 0) (v := .slice (some ⟨b1, o1, none⟩) 16 capk) (by simp only [List.getElem?_toArray, List.getElem?_cons_zero]; rfl) (by kernel_rfl) (by kernel_rfl) (by kernel_rfl) (by intro _ _ _ h; exact h) (Or.inl ⟨by rfl, fun w hS => by have c := CK2.out.below hS.1; unfold Bx at c; go_simp⟩) hH ?_
  simp only [Act.put, List.setIfInBounds_toArray, List.set_cons_zero, List.set_cons_succ]
  refine wpAnyH_take (i := 1) (v := .pointer (some ⟨b1, o1, none⟩)) (by simp only [List.getElem?_toArray, List.getElem?_cons_succ, List.getElem?_cons_zero]; rfl) (by kernel_rfl) (by kernel_rfl) (by kernel_rfl) (by intro _ _ _ h; exact h) (Or.inl ⟨by rfl, fun w hS => by go_simp⟩) hH ?_
  simp only [Act.put, List.setIfInBounds_toArray, List.set_cons_zero, List.set_cons_succ]
  refine wpAnyH_take (i := 2) (v := .agg (arr k)) (by simp only [List.getElem?_toArray, List.getElem?_cons_succ, List.getElem?_cons_zero]; rfl) (by kernel_rfl) (by kernel_rfl) (by kernel_rfl) (by intro _ _ _ h; exact h) (yieldsIf_load_mid (by rfl) _ _ rfl b1 o1 rfl (k.map bv) _ (fun w hS => rangeAt.below RK.out hS.1) Try.underlying62 rfl (by rw [List.length_map, ← arr_size]; exact ZK.out)) hH ?_
  simp only [Act.put, List.setIfInBounds_toArray, List.set_cons_zero, List.set_cons_succ]
  refine wpAnyH_take (i := 4) (v := .agg (arr b)) (by simp only [List.getElem?_toArray, List.getElem?_cons_succ, List.getElem?_cons_zero]; rfl) (by kernel_rfl) (by kernel_rfl) (by kernel_rfl) (by intro _ _ _ h; exact h) (yieldsIf_load_mid (by rfl) _ _ rfl w1.heap.size 0 rfl (b.map bv) _ (fun w hS => ar_all hS.2) Try.underlying63 rfl (by rw [List.length_map, ← arr_size]; exact ZB2.out)) hH ?_
  simp only [Act.put, List.setIfInBounds_toArray, List.set_cons_zero, List.set_cons_succ]
  refine wpAnyH_take (i := 5) (v := .slice pd d.length capd) (by simp only [List.getElem?_toArray, List.getElem?_cons_succ, List.getElem?_cons_zero]; rfl) (by kernel_rfl) (by kernel_rfl) (by kernel_rfl) (by intro _ _ _ h; exact h) (Or.inl ⟨by rfl, fun w hS => by have c := CD.out.below hS.1; unfold Bx at c; go_simp⟩) hH ?_
  simp only [Act.put, List.setIfInBounds_toArray, List.set_cons_zero, List.set_cons_succ]
  generalize w3.drew = x at hH V1 ⊢
  refine wpAnyH_ready (rs := [3]) (by kernel_rfl) (by simp) ?_
  refine AllReadyH.cons (by simp only [List.getElem?_toArray, List.getElem?_cons_succ, List.getElem?_cons_zero]; rfl) (fun K hK => ?_) AllReadyH.nil
  go_simp
  refine (cipof k _ NK.out yk).mono ?_
  rintro e x3 ⟨g, rfl, C, hg, hM⟩
  refine hK.out _ _ ⟨hH.1.trans (hM.mono hH.1.size), hH.2.below hM⟩ (fun hH => ?_)
  clear hK K
  replace V1 := var_below hM V1
  clear hM
  refine wpAnyH_ready (rs := [6]) (by kernel_rfl) (by simp) ?_
  refine AllReadyH.cons (by simp only [List.getElem?_toArray, List.getElem?_cons_succ, List.getElem?_cons_zero]; rfl) (fun K hK => ?_) AllReadyH.nil
  go_simp
  refine (istream g b _ d (kf k) _ C (kf_lt k yk) NB.out yb (HD.out.below hH.1) yd (by have := ND.out; omega)).mono ?_
  rintro e x6 ⟨rfl, O, hM⟩
  refine hK.out _ _ ⟨hH.1.trans (hM.mono hH.1.size), hH.2.below hM⟩ (fun hH => ?_)
  clear hK K
  have hz6 := var_lt V1
  have hz7 := hH.1.size
  replace V1 := var_below hM V1
  clear hM C
  generalize x3.heap.size = z3 at *
  refine wpAnyH_ready (rs := [7]) (by kernel_rfl) (by simp) ?_
  refine AllReadyH.cons (by simp only [List.getElem?_toArray, List.getElem?_cons_succ, List.getElem?_cons_zero]; rfl) (fun K hK => ?_) AllReadyH.nil
  go_simp
  refine hK.out _ _ hH (fun hH => ?_)
  clear hK K
  obtain ⟨f1, f2, f3, f4⟩ := var2_facts V1
  have hset := hid (var2_set (x' := .int .i64 0) (y' := .slice (some ⟨z3 + 1, 0, none⟩) d.length d.length) V1)
  have hbel := hid (below_set2 (x := .int .i64 0) (y := .slice (some ⟨z3 + 1, 0, none⟩) d.length d.length) hH.1 (Nat.le_refl _))
  have hown := hid ((O.set2 (g := w.heap.size) (x := .int .i64 0) (y := .slice (some ⟨z3 + 1, 0, none⟩) d.length d.length) hz6).mono (base' := w.heap.size) (by omega)).x
  have har := hid (Ar.far (Ar.far hH.2 (g' := w.heap.size) (k := 0) (.int .i64 0) (by have := hz3.out; omega)) (g' := w.heap.size) (k := 1) (.slice (some ⟨z3 + 1, 0, none⟩) d.length d.length) (by have := hz3.out; omega))
  clear V1 O
  refine wpAnyH_ready (rs := [8]) (by kernel_rfl) (by simp) ?_
  refine AllReadyH.cons (by simp only [List.getElem?_toArray, List.getElem?_cons_succ, List.getElem?_cons_zero]; rfl) (fun K hK => ?_) AllReadyH.nil
  go_simp
  refine hK.out _ _ ⟨hbel.out, har.out⟩ (fun _ => ?_)
  clear hK K
  refine wpAnyH_done (by kernel_rfl) ?_ _
  go_wp2
  exact bodyPost_ret (v := .agg #[.int .i64 0, .slice (some ⟨z3 + 1, 0, none⟩) d.length d.length]) (results_cell_row rfl _ _ w.heap.size 24 _ _ _ rfl hset.out Try.underlying24 rfl (by kernel_rfl)) rfl ⟨_, rfl, hown.out, hbel.out⟩
end Go.Proofs.Ytckgjghpfjinfai.W

namespace Go.Proofs.Ytckgjghpfjinfai.W
open Go.ChangeShapes Go.WideShapes Go.ChangeAt Go.RowKit
open Go.Proofs.Ytckgjghpfjinfai.M

theorem run_into {f : FuncId} {fn : Func} {c : Code} (hf : Try.prog.funcs[f]? = some fn) (hn : (fn.name == "runtime.NumGoroutine") = false) (hb : fn.body = some c) (a : Array Value) (w : World) : (callFunc f a).run Try.prog w = .ok (.enter f a) w := by
  have hn' : ¬ fn.name = "runtime.NumGoroutine" := by simpa using hn
  simp [callFunc, hf, hn', hb, go_sem]
theorem catch_panic (g : Nat) (u : TypeId) (pv x y : Value) (w : World) (hv : w.heap[g]? = some (.cells #[x, y] 24)) :
    CallsD Try.prog 72 #[.pointer (some ⟨g, 0, none⟩)] (.panicking [{ v := .iface u pv, recovered := false }]) w fun e u' w' =>
      e = .returned (.tuple #[]) ∧ u' = .panicking [{ v := .iface u pv, recovered := true }] ∧ w' = (w.setCell ⟨g, 0, none⟩ (.int .i64 2)).setCell ⟨g, 1, none⟩ (.slice none 0 0) := by
  obtain ⟨f1, f2, f3, f4⟩ := var2_facts hv
  refine callsD_of_wpS Try.func72 rfl fun c₀ cs hu => ?_
  apply wpS_seq
  apply wpS_region
  simp [wpOpsS, go_sem, recoverD, hu, Try.ntmps72, Exit.thenS]
  refine wpS_cond (t := true) (by simp [Act.eval, Array.replicate]) ?_
  simp only [if_true]
  refine wpS_of_wp ?_
  go_wp2
  simp [bodyPostS, results, Try.results72]
theorem catch_idle (p : Addr) (w : World) :
    CallsD Try.prog 72 #[.pointer (some p)] .returning w fun e u' w' => e = .returned (.tuple #[]) ∧ u' = .returning ∧ w' = w := by
  refine callsD_of_wpS Try.func72 rfl fun c₀ cs hu => ?_
  apply wpS_seq
  apply wpS_region
  simp [wpOpsS, go_sem, recoverD, hu, Try.ntmps72, Exit.thenS]
  refine wpS_cond (t := false) (by simp [Act.eval, Array.replicate]) ?_
  simp only [Bool.false_eq_true, if_false]
  refine wpS_of_wp (wp_skip ?_)
  cases c₀
  simp_all [bodyPostS, results, Try.results72]

set_option maxRecDepth 100000 in
theorem face_ok (k : Nat) (caps : Array Value) (c : Int) (l : List Nat) (w : World) (hE : ∀ w : World, (callFunc k caps).run Try.prog w = .ok (.enter k caps) w)
    (hC : Calls Try.prog k caps (w.alloc (.cells #[.int .i64 0, .slice none 0 0] 24)) fun e w' => ∃ v, e = .returned (.agg #[.int .i64 c, v]) ∧ Owx w' (w.heap.size + 1) v l ∧ Below (w.heap.size + 1) (w.alloc (.cells #[.int .i64 0, .slice none 0 0] 24)) w') :
    Calls Try.prog 38 #[.func (.func k) #[] caps] w fun e w' => ∃ v, e = .returned (.agg #[.int .i64 c, v]) ∧ Owx w' w.heap.size v l ∧ Below w.heap.size w w' := by
  have hmf : ∀ (fn : Fn) (first cap : Array Value) (w : World), (Instr.makeFunc fn first cap).run Try.prog w = .ok (.func fn first cap) w := fun _ _ _ _ => rfl
  replace hC := hid hC
  go_enter_defers Try.func38, Try.ntmps38
  go_wp2_with fail
  refine hC.out.mono ?_
  rintro e w1 ⟨v, rfl, O, B⟩
  have V := var_keep B (heap_alloc_new w (.cells #[.int .i64 0, .slice none 0 0] 24)) (by omega)
  obtain ⟨f1, f2, f3, f4⟩ := var2_facts V
  have B1 := (below_alloc1 w (.cells #[.int .i64 0, .slice none 0 0] 24)).trans (B.mono (by omega))
  obtain ⟨q, cp, rfl, -, -, -⟩ := O.rd.parts
  have hset := hid (var2_set (x' := .int .i64 c) (y' := .slice q l.length cp) V)
  have hbel := hid (below_set2 (x := .int .i64 c) (y := .slice q l.length cp) B1 (Nat.le_refl _))
  have hown := hid ((O.set2 (g := w.heap.size) (x := .int .i64 c) (y := .slice q l.length cp) (by omega)).mono (base' := w.heap.size) (by omega))
  clear V B B1 O hC
  go_wp2
  refine leaves_cons (f := 72) (args := #[.pointer (some ⟨w.heap.size, 0, none⟩)]) (by simp) (by simp [go_sem]) ?_
  refine (catch_idle _ _).mono ?_
  rintro e u' w'' ⟨rfl, rfl, rfl⟩
  exact ⟨.agg #[.int .i64 c, .slice q l.length cp], results_cell_row rfl _ _ w.heap.size 24 _ _ _ rfl hset.out Try.underlying24 rfl (by kernel_rfl), _, rfl, hown.out, hbel.out⟩

set_option maxRecDepth 100000 in
theorem face_no (k : Nat) (caps : Array Value) (u : TypeId) (pv : Value) (w : World) (hE : ∀ w : World, (callFunc k caps).run Try.prog w = .ok (.enter k caps) w)
    (hC : Calls Try.prog k caps (w.alloc (.cells #[.int .i64 0, .slice none 0 0] 24)) fun e w' => e = .panicked [{ v := .iface u pv, recovered := false }] ∧ Below (w.heap.size + 1) (w.alloc (.cells #[.int .i64 0, .slice none 0 0] 24)) w') :
    Calls Try.prog 38 #[.func (.func k) #[] caps] w fun e w' => e = .returned (.agg #[.int .i64 2, .slice none 0 0]) ∧ Below w.heap.size w w' := by
  have hmf : ∀ (fn : Fn) (first cap : Array Value) (w : World), (Instr.makeFunc fn first cap).run Try.prog w = .ok (.func fn first cap) w := fun _ _ _ _ => rfl
  replace hC := hid hC
  go_enter_defers Try.func38, Try.ntmps38
  go_wp2_with fail
  refine hC.out.mono ?_
  rintro e w1 ⟨rfl, B⟩
  have V := var_keep B (heap_alloc_new w (.cells #[.int .i64 0, .slice none 0 0] 24)) (by omega)
  have B1 := (below_alloc1 w (.cells #[.int .i64 0, .slice none 0 0] 24)).trans (B.mono (by omega))
  have hset := hid (var2_set (x' := .int .i64 2) (y' := .slice none 0 0) V)
  have hbel := hid (below_set2 (x := .int .i64 2) (y := .slice none 0 0) B1 (Nat.le_refl _))
  refine leaves_cons (f := 72) (args := #[.pointer (some ⟨w.heap.size, 0, none⟩)]) (by simp) (by simp [go_sem]) ?_
  refine (catch_panic w.heap.size u pv _ _ _ V).mono ?_
  rintro e u' w'' ⟨rfl, rfl, rfl⟩
  exact ⟨.agg #[.int .i64 2, .slice none 0 0], results_cell_row rfl _ _ w.heap.size 24 _ _ _ rfl hset.out Try.underlying24 rfl (by kernel_rfl), rfl, hbel.out⟩
end Go.Proofs.Ytckgjghpfjinfai.W
