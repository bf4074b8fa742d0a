/-
  The columns of a block mixed, in place: what the program's method mixColumns does.
-/
import Derived.Test.YtflnhjbanlpjiaiBlkSize
import Derived.Test.YtflnhjbanlpjiaiBox
import Derived.Test.YtflnhjbanlpjiaiTpWalks
namespace Go.Proofs.Ytflnhjbanlpjiai.W
open Go.ChangeShapes Go.WideShapes Go.ChangeAt Go.RowKit
open Go.Proofs.Ytflnhjbanlpjiai.M

set_option maxHeartbeats 1000000 in
set_option maxRecDepth 100000 in
theorem mxm (gb : Nat) (l : List Nat) (w : World) (hl : l.length = 16) (y : Byt l) (hA : Ar w gb 39 l) :
    Calls Try.prog 67 #[.pointer (some ⟨gb, 0, none⟩)] w fun e w' => e = .returned (.tuple #[]) ∧ Ar w' gb 39 (mxl l) ∧ w.grownBy w' (some gb) := by
  have hs : (mxl l).length = l.length := by rw [mxl_len, hl]
  have hgl := hA.lt
  have Z := hid (blk_size l hl)
  go_enter Try.func67, Try.ntmps67
  go_wp2_with (first | refine wpList_load_row rfl 39 _ rfl gb rfl 39 (arr l) _ _ hA Try.underlying39 rfl Z.out ?_ | refine wpList_store_row rfl 39 _ _ rfl w.heap.size (arr l) rfl rfl 39 _ (heap_alloc_new w _) Z.out (by rw [arr_size, hl]; rfl) (arr_one _) ?_)
  rw [World.setRow_alloc_new]
  have A0 := hA.alloc (.cells (arr l) 39)
  have N0 := Ar.new w 39 l
  have G0 := World.grownBy_alloc w (.cells (arr l) 39) (some gb)
  clear hA
  go_loopw [3, 4, 5, 6, 10, 21] (fun i q p n j jj wr => ∃ c : Nat, ∃ u v x y z : Value, c ≤ 4 ∧ j = .int .i64 c ∧ i = u ∧ q = y ∧ p = v ∧ n = z ∧ jj = x ∧ Ar wr gb 39 (upd (mxl l) l (4 * c)) ∧ Ar wr w.heap.size 39 l ∧ w.grownBy wr (some gb)) (fun _ _ _ _ j _ _ => 4 - (intOf j).toNat)
  case atStart => exact ⟨0, _, _, _, _, _, by omega, rfl, rfl, rfl, rfl, rfl, rfl, by rw [Nat.mul_zero, upd_zero]; exact A0, N0, G0⟩
  case round =>
    obtain ⟨c, u, v, x, y1, z1, hc, rfl, rfl, rfl, rfl, rfl, rfl, A, N, G⟩ := hrel
    clear A0 N0 G0
    by_cases hlt : c < 4
    · obtain ⟨w1, rfl⟩ : ∃ w1, w1 = wr := ⟨_, rfl⟩
      have c0 : (0 : Int) ≤ (c : Int) := by omega
      have c1 : (c : Int) < 4 := by omega
      have HS : ∀ w' : World, (Instr.sliceAt 39 (.pointer (some ⟨w.heap.size, 0, none⟩)) (some (.int .i64 (4 * (c : Int)))) (some (.int .i64 (4 * ((c : Int) + 1)))) none).run Try.prog w' = .ok (.slice (some ⟨w.heap.size, 4 * c, none⟩) 4 (16 - 4 * c)) w' := fun w' => by
        have hs : ∀ w : World, (sizeOf (Try.prog.elem 39)).run Try.prog w = .ok 1 w := fun _ => by kernel_rfl
        rw [run_sliceAt_array_lh (P := Try.prog) w' 39 _ (by kernel_rfl) .i64 .i64 (4 * (c : Int)) (4 * ((c : Int) + 1)) (by omega) (by omega) (by rw [show Try.prog.arrayLen 39 = 16 by kernel_rfl]; omega), hs]
        have e1 : (4 * (c : Int)).toNat = 4 * c := by omega
        have e2 : (4 * ((c : Int) + 1)).toNat = 4 * c + 4 := by omega
        have e3 : ¬ (16 = 4 * c) := by omega
        simp [Result.andThen, slicedAt, e1, e2, e3, Addr.add_lit, show Try.prog.arrayLen 39 = 16 by kernel_rfl]
      have HP := arr_at 64 5 4 Try.underlying64 (some ⟨w.heap.size, 4 * c, none⟩) 4 (16 - 4 * c) (Nat.le_refl _)
      have hcl := sub_len l (4 * c) 4 (by omega)
      have Z4 := hid (show (Try.prog.info? 64).map (·.size) = some (arr (sub l (4 * c) 4)).size by rw [arr_size, hcl]; kernel_rfl)
      have ZL := hid hcl
      have RG := hid (N.range (4 * c) 4)
      clear hcl
      go_wp2_with (first | refine load_sub rfl 64 _ rfl w.heap.size (4 * c) rfl (sub l (4 * c) 4) RG.out _ Try.underlying64 rfl Z4.out ?_ | refine wpList_store_row rfl 64 _ _ rfl w1.heap.size (arr (sub l (4 * c) 4)) rfl rfl 64 _ (heap_alloc_new w1 _) Z4.out (by rw [arr_size, ZL.out]; rfl) (arr_one _) ?_)
      rw [World.setRow_alloc_new]
      have N1 := N.alloc (.cells (arr (sub l (4 * c) 4)) 64)
      have A1 := A.alloc (.cells (arr (sub l (4 * c) 4)) 64)
      have C1 := Ar.new w1 64 (sub l (4 * c) 4)
      have G1 := grown_trans G (World.grownBy_alloc w1 (.cells (arr (sub l (4 * c) 4)) 64) (some gb))
      have hz := N.lt
      generalize w1.heap.size = g at *
      clear A N G RG HS HP Z4 Z
      go_loopw [5, 6, 21] (fun p n jj ws => ∃ r : Nat, ∃ v z : Value, r ≤ 4 ∧ jj = .int .i64 r ∧ p = v ∧ n = z ∧ Ar ws gb 39 (upd (mxl l) l (4 * c + r)) ∧ Ar ws w.heap.size 39 l ∧ Ar ws g 64 (sub l (4 * c) 4) ∧ w.grownBy ws (some gb)) (fun _ _ jj _ => 4 - (intOf jj).toNat)
      case atStart => exact ⟨0, _, _, by omega, rfl, rfl, rfl, A1, N1, C1, G1⟩
      case round =>
        obtain ⟨r, v, z, hr, rfl, rfl, rfl, A2, N2, C2, G2⟩ := hrel
        clear A1 N1 C1 G1
        by_cases hlr : r < 4
        · have hcl := ZL.out
          obtain ⟨n1, h1⟩ : ∃ n, n = (r + 1) % 4 := ⟨_, rfl⟩
          obtain ⟨n2, h2⟩ : ∃ n, n = (r + 2) % 4 := ⟨_, rfl⟩
          obtain ⟨n3, h3⟩ : ∃ n, n = (r + 3) % 4 := ⟨_, rfl⟩
          obtain ⟨t, ht⟩ : ∃ t, t = 4 * c + r := ⟨_, rfl⟩
          have d0 := C2.cell r (by omega)
          have d1 := C2.cell n1 (by omega)
          have d2 := C2.cell n2 (by omega)
          have d3 := C2.cell n3 (by omega)
          have b0 : gt (sub l (4 * c) 4) r = gt l (4 * c + r) := sub_gt _ _ _ _ (by omega)
          have b1 : gt (sub l (4 * c) 4) n1 = gt l (4 * c + n1) := sub_gt _ _ _ _ (by omega)
          have b2 : gt (sub l (4 * c) 4) n2 = gt l (4 * c + n2) := sub_gt _ _ _ _ (by omega)
          have b3 : gt (sub l (4 * c) 4) n3 = gt l (4 * c + n3) := sub_gt _ _ _ _ (by omega)
          rw [b0] at d0
          rw [b1] at d1
          rw [b2] at d2
          rw [b3] at d3
          have x0 := gt_byt l y (4 * c + r)
          have x1 := gt_byt l y (4 * c + n1)
          have x2 := gt_byt l y (4 * c + n2)
          have x3 := gt_byt l y (4 * c + n3)
          have e : gt (mxl l) t = (((xt (gt l (4 * c + r)) ^^^ xt (gt l (4 * c + n1))) ^^^ gt l (4 * c + n1)) ^^^ gt l (4 * c + n2)) ^^^ gt l (4 * c + n3) := by
            have hm := mxl_len l
            rw [gt_eq (mxl l) _ (by omega)]
            simp only [mxl, List.getElem_map, List.getElem_range, mxb]
            unfold gt
            rw [show t / 4 * 4 + (t + 0) % 4 = 4 * c + r by omega, show t / 4 * 4 + (t + 1) % 4 = 4 * c + n1 by omega, show t / 4 * 4 + (t + 2) % 4 = 4 * c + n2 by omega, show t / 4 * 4 + (t + 3) % 4 = 4 * c + n3 by omega, Nat.xor_assoc (xt _) (xt _)]
          have c2 : ∃ u, wr.cell? ⟨gb, t, none⟩ = some u := ⟨_, A2.cell t (by rw [upd_len _ _ hs]; omega)⟩
          obtain ⟨u2, c2⟩ := c2
          have f2 := A2.open t
          have S := A2.stored (4 * c + r) (gt (mxl l) (4 * c + r))
          rw [upd_set _ _ hs _ (by omega), ← ht] at S
          have SG := grown_cell G2 t (.int .u8 (gt (mxl l) t : Nat))
          have SN := N2.far (g' := gb) (k := t) (.int .u8 (gt (mxl l) t : Nat)) (by omega)
          have SC := C2.far (g' := gb) (k := t) (.int .u8 (gt (mxl l) t : Nat)) (by omega)
          have k0 := SC.cell r (by omega)
          have k2 := SC.cell n2 (by omega)
          have k3 := SC.cell n3 (by omega)
          rw [b0] at k0
          rw [b2] at k2
          rw [b3] at k3
          generalize gt l (4 * c + r) = a0 at *
          generalize gt l (4 * c + n1) = a1 at *
          generalize gt l (4 * c + n2) = a2 at *
          generalize gt l (4 * c + n3) = a3 at *
          generalize gt (mxl l) t = m at *
          have y0 := xt_lt a0
          have y1 := xt_lt a1
          have E : bits .xor .u8 (bits .xor .u8 (bits .xor .u8 (bits .xor .u8 (xt a0 : Nat) (xt a1 : Nat)) (a1 : Nat)) (a2 : Nat)) (a3 : Nat) = ((m : Nat) : Int) := by
            rw [xor8 _ _ y0 y1, xor8 _ _ (xor_lt _ _ y0 y1) x1, xor8 _ _ (xor_lt _ _ (xor_lt _ _ y0 y1) x1) x2, xor8 _ _ (xor_lt _ _ (xor_lt _ _ (xor_lt _ _ y0 y1) x1) x2) x3, e]
          clear e b0 b1 b2 b3 A2 N2 C2 G2
          replace S := hid S
          replace SG := hid SG
          replace SN := hid SN
          replace SC := hid SC
          have KP := hid (And.intro k0 (And.intro k2 k3))
          clear k0 k2 k3
          replace hs := hid hs
          have e1 : ((r : Int) + 1) % 4 = (n1 : Int) := by omega
          have e2 : ((r : Int) + 2) % 4 = (n2 : Int) := by omega
          have e3 : ((r : Int) + 3) % 4 = (n3 : Int) := by omega
          have e4 : 4 * (c : Int) + r = (t : Int) := by omega
          have q1 : (n1 : Int) < 4 := by omega
          have q2 : (n2 : Int) < 4 := by omega
          have q3 : (n3 : Int) < 4 := by omega
          have q4 : (t : Int) < 16 := by omega
          have p1 : (0 : Int) ≤ (n1 : Int) := by omega
          have p2 : (0 : Int) ≤ (n2 : Int) := by omega
          have p3 : (0 : Int) ≤ (n3 : Int) := by omega
          have p4 : (0 : Int) ≤ (t : Int) := by omega
          have r0 : (0 : Int) ≤ (r : Int) := by omega
          have r1 : (r : Int) < 4 := by omega
          have v1 : IntKind.i64.wrap ((r : Int) + 2) = (r : Int) + 2 := by rw [IntKind.wrap_i64]; omega
          have v2 : IntKind.i64.wrap ((r : Int) + 3) = (r : Int) + 3 := by rw [IntKind.wrap_i64]; omega
          have v3 : IntKind.i64.wrap (4 * (c : Int)) = 4 * (c : Int) := by rw [IntKind.wrap_i64]; omega
          have v4 : IntKind.i64.wrap (t : Int) = (t : Int) := by rw [IntKind.wrap_i64]; omega
          have v5 : ((r : Int) + 2).tmod 4 = (n2 : Int) := by rw [Int.tmod_eq_emod_of_nonneg (by omega)]; omega
          have v6 : ((r : Int) + 3).tmod 4 = (n3 : Int) := by rw [Int.tmod_eq_emod_of_nonneg (by omega)]; omega
          have v7 : IntKind.i64.wrap (n2 : Int) = (n2 : Int) := by rw [IntKind.wrap_i64]; omega
          have v8 : IntKind.i64.wrap (n3 : Int) = (n3 : Int) := by rw [IntKind.wrap_i64]; omega
          have ht' := hid ht
          clear h1 h2 h3 ht
          have KT : (wr.setCell ⟨gb, t, none⟩ (.int .u8 (m : Nat))).drew.cell? ⟨g, r, none⟩ = some (.int .u8 (a0 : Nat)) ∧ (wr.setCell ⟨gb, t, none⟩ (.int .u8 (m : Nat))).drew.cell? ⟨g, n2, none⟩ = some (.int .u8 (a2 : Nat)) ∧ (wr.setCell ⟨gb, t, none⟩ (.int .u8 (m : Nat))).drew.cell? ⟨g, n3, none⟩ = some (.int .u8 (a3 : Nat)) := KP.out
          clear KT
          go_wp2_with fail
          go_region_held3 (fun w' => w'.cell? ⟨g, r, none⟩ = some (.int .u8 (a0 : Nat)) ∧ w'.cell? ⟨g, n2, none⟩ = some (.int .u8 (a2 : Nat)) ∧ w'.cell? ⟨g, n3, none⟩ = some (.int .u8 (a3 : Nat))) (first | exact KP.out | go_keep) ((go_at_call 61; refine (tp1 _ ?_ _).mono ?_; (first | exact x0 | exact x1); rintro e w' ⟨rfl, rfl⟩))
          go_wp2
          exact ⟨⟨r + 1, _, _, by omega, by go_num, rfl, rfl, by rw [show 4 * c + (r + 1) = t + 1 by have := ht'.out; omega]; exact S.out.drew, SN.out.drew, SC.out.drew, grown_drew SG.out⟩, by simp [intOf]; omega⟩
        · have hr4 : r = 4 := by omega
          subst hr4
          go_wp2
          exact ⟨⟨c + 1, _, _, _, _, _, by omega, by go_num, rfl, rfl, rfl, rfl, rfl, A2, N2, G2⟩, by simp [intOf]; omega⟩
    · have hc4 : c = 4 := by omega
      subst hc4
      rw [upd_end _ _ hs (4 * 4) (by omega)] at A
      go_wp2
      go_end0
      exact ⟨rfl, A, G⟩
end Go.Proofs.Ytflnhjbanlpjiai.W
