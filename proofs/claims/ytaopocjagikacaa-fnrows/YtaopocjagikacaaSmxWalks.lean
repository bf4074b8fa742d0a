/-
  Columns mixed: what the model's l2Mix and MixColumns answer.
-/
import Derived.Test.YtaopocjagikacaaBlkC
import Derived.Test.YtaopocjagikacaaBox
import Derived.Test.YtaopocjagikacaaSftWalks
namespace Go.Proofs.Ytaopocjagikacaa.W
open Go.ChangeShapes Go.WideShapes Go.ChangeAt Go.RowKit
open Go.Proofs.Ytaopocjagikacaa.M

theorem sftz (a : Nat) (z : Int) (ha : a < 256) (hz : 0 ≤ z ∧ z < 256) (w : World) :
    Calls Try.prog 14 #[.int .u8 (a : Int), .int .u8 z] w fun e w' => e = .returned (.int .u8 (ft a z.toNat : Nat)) ∧ w' = w := by
  obtain ⟨c, rfl⟩ : ∃ c : Nat, z = c := ⟨z.toNat, by omega⟩
  exact sft a c ha (by omega) w

theorem div4 (k : Nat) : k / 4 * 4 + (k + 0) % 4 = k := by omega
theorem mix_ar (k : Nat) (hk : k < 16) : ∃ c r n1 n2 n3 t1 t2 t3 : Nat, n1 = k / 4 * 4 + (k + 1) % 4 ∧ n2 = k / 4 * 4 + (k + 2) % 4 ∧ n3 = k / 4 * 4 + (k + 3) % 4 ∧ n1 < 16 ∧ n2 < 16 ∧ n3 < 16 ∧ (k : Int) / 4 * 4 = (c : Int) ∧ (k : Int) % 4 = (r : Int) ∧ (0 : Int) ≤ (r : Int) ∧ (r : Int) < 4 ∧ (0 : Int) ≤ (k : Int) ∧ (k : Int) < 16 ∧ (0 : Int) ≤ (n1 : Int) ∧ (0 : Int) ≤ (n2 : Int) ∧ (0 : Int) ≤ (n3 : Int) ∧ (n1 : Int) < 16 ∧ (n2 : Int) < 16 ∧ (n3 : Int) < 16 ∧ IntKind.i64.wrap ((r : Int) + 1) = (r : Int) + 1 ∧ IntKind.i64.wrap ((r : Int) + 2) = (r : Int) + 2 ∧ IntKind.i64.wrap ((r : Int) + 3) = (r : Int) + 3 ∧ ((r : Int) + 1).tmod 4 = (t1 : Int) ∧ ((r : Int) + 2).tmod 4 = (t2 : Int) ∧ ((r : Int) + 3).tmod 4 = (t3 : Int) ∧ ((r : Int) + 1) % 4 = (t1 : Int) ∧ ((r : Int) + 2) % 4 = (t2 : Int) ∧ ((r : Int) + 3) % 4 = (t3 : Int) ∧ (c : Int) + (t1 : Int) = (n1 : Int) ∧ (c : Int) + (t2 : Int) = (n2 : Int) ∧ (c : Int) + (t3 : Int) = (n3 : Int) ∧ IntKind.i64.wrap (t1 : Int) = (t1 : Int) ∧ IntKind.i64.wrap (t2 : Int) = (t2 : Int) ∧ IntKind.i64.wrap (t3 : Int) = (t3 : Int) ∧ IntKind.i64.wrap (n1 : Int) = (n1 : Int) ∧ IntKind.i64.wrap (n2 : Int) = (n2 : Int) ∧ IntKind.i64.wrap (n3 : Int) = (n3 : Int) :=
  ⟨k / 4 * 4, k % 4, k / 4 * 4 + (k % 4 + 1) % 4, k / 4 * 4 + (k % 4 + 2) % 4, k / 4 * 4 + (k % 4 + 3) % 4, (k % 4 + 1) % 4, (k % 4 + 2) % 4, (k % 4 + 3) % 4, by omega, by omega, by omega, by omega, by omega, by omega, by omega, by omega, by omega, by omega, by omega, by omega, by omega, by omega, by omega, by omega, by omega, by omega, by rw [IntKind.wrap_i64]; omega, by rw [IntKind.wrap_i64]; omega, by rw [IntKind.wrap_i64]; omega, by rw [Int.tmod_eq_emod_of_nonneg (by omega)]; omega, by rw [Int.tmod_eq_emod_of_nonneg (by omega)]; omega, by rw [Int.tmod_eq_emod_of_nonneg (by omega)]; omega, by omega, by omega, by omega, by omega, by omega, by omega, by rw [IntKind.wrap_i64]; omega, by rw [IntKind.wrap_i64]; omega, by rw [IntKind.wrap_i64]; omega, by rw [IntKind.wrap_i64]; omega, by rw [IntKind.wrap_i64]; omega, by rw [IntKind.wrap_i64]; omega⟩

set_option maxHeartbeats 4000000 in
set_option maxRecDepth 100000 in
theorem l2mx (v : Value) (l : List Nat) (w : World) (h : Rd w v l) (y : Byt l) (hl : l.length = 16) :
    Calls Try.prog 76 #[v] w fun e w' => ∃ r, e = .returned r ∧ Own w' w.heap.size r (mxl l) ∧ Below w.heap.size w w' := by
  obtain ⟨i0, hi, hz0, hz1, hz2⟩ := info_parts info8
  obtain ⟨b, o, cap, rfl, hcap, hb0⟩ := h.spot (by omega)
  have HC := hid (fun i hi => h.cells i hi)
  rw [hl] at hcap ⊢
  have hs : (mxl l).length = (zs 16).length := by rw [mxl_len, zs_len]
  have hzl := zs_len 16
  clear h
  go_enter Try.func76, Try.ntmps76
  go_wp2_with (at_make; refine wpList_make_full _ rfl _ _ 22 rfl w.heap.size 5 i0 (.int .u8 0) 1 Try.underlying22 hi hz0 hz1 .i64 .i64 _ _ 16 rfl rfl rfl rfl (by rw [hz2]; omega) (by unfold maxLen; omega) (Nat.le_refl _) ?_; intro w0 hown0 hgrow0)
  have A1 := (own_made w w0 16 hown0).ar (by simp)
  have hB0 := below_of_grown hgrow0 (Nat.le_refl _) (fun k hk => by simp at hk)
  rw [show List.replicate 16 0 = zs 16 from rfl] at A1
  clear hown0 hgrow0 hi hz0 hz1 hz2
  go_loopw [4, 5, 6] (fun i c r wr => ∃ k : Nat, ∃ u v : Value, k ≤ 16 ∧ i = .int .i64 k ∧ c = u ∧ r = v ∧ Ar wr w.heap.size 5 (upd (mxl l) (zs 16) k) ∧ Below w.heap.size w wr) (fun i _ _ _ => 16 - (intOf i).toNat)
  case atStart => exact ⟨0, _, _, by omega, rfl, rfl, rfl, by rw [upd_zero]; exact A1, hB0⟩
  case round =>
    obtain ⟨k, u, v, hk, rfl, rfl, rfl, A, hB⟩ := hrel
    clear A1 hB0
    by_cases hlt : k < 16
    · obtain ⟨c, r, n1, n2, n3, t1, t2, t3, hn1, hn2, hn3, l1, l2, l3, ec, er, r0, r1, k0, k1, p1, p2, p3, q1, q2, q3, v1, v2, v3, m1, m2, m3, m4, m5, m6, s1, s2, s3, u1, u2', u3', z1, z2, z3⟩ := mix_ar k hlt
      have d0 := cell_kept hB (HC.out k (by rw [hl]; exact hlt))
      have d1 := cell_kept hB (HC.out n1 (by rw [hl]; exact l1))
      have d2 := cell_kept hB (HC.out n2 (by rw [hl]; exact l2))
      have d3 := cell_kept hB (HC.out n3 (by rw [hl]; exact l3))
      have x0 := gt_byt l y k
      have x1 := gt_byt l y n1
      have x2 := gt_byt l y n2
      have x3 := gt_byt l y n3
      have hbne : b ≠ w.heap.size := Nat.ne_of_lt hb0
      have c2 : ∃ u, wr.cell? ⟨w.heap.size, k, none⟩ = some u := ⟨_, A.cell k (by rw [upd_len _ _ hs]; omega)⟩
      obtain ⟨u2, c2⟩ := c2
      have f2 := A.open k
      have e : gt (mxl l) k = ((ft (gt l k) 2 ^^^ ft (gt l n1) 3) ^^^ gt l n2) ^^^ gt l n3 := by
        rw [gt_eq (mxl l) k (by rw [mxl_len]; exact hlt), ft2 _ x0, ft3 _ x1]
        simp only [mxl, List.getElem_map, List.getElem_range, mxb]
        unfold gt
        rw [div4 k, ← hn1, ← hn2, ← hn3]
      have S := A.stored k (gt (mxl l) k)
      rw [upd_set _ _ hs k (by omega)] at S
      have SB := hB.setCell (p := ⟨w.heap.size, k, none⟩) (Nat.le_refl _) (.int .u8 (gt (mxl l) k : Nat))
      have y0 := ft_lt (gt l k) 2 x0
      have y1 := ft_lt (gt l n1) 3 x1
      have KP := hid (show (wr.setCell ⟨w.heap.size, k, none⟩ (.int .u8 (gt (mxl l) k : Nat))).cell? ⟨b, o + k, none⟩ = some (.int .u8 (gt l k : Nat)) ∧ (wr.setCell ⟨w.heap.size, k, none⟩ (.int .u8 (gt (mxl l) k : Nat))).cell? ⟨b, o + n1, none⟩ = some (.int .u8 (gt l n1 : Nat)) ∧ (wr.setCell ⟨w.heap.size, k, none⟩ (.int .u8 (gt (mxl l) k : Nat))).cell? ⟨b, o + n2, none⟩ = some (.int .u8 (gt l n2 : Nat)) ∧ (wr.setCell ⟨w.heap.size, k, none⟩ (.int .u8 (gt (mxl l) k : Nat))).cell? ⟨b, o + n3, none⟩ = some (.int .u8 (gt l n3 : Nat)) from ⟨cell_set_far d0 hbne _, cell_set_far d1 hbne _, cell_set_far d2 hbne _, cell_set_far d3 hbne _⟩)
      have D := hid (And.intro d0 (And.intro d1 (And.intro d2 d3)))
      have E : bits .xor .u8 (bits .xor .u8 (bits .xor .u8 (ft (gt l k) 2 : Nat) (ft (gt l n1) 3 : Nat)) (gt l n2 : Nat)) (gt l n3 : Nat) = ((gt (mxl l) k : Nat) : Int) := by
        rw [xor8 _ _ y0 y1, xor8 _ _ (xor_lt _ _ y0 y1) x2, xor8 _ _ (xor_lt _ _ (xor_lt _ _ y0 y1) x2) x3, e]
      clear e A hB d0 d1 d2 d3
      generalize gt l k = a0 at *
      generalize gt l n1 = a1 at *
      generalize gt l n2 = a2 at *
      generalize gt l n3 = a3 at *
      generalize gt (mxl l) k = m at *
      replace S := hid S
      replace SB := hid SB
      replace hs := hid hs
      clear hn1 hn2 hn3 HC
      go_wp2_with fail
      go_region_held3 (fun w' => w'.cell? ⟨b, o + k, none⟩ = some (.int .u8 (a0 : Nat)) ∧ w'.cell? ⟨b, o + n1, none⟩ = some (.int .u8 (a1 : Nat)) ∧ w'.cell? ⟨b, o + n2, none⟩ = some (.int .u8 (a2 : Nat)) ∧ w'.cell? ⟨b, o + n3, none⟩ = some (.int .u8 (a3 : Nat))) (first | exact KP.out | exact D.out | go_keep) ((go_at_call 14; refine (sftz _ _ ?_ ?_ _).mono ?_; (first | exact x0 | exact x1); (exact ⟨by decide, by decide⟩); rintro e w' ⟨rfl, rfl⟩; (try simp only [Int.toNat_ofNat])))
      go_wp2
      exact ⟨⟨k + 1, _, _, hlt, num_succ k, rfl, rfl, S.out.drew, SB.out.drew⟩, meas 16 k hlt⟩
    · have hk8 : k = 16 := by omega
      subst hk8
      rw [upd_end _ _ hs 16 (by omega)] at A
      go_wp2
      go_ret
      exact ⟨_, rfl, Own.ofAr A (mxl_len l) (Nat.le_refl _) (by unfold maxLen; omega), hB⟩

set_option maxRecDepth 100000 in
theorem smx_ok (v : Value) (l : List Nat) (w : World) (h : Rd w v l) (y : Byt l) (hl : l.length = 16) :
    Calls Try.prog 43 #[v] w fun e w' => ∃ r, e = .returned (.agg #[.int .i64 0, r]) ∧ Owx w' w.heap.size r (mxl l) ∧ Below w.heap.size w w' := by
  have L := hid (fun w => l2mx v l w)
  obtain ⟨b, o, cap, rfl, hcap, hb0⟩ := h.spot (by omega)
  rw [hl] at *
  have A := hid (h.below (below_alloc1 w (.cells #[.int .i64 0, .slice none 0 0] 33)))
  have H2 := hid hl
  clear h hl
  go_enter Try.func43, Try.ntmps43
  go_wp2_with fail
  refine (L.out _ A.out y H2.out).mono ?_
  rintro e w' ⟨r, rfl, hO, hB⟩
  obtain ⟨p, cp, rfl, -, -, -⟩ := hO.rd.parts
  have hv := var2 hB (by simp)
  obtain ⟨f1, f2, f3, f4⟩ := var2_facts hv
  have hset := hid (var2_set (x' := .int .i64 0) (y' := .slice p (mxl l).length cp) hv)
  have hbel := hid (below_set2 (x := .int .i64 0) (y := .slice p (mxl l).length cp) ((below_alloc1 w _).trans (hB.mono (by simp))) (Nat.le_refl _))
  have hown := hid ((hO.set2 (g := w.heap.size) (x := .int .i64 0) (y := .slice p (mxl l).length cp) (by simp)).mono (base' := w.heap.size) (by simp)).x
  clear hv hB hO A L
  go_wp2
  exact bodyPost_ret (v := .agg #[.int .i64 0, .slice p (mxl l).length cp]) (results_cell_row rfl _ _ w.heap.size 33 _ _ _ rfl hset.out Try.underlying33 rfl (by kernel_rfl)) rfl ⟨_, rfl, hown.out, hbel.out⟩

set_option maxRecDepth 100000 in
theorem smx_no (v : Value) (l : List Nat) (w : World) (h : Rd w v l) (hl : l.length ≠ 16) :
    Calls Try.prog 43 #[v] w fun e w' => e = .returned (.agg #[.int .i64 2, .slice none 0 0]) ∧ Below w.heap.size w w' := by
  obtain ⟨p, cap, rfl, -, -, -⟩ := h.parts
  have hne : ((l.length : Int) != 16) = true := by rw [bne_iff_ne]; omega
  clear h
  go_enter Try.func43, Try.ntmps43
  go_wp2
  exact bodyPost_ret (v := .agg #[.int .i64 2, .slice none 0 0]) (by simp [results, Try.results43, go_sem]) rfl ⟨rfl, below_alloc1 w _⟩

theorem smx (v : Value) (l : List Nat) (w : World) (h : Rd w v l) (y : Byt l) :
    Calls Try.prog 43 #[v] w fun e w' => ∃ r, e = .returned (.agg #[.int .i64 (blkC l), r]) ∧ Owx w' w.heap.size r (blkB mxl l) ∧ Below w.heap.size w w' := by
  by_cases hl : l.length = 16
  · rw [show blkC l = 0 by rw [blkC, if_pos hl], show blkB mxl l = mxl l by rw [blkB, if_pos hl]]
    exact smx_ok v l w h y hl
  · rw [show blkC l = 2 by rw [blkC, if_neg hl], show blkB mxl l = [] by rw [blkB, if_neg hl]]
    exact (smx_no v l w h hl).mono fun e w' ⟨he, hb⟩ => ⟨_, he, Owx.nil _ _, hb⟩
end Go.Proofs.Ytaopocjagikacaa.W
