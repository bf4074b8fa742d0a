/-
  A group element as a block, and a slice as a block: the program's blockOfElement, blockOf, groupProduct.
-/
import Derived.Test.YtcmafbgfdddnnaaEltWalks
import Derived.Test.YtcmafbgfdddnnaaBlkWalks
import Derived.Test.YtcmafbgfdddnnaaTimesWalks
namespace Go.Proofs.Ytcmafbgfdddnnaa.W
open Go.ChangeShapes Go.WideShapes Go.ChangeAt Go.RowKit
open Go.Proofs.Ytcmafbgfdddnnaa.M

set_option maxHeartbeats 1000000 in
set_option maxRecDepth 100000 in
theorem blkofel (p : Nat × Nat) (w : World) (hp : G64 p) :
    Calls Try.prog 90 #[.agg (ec p)] w fun e w' => e = .returned (.agg (arr (eb p))) ∧ Below w.heap.size w w' := by
  have HP := hid hp
  clear hp
  have V0 := heap_alloc_new w (.cells (ec p) 87)
  have A1 := Ar.new (w.alloc (.cells (ec p) 87)) 76 (zs 16)
  have A2 := Ar.new ((w.alloc (.cells (ec p) 87)).alloc (.cells (arr (zs 16)) 76)) 76 (zs 16)
  simp only [World.size_alloc] at A1 A2
  have H0 := hid (show El _ _ _ from var_alloc (.cells (arr (zs 16)) 76) (var_alloc (.cells (arr (zs 16)) 76) V0))
  have H1 := hid (A1.alloc (.cells (arr (zs 16)) 76))
  have H2 := hid A2
  have HB := hid (below_alloc3 w (.cells (ec p) 87) (.cells (arr (zs 16)) 76) (.cells (arr (zs 16)) 76))
  clear V0 A1 A2
  go_enter Try.func90, Try.ntmps90
  go_wp2_with fail
  go_loopw [4] (fun i4 ws => ∃ k : Nat, k ≤ 8 ∧ i4 = .int .i64 (7 - (k : Int)) ∧ Hid (El ws w.heap.size (p.1 / 256 ^ k, p.2 / 256 ^ k)) ∧ Hid (Ar ws (w.heap.size + 1) 76 (zs 16)) ∧ Hid (Ar ws (w.heap.size + 1 + 1) 76 (rk (gt (eb p)) k)) ∧ Hid (Below w.heap.size w ws)) (fun i4 _ => (intOf i4 + 1).toNat)
  case atStart => exact ⟨0, by omega, rfl, hid (by rw [Nat.pow_zero, Nat.div_one, Nat.div_one]; exact H0.out), H1, H2, HB⟩
  case round =>
    clear H0 H1 H2 HB
    obtain ⟨k, hk, rfl, H0, H1, H2, HB⟩ := hrel
    by_cases hlt : k < 8
    · obtain ⟨t, ht⟩ : ∃ t : Nat, t + k = 7 := ⟨7 - k, by omega⟩
      rw [show 7 - (k : Int) = (t : Int) by omega]
      obtain ⟨c0, f0⟩ := H0.out.cell0
      obtain ⟨c1, f1⟩ := H0.out.cell1
      simp only at c0 c1
      have d0 := H2.out.cell t (by rw [rk_len]; omega)
      have g0' := H2.out.open t
      have E0 := eb_lo p k t hlt ht
      have E1 := eb_hi p k t (8 + t) hlt ht rfl
      have RS := hid (rk_set (gt (eb p)) k t (8 + t) hlt ht rfl)
      have S1 := H2.out.stored t (gt (eb p) t)
      have d1 := H2.out.cell (8 + t) (by rw [rk_len]; omega)
      have g1' := H2.out.open (8 + t)
      have S2 := (S1.stored (8 + t) (gt (eb p) (8 + t)))
      have S1B := HB.out.setCell (p := ⟨w.heap.size + 1 + 1, t, none⟩) (by show w.heap.size ≤ w.heap.size + 1 + 1; omega) (.int .u8 (gt (eb p) t : Nat))
      have S2B := (S1B.setCell (p := ⟨w.heap.size + 1 + 1, 8 + t, none⟩) (by show w.heap.size ≤ w.heap.size + 1 + 1; omega) (.int .u8 (gt (eb p) (8 + t) : Nat)))
      have S2E := ((H0.out.cfar (g' := w.heap.size + 1 + 1) (k := t) (.int .u8 (gt (eb p) t : Nat)) (by omega)).cfar (g' := w.heap.size + 1 + 1) (k := 8 + t) (.int .u8 (gt (eb p) (8 + t) : Nat)) (by omega))
      have S2R := ((H1.out.far (g' := w.heap.size + 1 + 1) (k := t) (.int .u8 (gt (eb p) t : Nat)) (by omega)).far (g' := w.heap.size + 1 + 1) (k := 8 + t) (.int .u8 (gt (eb p) (8 + t) : Nat)) (by omega))
      rw [RS.out] at S2
      clear S1 S1B RS
      generalize gt (eb p) t = x at *
      generalize gt (eb p) (8 + t) = z at *
      have P0 := hid (pow_step p.1 k)
      have P1 := hid (pow_step p.2 k)
      have q0 : p.1 / 256 ^ k < 18446744073709551616 := Nat.lt_of_le_of_lt (Nat.div_le_self _ _) HP.out.1
      have q1 : p.2 / 256 ^ k < 18446744073709551616 := Nat.lt_of_le_of_lt (Nat.div_le_self _ _) HP.out.2
      generalize p.1 / 256 ^ k = a at *
      generalize p.2 / 256 ^ k = b at *
      have e0 : (x : Int) = IntKind.u8.wrap (a : Int) := by rw [IntKind.wrap_u8']; omega
      have e1 : (z : Int) = IntKind.u8.wrap (b : Int) := by rw [IntKind.wrap_u8']; omega
      have wn : IntKind.i64.wrap (8 + (t : Int)) = 8 + (t : Int) := by rw [IntKind.wrap_i64]; omega
      have t0 : (0 : Int) ≤ (t : Int) := by omega
      have t1 : (t : Int) < 16 := by omega
      have k0 : (0 : Int) ≤ 8 + (t : Int) := by omega
      have k1 : 8 + (t : Int) < 16 := by omega
      rw [show 8 + t = (8 + (t : Int)).toNat by omega] at d1 g1' S2 S2B S2E S2R
      rw [e0, e1] at S2 S2B S2E S2R
      replace S2 := hid S2
      replace S2B := hid S2B
      replace S2E := hid S2E
      replace S2R := hid S2R
      clear e0 e1
      go_wp2_with fail
      go_region
      all_goals
        clear c0 c1 f0 f1 d0 d1 g0' g1'
        generalize (wr.setCell ⟨w.heap.size + 1 + 1, t, none⟩ (.int .u8 (IntKind.u8.wrap (a : Int)))).setCell ⟨w.heap.size + 1 + 1, (8 + (t : Int)).toNat, none⟩ (.int .u8 (IntKind.u8.wrap (b : Int))) = W at *
        obtain ⟨c0, f0⟩ := S2E.out.cell0
        obtain ⟨c1, f1⟩ := S2E.out.cell1
        simp only at c0 c1
        have U0 := hid ((S2E.out.set0 (a / 256)).set1 (b / 256))
        have U1 := hid ((S2R.out.far (g' := w.heap.size) (k := 0) (.int .u64 ((a / 256 : Nat) : Int)) (by omega)).far (g' := w.heap.size) (k := 1) (.int .u64 ((b / 256 : Nat) : Int)) (by omega))
        have U2 := hid ((S2.out.far (g' := w.heap.size) (k := 0) (.int .u64 ((a / 256 : Nat) : Int)) (by omega)).far (g' := w.heap.size) (k := 1) (.int .u64 ((b / 256 : Nat) : Int)) (by omega))
        have UB := hid ((S2B.out.setCell (p := ⟨w.heap.size, 0, none⟩) (Nat.le_refl _) (.int .u64 ((a / 256 : Nat) : Int))).setCell (p := ⟨w.heap.size, 1, none⟩) (Nat.le_refl _) (.int .u64 ((b / 256 : Nat) : Int)))
        go_wp2
        exact ⟨⟨k + 1, by omega, i64_eq (by omega), hid (by rw [← P0.out, ← P1.out]; exact U0.out.drew), hid U1.out.drew, hid U2.out.drew, hid UB.out.drew⟩, by simp [intOf]⟩
    · have hk8 : k = 8 := by omega
      subst hk8
      rw [rk_end] at H2
      have Z := hid (blk_size (eb p) (eb_len p))
      go_wp2_with (first | refine wpList_load_row rfl 76 _ rfl (w.heap.size + 1 + 1) rfl 76 (arr (eb p)) _ _ H2.out Try.underlying76 rfl Z.out ?_ | refine wpList_store_row rfl 76 _ _ rfl (w.heap.size + 1) (arr (eb p)) rfl rfl 76 _ H1.out Z.out (by rw [arr_size, arr_size, eb_len]; rfl) (arr_one _) ?_)
      exact bodyPost_ret (v := .agg (arr (eb p))) (results_cell_row rfl _ _ (w.heap.size + 1) 76 _ _ _ rfl (H1.out.row (l' := eb p)) Try.underlying76 rfl Z.out) rfl ⟨rfl, below_row HB.out (by omega) _⟩

/-- A slice that is a block. -/
theorem blkof (v : Value) (l : List Nat) (w : World) (h : Rd w v l) (hl : l.length = 16) :
    Calls Try.prog 93 #[v] w fun e w' => e = .returned (.agg (arr l)) ∧ Below w.heap.size w w' := by
  obtain ⟨b, o, cap, rfl, -, hb⟩ := h.spot (by omega)
  rw [hl] at h ⊢
  have Z := hid (blk_size l hl)
  have P2 := arr_at 76 5 16 Try.underlying76 (some ⟨b, o, none⟩) 16 cap (Nat.le_refl _)
  have R := hid (rangeAt.below (rd_range h) (below_alloc1 w (.cells (arr (zs 16)) 76)))
  have V := hid (Ar.new w 76 (zs 16))
  clear h
  go_enter Try.func93, Try.ntmps93
  go_wp2_with (first | (go_at_call 76; refine (isblk_yes _ _ _).mono ?_; rintro e w' ⟨rfl, rfl⟩) | refine load_sub rfl 76 _ rfl b o rfl l R.out _ Try.underlying76 rfl Z.out ?_ | refine wpList_store_row rfl 76 _ _ rfl w.heap.size (arr l) rfl rfl 76 _ V.out Z.out (by rw [arr_size, arr_size, hl]; rfl) (arr_one _) ?_)
  exact bodyPost_ret (v := .agg (arr l)) (results_cell_row rfl _ _ w.heap.size 76 _ _ _ rfl (V.out.row (l' := l)) Try.underlying76 rfl Z.out) rfl ⟨rfl, below_row (below_alloc1 w _) (Nat.le_refl _) _⟩

theorem blkof_no (v : Value) (l : List Nat) (w : World) (h : Rd w v l) (hl : l.length ≠ 16) :
    Calls Try.prog 93 #[v] w fun e w' => e = .panicked [{ v := .iface 9 (.string { data := #[110, 111, 32, 98, 108, 111, 99, 107] }), recovered := false }] ∧ Below w.heap.size w w' := by
  obtain ⟨p, cap, rfl, -, -, -⟩ := h.parts
  clear h
  have H := hid hl
  clear hl
  go_enter Try.func93, Try.ntmps93
  go_wp2_with (first | (go_at_call 76; refine (isblk_no _ _ _ H.out _).mono ?_; rintro e w' ⟨rfl, rfl⟩))
  exact ⟨rfl, rfl, below_alloc1 w _⟩
theorem gprod (p q : Nat × Nat) (w : World) (hp : G64 p) (hq : G64 q) :
    Calls Try.prog 91 #[.agg (ec p), .agg (ec q)] w fun e w' => e = .returned (.agg (ec (gmul q p))) ∧ Below w.heap.size w w' := by
  have V2 := heap_alloc_new ((w.alloc (.cells (ec p) 87)).alloc (.cells (ec q) 87)) (.cells (ec g0) 87)
  simp only [World.size_alloc] at V2
  have H2 := hid (show El _ _ _ from V2)
  have HB := hid (below_alloc3 w (.cells (ec p) 87) (.cells (ec q) 87) (.cells (ec g0) 87))
  clear V2
  show Calls _ _ #[.agg #[.int .u64 (p.1 : Int), .int .u64 (p.2 : Int)], .agg #[.int .u64 (q.1 : Int), .int .u64 (q.2 : Int)]] _ _
  go_enter Try.func91, Try.ntmps91
  go_wp2_with fail
  refine (gtimes p q _ hp hq).mono ?_
  rintro e w1 ⟨rfl, hB⟩
  have K2 := hid (H2.out.below hB)
  have KB := hid (HB.out.trans (hB.mono HB.out.size))
  clear hB
  go_wp2_with (refine wpList_store_row rfl 87 _ _ rfl (w.heap.size + 1 + 1) (ec (gmul q p)) rfl rfl 87 _ K2.out (ec_size _) rfl (ec_one _) ?_)
  exact bodyPost_ret (v := .agg (ec (gmul q p))) (results_cell_row rfl _ _ (w.heap.size + 1 + 1) 87 _ _ _ rfl (K2.out.row (q := gmul q p)) Try.underlying87 rfl (ec_size _)) rfl ⟨rfl, below_row KB.out (by omega) _⟩
end Go.Proofs.Ytcmafbgfdddnnaa.W
