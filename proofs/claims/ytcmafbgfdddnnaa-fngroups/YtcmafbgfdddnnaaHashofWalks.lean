/-
  The hash of blocks: the program's hashOf.
-/
import Derived.Test.YtcmafbgfdddnnaaBoeWalks
import Derived.Test.YtcmafbgfdddnnaaHshF
import Derived.Test.YtcmafbgfdddnnaaCut
import Derived.Test.YtcmafbgfdddnnaaSteps
namespace Go.Proofs.Ytcmafbgfdddnnaa.W
open Go.ChangeShapes Go.WideShapes Go.ChangeAt Go.RowKit
open Go.Proofs.Ytcmafbgfdddnnaa.M

theorem El.range {w : World} {g : Nat} {p : Nat × Nat} (h : El w g p) : w.rangeAt g 0 (ec p).toList := fun j v hv => by
  rw [cell_of_row w g (0 + j) _ _ _ h, Nat.zero_add]
  simpa using hv
theorem hsh_next (h : Nat × Nat) (hh : G64 h) (d : List Nat) (yd : Byt d) (n : Nat) : gmul h (ga (hsh h d n) (elt (sub d (16 * n) 16))) = hsh h d (n + 1) := by
  rw [hsh, gmul_comm _ _ hh (ga_64 (hsh_64 h hh d n) (elt_64 _ (sub_byt d yd _ _)))]

set_option maxHeartbeats 2000000 in
set_option maxRecDepth 100000 in
theorem hashof (h : Nat × Nat) (vd : Value) (d : List Nat) (w : World) (hd : Rd w vd d) (yd : Byt d) (hh : G64 h) (nd : d.length ≤ 1048576) (n16 : d.length % 16 = 0) :
    Calls Try.prog 95 #[.agg (ec h), vd] w fun e w' => e = .returned (.agg (arr (eb (hsh h d (d.length / 16))))) ∧ Below w.heap.size w w' := by
  obtain ⟨pd, capd, rfl, ecd, -, hcd⟩ := hd.parts
  have HD := hid hd
  have HC := hid hcd
  have HG := hid hh
  clear hd hcd hh
  have V0 := heap_alloc_new w (.cells (ec h) 87)
  have A1 := Ar.new (w.alloc (.cells (ec h) 87)) 76 (zs 16)
  have V2 := heap_alloc_new ((w.alloc (.cells (ec h) 87)).alloc (.cells (arr (zs 16)) 76)) (.cells (ec g0) 87)
  simp only [World.size_alloc] at A1 V2
  have H0 := hid (show El _ _ _ from var_alloc (.cells (ec g0) 87) (var_alloc (.cells (arr (zs 16)) 76) V0))
  have H1 := hid (A1.alloc (.cells (ec g0) 87))
  have H2 := hid (show El _ _ _ from V2)
  have HB := hid (below_alloc3 w (.cells (ec h) 87) (.cells (arr (zs 16)) 76) (.cells (ec g0) 87))
  clear V0 A1 V2
  go_enter Try.func95, Try.ntmps95
  go_wp2_with fail
  go_loopw [6, 7] (fun a6 e7 ws => ∃ n : Nat, ∃ u : Value, 16 * n ≤ d.length ∧ e7 = u ∧ a6 = .int .i64 ((16 * n : Nat) : Int) ∧ Hid (El ws w.heap.size h) ∧ Hid (Ar ws (w.heap.size + 1) 76 (zs 16)) ∧ Hid (El ws (w.heap.size + 1 + 1) (hsh h d n)) ∧ Hid (Below w.heap.size w ws)) (fun a6 _ _ => d.length - (intOf a6).toNat)
  case atStart => exact ⟨0, _, by omega, rfl, rfl, H0, H1, H2, HB⟩
  case round =>
    clear H0 H1 H2 HB
    obtain ⟨n, u, hn, rfl, rfl, H0, H1, H2, HB⟩ := hrel
    by_cases hlt : 16 * n < d.length
    · obtain ⟨b, o, rfl, -⟩ := HC.out 0 (by omega)
      have RP := run_piece b o d.length capd (16 * n) 16 (by omega) (by omega)
      have PD := hid (rd_piece (HD.out.below HB.out) (16 * n) 16 (by omega))
      have SL := hid (sub_len d (16 * n) 16 (by omega))
      have SY := hid (sub_byt d yd (16 * n) 16)
      have c1 : ((16 * n : Nat) : Int) < (d.length : Int) := by omega
      have m0 : (0 : Int) ≤ ((16 * n : Nat) : Int) := by omega
      have HM := hid (show 16 * n + 16 = 16 * (n + 1) by omega)
      have HM2 := hid (show 16 * (n + 1) ≤ d.length by omega)
      have XN := hid (hsh_next h HG.out d yd n)
      have XG := hid (hsh_64 h HG.out d n)
      have mn : min (((16 * n : Nat) : Int) + 16) (d.length : Int) = ((16 * n + 16 : Nat) : Int) := by omega
      generalize 16 * n = m at *
      generalize sub d m 16 = s at *
      generalize hsh h d n = q at *
      rw [show ((m + 16 : Nat) : Int) = (m : Int) + 16 by omega] at RP
      go_wp2_with fail
      have V5 : El wr.drew (w.heap.size + 1 + 1) q := H2.out
      have A4 : Ar wr.drew (w.heap.size + 1) 76 (zs 16) := H1.out
      have PQ : Rd wr.drew (.slice (some ⟨b, o + m, none⟩) 16 (capd - m)) s := PD.out
      refine wp_region_held_drew (S := (fun w' => Below w.heap.size w w' ∧ El w' w.heap.size h)) (by kernel_rfl) ⟨HB.out.drew, H0.out.drew⟩ (fun hH => ?_)
      refine wpAnyH_take (i := 1) (v := .slice (some ⟨b, o, none⟩) d.length capd) (by simp only [List.getElem?_toArray, List.getElem?_cons_succ, List.getElem?_cons_zero]; rfl) (by kernel_rfl) (by kernel_rfl) (by kernel_rfl) (by intro _ _ _ h; exact h) (Or.inl ⟨by rfl, fun w hS => by go_simp⟩) hH ?_
      simp only [Act.put, List.setIfInBounds_toArray, List.set_cons_zero, List.set_cons_succ]
      refine wpAnyH_take (i := 2) (v := .int .i64 (m : Int)) (by simp only [List.getElem?_toArray, List.getElem?_cons_succ, List.getElem?_cons_zero]; rfl) (by kernel_rfl) (by kernel_rfl) (by kernel_rfl) (by intro _ _ _ h; exact h) (Or.inl ⟨by rfl, fun w hS => by go_simp⟩) hH ?_
      simp only [Act.put, List.setIfInBounds_toArray, List.set_cons_zero, List.set_cons_succ]
      refine wpAnyH_take (i := 3) (v := .int .i64 ((m : Int) + 16)) (by simp only [List.getElem?_toArray, List.getElem?_cons_succ, List.getElem?_cons_zero]; rfl) (by kernel_rfl) (by kernel_rfl) (by kernel_rfl) (by intro _ _ _ h; exact h) (Or.inl ⟨by rfl, fun w hS => by go_simp⟩) hH ?_
      simp only [Act.put, List.setIfInBounds_toArray, List.set_cons_zero, List.set_cons_succ]
      refine wpAnyH_take (i := 4) (v := .slice (some ⟨b, o + m, none⟩) 16 (capd - m)) (by simp only [List.getElem?_toArray, List.getElem?_cons_succ, List.getElem?_cons_zero]; rfl) (by kernel_rfl) (by kernel_rfl) (by kernel_rfl) (by intro _ _ _ h; exact h) (Or.inl ⟨by rfl, fun w hS => by go_simp⟩) hH ?_
      simp only [Act.put, List.setIfInBounds_toArray, List.set_cons_zero, List.set_cons_succ]
      refine wpAnyH_take (i := 8) (v := .agg (ec h)) (by simp only [List.getElem?_toArray, List.getElem?_cons_succ, List.getElem?_cons_zero]; rfl) (by kernel_rfl) (by kernel_rfl) (by kernel_rfl) (by intro _ _ _ h; exact h) (Or.inl ⟨by rfl, fun w hS => by have c0 := hS.2.cell0.1; have c1 := hS.2.cell1.1; unfold ec; go_simp⟩) hH ?_
      simp only [Act.put, List.setIfInBounds_toArray, List.set_cons_zero, List.set_cons_succ]
      generalize wr.drew = x at *
      refine wpAnyH_ready (rs := [0, 5]) (by kernel_rfl) (by simp) ?_
      refine AllReadyH.cons (by simp only [List.getElem?_toArray, List.getElem?_cons_zero]; rfl) (fun K hK => ?_) ?_
      · obtain ⟨c0, -⟩ := V5.cell0
        obtain ⟨c1, -⟩ := V5.cell1
        go_simp
        refine hK.out _ _ hH (fun hH => ?_)
        clear hK K c0 c1
        refine wpAnyH_ready (rs := [5]) (by kernel_rfl) (by simp) ?_
        refine AllReadyH.cons (by simp only [List.getElem?_toArray, List.getElem?_cons_succ, List.getElem?_cons_zero]; rfl) (fun K hK => ?_) AllReadyH.nil
        go_simp
        refine (blkof _ s _ PQ SL.out).mono ?_
        rintro e x5 ⟨rfl, hM⟩
        refine hK.out _ _ ⟨hH.1.trans (hM.mono hH.1.size), hH.2.below hM⟩ (fun hH => ?_)
        clear hK K
        replace V5 := V5.below hM
        replace A4 := A4.below hM
        replace PQ := PQ.below hM
        clear hM
        refine wpAnyH_ready (rs := [6]) (by kernel_rfl) (by simp) ?_
        refine AllReadyH.cons (by simp only [List.getElem?_toArray, List.getElem?_cons_succ, List.getElem?_cons_zero]; rfl) (fun K hK => ?_) AllReadyH.nil
        go_simp
        refine (elemof s _ SL.out SY.out).mono ?_
        rintro e x6 ⟨rfl, hM⟩
        refine hK.out _ _ ⟨hH.1.trans (hM.mono hH.1.size), hH.2.below hM⟩ (fun hH => ?_)
        clear hK K
        replace V5 := V5.below hM
        replace A4 := A4.below hM
        replace PQ := PQ.below hM
        clear hM
        refine wpAnyH_ready (rs := [7]) (by kernel_rfl) (by simp) ?_
        refine AllReadyH.cons (by simp only [List.getElem?_toArray, List.getElem?_cons_succ, List.getElem?_cons_zero]; rfl) (fun K hK => ?_) AllReadyH.nil
        go_simp
        refine (gplusE q (elt s) _ XG.out (elt_64 s SY.out)).mono ?_
        rintro e x7 ⟨rfl, hM⟩
        refine hK.out _ _ ⟨hH.1.trans (hM.mono hH.1.size), hH.2.below hM⟩ (fun hH => ?_)
        clear hK K
        replace V5 := V5.below hM
        replace A4 := A4.below hM
        replace PQ := PQ.below hM
        clear hM
        refine wpAnyH_ready (rs := [9]) (by kernel_rfl) (by simp) ?_
        refine AllReadyH.cons (by simp only [List.getElem?_toArray, List.getElem?_cons_succ, List.getElem?_cons_zero]; rfl) (fun K hK => ?_) AllReadyH.nil
        go_simp
        refine (gprod (ga q (elt s)) h _ (ga_64 XG.out (elt_64 s SY.out)) HG.out).mono ?_
        rintro e x9 ⟨rfl, hM⟩
        refine hK.out _ _ ⟨hH.1.trans (hM.mono hH.1.size), hH.2.below hM⟩ (fun hH => ?_)
        clear hK K
        replace V5 := V5.below hM
        replace A4 := A4.below hM
        replace PQ := PQ.below hM
        clear hM
        rw [XN.out]
        refine wpAnyH_ready (rs := [10]) (by kernel_rfl) (by simp) ?_
        refine AllReadyH.cons (by simp only [List.getElem?_toArray, List.getElem?_cons_succ, List.getElem?_cons_zero]; rfl) (fun K hK => ?_) AllReadyH.nil
        refine step_store_row (by rfl) _ _ _ (by rfl) (w.heap.size + 1 + 1) (ec (hsh h d (n + 1))) (by rfl) (by rfl) 87 _ V5 (ec_size _) rfl (ec_one _) ?_
        have V6 := V5.row (q := hsh h d (n + 1))
        have A6 := A4.rowFar (g' := w.heap.size + 1 + 1) (ec (hsh h d (n + 1))) (by omega)
        have B6 := below_row hH.1 (g := w.heap.size + 1 + 1) (by omega) (ec (hsh h d (n + 1)))
        have E6 := hH.2.far (g' := w.heap.size + 1 + 1) (ec (hsh h d (n + 1))) (by omega)
        refine hK.out _ _ ⟨B6, E6⟩ (fun hH => ?_)
        clear hK K
        simp only [Act.put]
        refine wpAnyH_done (by kernel_rfl) ?_ _
        go_wp2_with fail
        exact ⟨⟨n + 1, _, HM2.out, rfl, i64_eq (by have := HM.out; omega), hid E6, hid A6, hid V6, hid B6⟩, by simp [intOf]; omega⟩
      refine AllReadyH.cons (by simp only [List.getElem?_toArray, List.getElem?_cons_succ, List.getElem?_cons_zero]; rfl) (fun K hK => ?_) ?_
      · go_simp
        refine (blkof _ s _ PQ SL.out).mono ?_
        rintro e x5 ⟨rfl, hM⟩
        refine hK.out _ _ ⟨hH.1.trans (hM.mono hH.1.size), hH.2.below hM⟩ (fun hH => ?_)
        clear hK K
        replace V5 := V5.below hM
        replace A4 := A4.below hM
        replace PQ := PQ.below hM
        clear hM
        refine wpAnyH_ready (rs := [0, 6]) (by kernel_rfl) (by simp) ?_
        refine AllReadyH.cons (by simp only [List.getElem?_toArray, List.getElem?_cons_zero]; rfl) (fun K hK => ?_) ?_
        · obtain ⟨c0, -⟩ := V5.cell0
          obtain ⟨c1, -⟩ := V5.cell1
          go_simp
          refine hK.out _ _ hH (fun hH => ?_)
          clear hK K c0 c1
          refine wpAnyH_ready (rs := [6]) (by kernel_rfl) (by simp) ?_
          refine AllReadyH.cons (by simp only [List.getElem?_toArray, List.getElem?_cons_succ, List.getElem?_cons_zero]; rfl) (fun K hK => ?_) AllReadyH.nil
          go_simp
          refine (elemof s _ SL.out SY.out).mono ?_
          rintro e x6 ⟨rfl, hM⟩
          refine hK.out _ _ ⟨hH.1.trans (hM.mono hH.1.size), hH.2.below hM⟩ (fun hH => ?_)
          clear hK K
          replace V5 := V5.below hM
          replace A4 := A4.below hM
          replace PQ := PQ.below hM
          clear hM
          refine wpAnyH_ready (rs := [7]) (by kernel_rfl) (by simp) ?_
          refine AllReadyH.cons (by simp only [List.getElem?_toArray, List.getElem?_cons_succ, List.getElem?_cons_zero]; rfl) (fun K hK => ?_) AllReadyH.nil
          go_simp
          refine (gplusE q (elt s) _ XG.out (elt_64 s SY.out)).mono ?_
          rintro e x7 ⟨rfl, hM⟩
          refine hK.out _ _ ⟨hH.1.trans (hM.mono hH.1.size), hH.2.below hM⟩ (fun hH => ?_)
          clear hK K
          replace V5 := V5.below hM
          replace A4 := A4.below hM
          replace PQ := PQ.below hM
          clear hM
          refine wpAnyH_ready (rs := [9]) (by kernel_rfl) (by simp) ?_
          refine AllReadyH.cons (by simp only [List.getElem?_toArray, List.getElem?_cons_succ, List.getElem?_cons_zero]; rfl) (fun K hK => ?_) AllReadyH.nil
          go_simp
          refine (gprod (ga q (elt s)) h _ (ga_64 XG.out (elt_64 s SY.out)) HG.out).mono ?_
          rintro e x9 ⟨rfl, hM⟩
          refine hK.out _ _ ⟨hH.1.trans (hM.mono hH.1.size), hH.2.below hM⟩ (fun hH => ?_)
          clear hK K
          replace V5 := V5.below hM
          replace A4 := A4.below hM
          replace PQ := PQ.below hM
          clear hM
          rw [XN.out]
          refine wpAnyH_ready (rs := [10]) (by kernel_rfl) (by simp) ?_
          refine AllReadyH.cons (by simp only [List.getElem?_toArray, List.getElem?_cons_succ, List.getElem?_cons_zero]; rfl) (fun K hK => ?_) AllReadyH.nil
          refine step_store_row (by rfl) _ _ _ (by rfl) (w.heap.size + 1 + 1) (ec (hsh h d (n + 1))) (by rfl) (by rfl) 87 _ V5 (ec_size _) rfl (ec_one _) ?_
          have V6 := V5.row (q := hsh h d (n + 1))
          have A6 := A4.rowFar (g' := w.heap.size + 1 + 1) (ec (hsh h d (n + 1))) (by omega)
          have B6 := below_row hH.1 (g := w.heap.size + 1 + 1) (by omega) (ec (hsh h d (n + 1)))
          have E6 := hH.2.far (g' := w.heap.size + 1 + 1) (ec (hsh h d (n + 1))) (by omega)
          refine hK.out _ _ ⟨B6, E6⟩ (fun hH => ?_)
          clear hK K
          simp only [Act.put]
          refine wpAnyH_done (by kernel_rfl) ?_ _
          go_wp2_with fail
          exact ⟨⟨n + 1, _, HM2.out, rfl, i64_eq (by have := HM.out; omega), hid E6, hid A6, hid V6, hid B6⟩, by simp [intOf]; omega⟩
        refine AllReadyH.cons (by simp only [List.getElem?_toArray, List.getElem?_cons_succ, List.getElem?_cons_zero]; rfl) (fun K hK => ?_) ?_
        · go_simp
          refine (elemof s _ SL.out SY.out).mono ?_
          rintro e x6 ⟨rfl, hM⟩
          refine hK.out _ _ ⟨hH.1.trans (hM.mono hH.1.size), hH.2.below hM⟩ (fun hH => ?_)
          clear hK K
          replace V5 := V5.below hM
          replace A4 := A4.below hM
          replace PQ := PQ.below hM
          clear hM
          refine wpAnyH_ready (rs := [0]) (by kernel_rfl) (by simp) ?_
          refine AllReadyH.cons (by simp only [List.getElem?_toArray, List.getElem?_cons_zero]; rfl) (fun K hK => ?_) AllReadyH.nil
          obtain ⟨c0, -⟩ := V5.cell0
          obtain ⟨c1, -⟩ := V5.cell1
          go_simp
          refine hK.out _ _ hH (fun hH => ?_)
          clear hK K c0 c1
          refine wpAnyH_ready (rs := [7]) (by kernel_rfl) (by simp) ?_
          refine AllReadyH.cons (by simp only [List.getElem?_toArray, List.getElem?_cons_succ, List.getElem?_cons_zero]; rfl) (fun K hK => ?_) AllReadyH.nil
          go_simp
          refine (gplusE q (elt s) _ XG.out (elt_64 s SY.out)).mono ?_
          rintro e x7 ⟨rfl, hM⟩
          refine hK.out _ _ ⟨hH.1.trans (hM.mono hH.1.size), hH.2.below hM⟩ (fun hH => ?_)
          clear hK K
          replace V5 := V5.below hM
          replace A4 := A4.below hM
          replace PQ := PQ.below hM
          clear hM
          refine wpAnyH_ready (rs := [9]) (by kernel_rfl) (by simp) ?_
          refine AllReadyH.cons (by simp only [List.getElem?_toArray, List.getElem?_cons_succ, List.getElem?_cons_zero]; rfl) (fun K hK => ?_) AllReadyH.nil
          go_simp
          refine (gprod (ga q (elt s)) h _ (ga_64 XG.out (elt_64 s SY.out)) HG.out).mono ?_
          rintro e x9 ⟨rfl, hM⟩
          refine hK.out _ _ ⟨hH.1.trans (hM.mono hH.1.size), hH.2.below hM⟩ (fun hH => ?_)
          clear hK K
          replace V5 := V5.below hM
          replace A4 := A4.below hM
          replace PQ := PQ.below hM
          clear hM
          rw [XN.out]
          refine wpAnyH_ready (rs := [10]) (by kernel_rfl) (by simp) ?_
          refine AllReadyH.cons (by simp only [List.getElem?_toArray, List.getElem?_cons_succ, List.getElem?_cons_zero]; rfl) (fun K hK => ?_) AllReadyH.nil
          refine step_store_row (by rfl) _ _ _ (by rfl) (w.heap.size + 1 + 1) (ec (hsh h d (n + 1))) (by rfl) (by rfl) 87 _ V5 (ec_size _) rfl (ec_one _) ?_
          have V6 := V5.row (q := hsh h d (n + 1))
          have A6 := A4.rowFar (g' := w.heap.size + 1 + 1) (ec (hsh h d (n + 1))) (by omega)
          have B6 := below_row hH.1 (g := w.heap.size + 1 + 1) (by omega) (ec (hsh h d (n + 1)))
          have E6 := hH.2.far (g' := w.heap.size + 1 + 1) (ec (hsh h d (n + 1))) (by omega)
          refine hK.out _ _ ⟨B6, E6⟩ (fun hH => ?_)
          clear hK K
          simp only [Act.put]
          refine wpAnyH_done (by kernel_rfl) ?_ _
          go_wp2_with fail
          exact ⟨⟨n + 1, _, HM2.out, rfl, i64_eq (by have := HM.out; omega), hid E6, hid A6, hid V6, hid B6⟩, by simp [intOf]; omega⟩
        exact AllReadyH.nil
      exact AllReadyH.nil
    · have c1 : ¬ ((16 * n : Nat) : Int) < (d.length : Int) := by omega
      have m0 : (0 : Int) ≤ ((16 * n : Nat) : Int) := by omega
      have E := hid (show d.length / 16 = n by omega)
      have XG := hid (hsh_64 h HG.out d n)
      generalize 16 * n = m at *
      go_wp2_with (refine wpList_load_row rfl 87 _ rfl (w.heap.size + 1 + 1) rfl 87 (ec (hsh h d n)) _ _ H2.out Try.underlying87 rfl (ec_size _) ?_)
      refine (blkofel (hsh h d n) _ XG.out).mono ?_
      rintro e w1 ⟨rfl, B1⟩
      have K1 := hid (H1.out.below B1)
      have KB := hid (HB.out.trans (B1.mono HB.out.size))
      have Z := hid (blk_size (eb (hsh h d n)) (eb_len _))
      go_wp2_with (refine wpList_store_row rfl 76 _ _ rfl (w.heap.size + 1) (arr (eb (hsh h d n))) rfl rfl 76 _ K1.out Z.out (by rw [arr_size, arr_size, eb_len]; rfl) (arr_one _) ?_)
      exact bodyPost_ret (v := .agg (arr (eb (hsh h d n)))) (results_cell_row rfl _ _ (w.heap.size + 1) 76 _ _ _ rfl (K1.out.row (l' := eb (hsh h d n))) Try.underlying76 rfl Z.out) rfl ⟨by rw [E.out], below_row KB.out (by omega) _⟩
end Go.Proofs.Ytcmafbgfdddnnaa.W
