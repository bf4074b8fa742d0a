/-
  Messages together, as bytes: what the program's EncodeMessages answers. Generated text.
-/
import Derived.Test.YtifgcffifffdnamEmF
namespace Go.Proofs.Ytifgcffifffdnam.W
open Go.ChangeShapes Go.WideShapes Go.ChangeAt Go.RowKit
open Go.Proofs.Ytifgcffifffdnam.M

theorem allB_len2 (ms : List Msg) : ∀ j, j ≤ ms.length → (∀ i (h : i < ms.length), i < j → mF ms[i] 0) → (allB ms j).length ≤ 1 + 20 * j
  | 0, _, _ => by simp [allB]
  | j + 1, h, hc => by
    have ih := allB_len2 ms j (by omega) (fun i hi hij => hc i hi (by omega))
    have := eB_len (hc j (by omega) (by omega))
    rw [allB_succ ms j (by omega), List.length_append, List.length_append]
    simp; omega
set_option maxHeartbeats 4000000 in
set_option maxRecDepth 100000 in
theorem iems (v : Value) (ms : List Msg) (c : Int) (w : World) (h : RdM w v ms) (hl : ms.length ≤ 1048576) (hc : emsC ms c) :
    Calls Try.prog 39 #[v] w fun e w' => ∃ v', e = .returned (.agg #[.int .i64 c, v']) ∧ Own w' w.heap.size v' (emsL ms c) ∧ Below w.heap.size w w' := by
  have H := hid h
  have HC := hid hc
  obtain ⟨a, cap, rfl, -, -, -⟩ := h.parts
  clear h hc
  go_enter Try.func39, Try.ntmps39
  go_wp2_with fail
  have VR := hid (heap_alloc2_old w (.cells #[.int .i64 0, .slice none 0 0] 50) (.cells #[.int .i64 (ms.length : Int), .int .i64 0, .int .i64 12] 97))
  have VS := heap_alloc2_new w (.cells #[.int .i64 0, .slice none 0 0] 50) (.cells #[.int .i64 (ms.length : Int), .int .i64 0, .int .i64 12] 97)
  have BL := hid (below_alloc2 w (.cells #[.int .i64 0, .slice none 0 0] 50) (.cells #[.int .i64 (ms.length : Int), .int .i64 0, .int .i64 12] 97))
  generalize (w.alloc (.cells #[.int .i64 0, .slice none 0 0] 50)).alloc (.cells #[.int .i64 (ms.length : Int), .int .i64 0, .int .i64 12] 97) = w0 at *
  obtain ⟨gr, hgr⟩ : ∃ g, g = w.heap.size := ⟨_, rfl⟩
  have LG := hid (Nat.le_of_eq hgr.symm)
  rw [← hgr] at VR
  refine (within1 _ _ _ _ _ VS).mono ?_
  rintro e w1 ⟨rfl, hB⟩
  rw [← hgr]
  replace VR := hid (var_below hB VR.out)
  replace BL := hid (BL.out.trans (hB.mono BL.out.size))
  clear hB VS hgr
  by_cases hn : ms.length ≤ 12
  case neg =>
    obtain rfl : c = 2 := by
      rcases HC.out with ⟨-, e⟩ | ⟨q, -⟩ | ⟨q, -⟩
      · exact e
      · exact absurd q hn
      · exact absurd q hn
    rw [show inB (ms.length : Int) 0 12 = false by unfold inB; exact decide_eq_false (by omega)]
    replace hn := hid hn
    clear HC
    have EL := hid (show emsL ms 2 = [] by rfl)
    obtain ⟨r0, r1, y0, y1⟩ := var2_facts VR.out
    have hset := hid (var2_set (x' := .int .i64 2) (y' := .slice none 0 0) VR.out)
    have hbel := hid (below_set2 (x := .int .i64 2) (y := .slice none 0 0) BL.out LG.out)
    go_wp2
    try simp only [Exit.inBlock, Exit.then]
    exact bodyPost_ret (v := .agg #[.int .i64 2, .slice none 0 0]) (results_cell_row rfl _ _ gr 50 _ _ _ rfl hset.out Try.underlying50 rfl (by kernel_rfl)) rfl ⟨_, rfl, by rw [EL.out]; exact Own.nil _ _, hbel.out⟩
  rw [show inB (ms.length : Int) 0 12 = true by unfold inB; exact decide_eq_true (by omega)]
  have wb := wrap_b ms.length (by omega)
  have OA := hid ((own_l1 w1 ms.length).mono (base' := gr + 1) (var_lt VR.out))
  have BA := below_alloc1 w1 (.cells #[.int .u8 (ms.length : Int)] 5)
  replace VR := hid (var_below BA VR.out)
  replace BL := hid (BL.out.trans (BA.mono BL.out.size))
  clear BA
  obtain ⟨va, hva⟩ : ∃ x : Value, x = .slice (some ⟨w1.heap.size, 0, none⟩) 1 1 := ⟨_, rfl⟩
  rw [← hva] at OA
  go_wp2_with fail
  rw [← hva]
  clear hva wb
  generalize w1.alloc (.cells #[.int .u8 (ms.length : Int)] 5) = w2 at *
  go_loopw [3, 22] (fun acc i wr => ∃ j : Nat, j ≤ ms.length ∧ i = .int .i64 j ∧ Hid (∀ q (hq : q < ms.length), q < j → mF ms[q] 0) ∧ Hid (Own wr (gr + 1) acc (allB ms j)) ∧ Hid (wr.heap[gr]? = some (.cells #[.int .i64 0, .slice none 0 0] 50)) ∧ Hid (Below w.heap.size w wr)) (fun _ i _ => ms.length - (intOf i).toNat)
  case atStart => exact ⟨0, by omega, rfl, hid (fun q _ h => absurd h (Nat.not_lt_zero q)), hid (by rw [allB_zero]; exact OA.out), VR, BL⟩
  case round =>
    clear VR BL OA
    obtain ⟨j, hj, rfl, T, OA, VR, BL⟩ := hrel
    by_cases hlt : j < ms.length
    · obtain ⟨a', cap', e, -, -, hcs⟩ := (H.out.below BL.out).parts
      cases e
      obtain ⟨b, o, u, rfl, q1, q3⟩ := hcs j hlt
      obtain ⟨pu, cu, rfl, -, -, -⟩ := q3.parts
      have RU := hid q3
      obtain ⟨c0, c1, c2, c3, c4, c5, c6, c7, c8, c9⟩ := m_cells q1
      have I1 := idx_mi b o ms.length cap j hlt
      have k0 : (0 : Int) ≤ (j : Int) := by omega
      have k1 : (j : Int) < (ms.length : Int) := by omega
      obtain ⟨d, hd⟩ := mF_some ms[j]
      have HD := hid hd
      have CE := hid (fun (hne : d ≠ 0) => emsC_at HC.out hn j hlt T.out hd hne)
      have T2 := hid (fun (e : d = 0) q (hq : q < ms.length) (hqj : q < j + 1) => show mF ms[q] 0 from by
        rcases Nat.lt_or_ge q j with z | z
        · exact T.out q hq z
        · obtain rfl : q = j := by omega
          rw [← e]; exact hd)
      have AS := hid (allB_succ ms j hlt)
      have AL := hid (fun (e : d = 0) => show (allB ms j).length ≤ 1 + 20 * j ∧ (eB ms[j]).length ≤ 19 from ⟨allB_len2 ms j hj T.out, eB_len (by rw [← e]; exact hd)⟩)
      obtain ⟨M, hM⟩ : ∃ M, M = ms[j] := ⟨_, rfl⟩
      rw [← hM] at c0 c1 c2 c3 c4 c5 c6 c7 c8 c9 RU HD AS AL
      clear q1 q3 hcs hM hd
      go_wp2_with fail
      refine (wof _ _ _ _ _ _ _ _ _ d _ M.l _ (RU.out.below (below_alloc1 wr _)) HD.out).mono ?_
      rintro e w3 ⟨u, rfl, hW, hB⟩
      replace hB := (below_alloc1 wr _).trans (hB.mono (by simp))
      replace RU := hid (RU.out.below hB)
      replace VR := hid (var_below hB VR.out)
      replace OA := hid (OA.out.below hB)
      replace BL := hid (BL.out.trans (hB.mono BL.out.size))
      clear hB c0 c1 c2 c3 c4 c5 c6 c7 c8 c9
      by_cases h0 : d = 0
      case neg =>
        obtain rfl := CE.out h0
        have ne : (c != 0) = true := by rw [bne_iff_ne]; exact h0
        have EL0 := hid (show emsL ms c = [] by rw [emsL, if_neg h0])
        replace h0 := hid h0
        clear CE T2 T HD hW AL AS OA
        have EL := hid (show emsL ms c = [] by exact EL0.out)
        obtain ⟨r0, r1, y0, y1⟩ := var2_facts VR.out
        have hset := hid (var2_set (x' := .int .i64 c) (y' := .slice none 0 0) VR.out)
        have hbel := hid (below_set2 (x := .int .i64 c) (y := .slice none 0 0) BL.out LG.out)
        go_wp2
        try simp only [Exit.inBlock, Exit.then]
        exact bodyPost_ret (v := .agg #[.int .i64 c, .slice none 0 0]) (results_cell_row rfl _ _ gr 50 _ _ _ rfl hset.out Try.underlying50 rfl (by kernel_rfl)) rfl ⟨_, rfl, by rw [EL.out]; exact Own.nil _ _, hbel.out⟩
      have T3 := hid (T2.out h0)
      have AL2 := hid (AL.out h0)
      have HW := hid (hW h0)
      subst h0
      clear CE T2 T AL hW
      go_wp2_with fail
      refine (ienc u _ M _ RU.out HD.out HW.out).mono ?_
      rintro e w4 ⟨vb, rfl, hO, hB⟩
      obtain ⟨pb, cb, rfl, -, -, -⟩ := hO.rd.parts
      have OB1 := hid hO
      have AP := hid (OA.out.apart2 hO (Nat.le_refl _))
      replace OA := hid (OA.out.below hB)
      replace VR := hid (var_below hB VR.out)
      replace BL := hid (BL.out.trans (hB.mono BL.out.size))
      have wb := wrap_b (eB M).length (by have := AL2.out.2; omega)
      clear hO hB RU HW HD
      have BA := below_alloc1 w4 (.cells #[.int .u8 ((eB M).length : Int)] 5)
      have RL := hid (rd_l1 (heap_alloc_new w4 (.cells #[.int .u8 ((eB M).length : Int)] 5)))
      replace OA := hid (OA.out.below BA)
      replace OB1 := hid (OB1.out.below BA)
      replace VR := hid (var_below BA VR.out)
      replace BL := hid (BL.out.trans (BA.mono BL.out.size))
      have GS := hid (show gr + 1 ≤ (w4.alloc (.cells #[.int .u8 ((eB M).length : Int)] 5)).heap.size from var_lt VR.out)
      clear BA
      have LN := hid (show (allB ms j).length + [(eB M).length].length ≤ 4194304 by have := AL2.out.1; simp; omega)
      have LN2 := hid (show (allB ms j ++ [(eB M).length]).length + (eB M).length ≤ 4194304 by have := AL2.out; simp; omega)
      go_wp2_with (at_builtin; first | (refine list_app rfl _ _ rfl _ _ (allB ms j) [(eB M).length] (gr + 1) rfl rfl OA.out RL.out LN.out GS.out ?_; intro v3 w5 O G) | (refine list_app rfl _ _ rfl _ _ (allB ms j ++ [(eB M).length]) (eB M) (gr + 1) rfl rfl O (OB1.out.kept G AP.out).rd LN2.out (Nat.le_trans GS.out G.size) ?_; intro v4 w6 O4 G4))
      have LR : w.heap.size ≤ gr + 1 := by have := LG.out; omega
      have B3 := hid (BL.out.grown G BL.out.size (OA.out.row LR))
      have B4 := hid (B3.out.grown G4 B3.out.size (O.row LR))
      have V3 := hid (var_grown G VR.out (OA.out.ne (Nat.lt_succ_self gr)))
      have V4 := hid (var_grown G4 V3.out (O.ne (Nat.lt_succ_self gr)))
      rw [← AS.out] at O4
      replace O4 := hid O4
      clear G G4 O OA OB1 BL RL AP wb B3 V3 VR
      go_wp2
      go_roundw
      case rel => exact ⟨j + 1, hlt, by go_num, T3, O4, V4, B4⟩
      case measure => simp [intOf]; omega
    · have hje : j = ms.length := by omega
      have AO := hid (fun q (hq : q < ms.length) => T.out q hq (by omega))
      obtain rfl := emsC_ok HC.out hn AO.out
      subst hje
      have AL := hid (allB_len ms AO.out ms.length (Nat.le_refl _))
      obtain ⟨pv, kv, rfl, -, -, -⟩ := OA.out.rd.parts
      obtain ⟨m0, hm⟩ : ∃ z : Nat, z = (allB ms ms.length).length := ⟨_, rfl⟩
      rw [← hm] at OA AL ⊢
      replace hm := hid hm
      clear T HC AO
      have VS := heap_alloc_new wr (.cells #[.int .i64 (m0 : Int), .int .i64 0, .int .i64 300] 97)
      have BA := below_alloc1 wr (.cells #[.int .i64 (m0 : Int), .int .i64 0, .int .i64 300] 97)
      replace VR := hid (var_below BA VR.out)
      replace OA := hid (OA.out.below BA)
      replace BL := hid (BL.out.trans (BA.mono BL.out.size))
      clear BA
      go_wp2_with fail
      generalize wr.alloc (.cells #[.int .i64 (m0 : Int), .int .i64 0, .int .i64 300] 97) = w3 at *
      refine (within1 _ _ _ _ _ VS).mono ?_
      rintro e w4 ⟨rfl, hB⟩
      replace VR := hid (var_below hB VR.out)
      replace OA := hid (OA.out.below hB)
      replace BL := hid (BL.out.trans (hB.mono BL.out.size))
      clear hB VS
      rw [show inB (m0 : Int) 0 300 = true by unfold inB; exact decide_eq_true (by have := AL.out; omega)]
      obtain ⟨r0, r1, y0, y1⟩ := var2_facts VR.out
      have hset := hid (var2_set (x' := .int .i64 0) (y' := .slice pv m0 kv) VR.out)
      have hbel := hid (below_set2 (x := .int .i64 0) (y := .slice pv m0 kv) BL.out LG.out)
      have hown := hid ((OA.out.set2 (g := gr) (x := .int .i64 0) (y := .slice pv m0 kv) (Nat.lt_succ_self gr)).mono (base' := w.heap.size) (Nat.le_succ_of_le LG.out))
      clear VR OA BL
      go_wp2
      try simp only [Exit.inBlock, Exit.then]
      exact bodyPost_ret (v := .agg #[.int .i64 0, .slice pv m0 kv]) (results_cell_row rfl _ _ gr 50 _ _ _ rfl hset.out Try.underlying50 rfl (by kernel_rfl)) rfl ⟨_, rfl, by simpa [emsL] using hown.out, hbel.out⟩
end Go.Proofs.Ytifgcffifffdnam.W
