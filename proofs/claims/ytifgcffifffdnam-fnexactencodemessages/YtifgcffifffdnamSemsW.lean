/-
  Messages together, as bytes: what the model's EncodeMessages answers. Generated text.
-/
import Derived.Test.YtifgcffifffdnamSalW
namespace Go.Proofs.Ytifgcffifffdnam.W
open Go.ChangeShapes Go.WideShapes Go.ChangeAt Go.RowKit
open Go.Proofs.Ytifgcffifffdnam.M

set_option maxHeartbeats 4000000 in
set_option maxRecDepth 100000 in
theorem sems (v : Value) (ms : List Msg) (c : Int) (w : World) (h : RdM w v ms) (hl : ms.length ≤ 1048576) (hc : emsC ms c) :
    Calls Try.prog 37 #[v] w fun e w' => ∃ v', e = .returned (.agg #[.int .i64 c, v']) ∧ Own w' w.heap.size v' (emsL ms c) ∧ Below w.heap.size w w' := by
  have H := hid h
  have HC := hid hc
  obtain ⟨a, cap, rfl, -, -, -⟩ := h.parts
  clear h hc
  have VR := hid (heap_alloc_new w (.cells #[.int .i64 0, .slice none 0 0] 50))
  have BL := hid (below_alloc1 w (.cells #[.int .i64 0, .slice none 0 0] 50))
  obtain ⟨W0, hW⟩ : ∃ W, W = w.alloc (.cells #[.int .i64 0, .slice none 0 0] 50) := ⟨_, rfl⟩
  obtain ⟨gr, hgr⟩ : ∃ g, g = w.heap.size := ⟨_, rfl⟩
  have LG := hid (Nat.le_of_eq hgr.symm)
  rw [← hW] at VR BL
  rw [← hgr] at VR
  go_enter Try.func37, Try.ntmps37
  by_cases hn : ms.length ≤ 12
  case neg =>
    have gt : (12 : Int) < (ms.length : Int) := by omega
    obtain rfl : c = 2 := by
      rcases HC.out with ⟨-, e⟩ | ⟨q, -⟩ | ⟨q, -⟩
      · exact e
      · exact absurd q hn
      · exact absurd q hn
    replace hn := hid hn
    have EL := hid (show emsL ms 2 = [] by rfl)
    clear HC VR BL
    go_wp2
    try simp only [Exit.inBlock, Exit.then]
    exact bodyPost_ret (v := .agg #[.int .i64 2, .slice none 0 0]) (results_cell_row rfl _ _ w.heap.size 50 _ _ _ rfl (heap_alloc_new w _) Try.underlying50 rfl (by kernel_rfl)) rfl ⟨_, rfl, by rw [EL.out]; exact Own.nil _ _, below_alloc1 w _⟩
  go_wp2_with fail
  rw [← hW, ← hgr]
  clear hW hgr
  go_loopw [3] (fun i wr => ∃ j : Nat, j ≤ ms.length ∧ i = .int .i64 j ∧ Hid (∀ q (hq : q < ms.length), q < j → mF ms[q] 0) ∧ Hid (wr.heap[gr]? = some (.cells #[.int .i64 0, .slice none 0 0] 50)) ∧ Hid (Below w.heap.size w wr)) (fun i _ => ms.length - (intOf i).toNat)
  case atStart => exact ⟨0, by omega, rfl, hid (fun q _ h => absurd h (Nat.not_lt_zero q)), VR, BL⟩
  case round =>
    clear VR BL
    obtain ⟨j, hj, rfl, T, VR, BL⟩ := hrel
    by_cases hlt : j < ms.length
    · obtain ⟨a', cap', e, -, -, hcs⟩ := (H.out.below BL.out).parts
      cases e
      obtain ⟨b, o, u, rfl, q1, q3⟩ := hcs j hlt
      obtain ⟨pu, cu, rfl, -, -, -⟩ := q3.parts
      have RU := hid q3
      obtain ⟨c0, c1, c2, c3, c4, c5, c6, c7, c8, c9⟩ := m_cells q1
      have I1 := idx_mi b o ms.length cap j hlt
      have k0 : (0 : Int) ≤ (j : Int) := by omega
      have k1 : (j : Int) < (ms.length : Int) := by omega
      obtain ⟨d, hd⟩ := mF_some ms[j]
      have HD := hid hd
      have CE := hid (fun (hne : d ≠ 0) => emsC_at HC.out hn j hlt T.out hd hne)
      have T2 := hid (fun (e : d = 0) q (hq : q < ms.length) (hqj : q < j + 1) => show mF ms[q] 0 from by
        rcases Nat.lt_or_ge q j with z | z
        · exact T.out q hq z
        · obtain rfl : q = j := by omega
          rw [← e]; exact hd)
      obtain ⟨M, hM⟩ : ∃ M, M = ms[j] := ⟨_, rfl⟩
      rw [← hM] at c0 c1 c2 c3 c4 c5 c6 c7 c8 c9 RU HD
      clear q1 q3 hcs hM hd
      go_wp2_with fail
      refine (smf _ _ _ _ _ _ _ _ _ d _ M.l _ RU.out HD.out).mono ?_
      rintro e w1 ⟨rfl, hB⟩
      replace VR := hid (var_below hB VR.out)
      replace BL := hid (BL.out.trans (hB.mono BL.out.size))
      clear hB c0 c1 c2 c3 c4 c5 c6 c7 c8 c9 RU HD
      by_cases h0 : d = 0
      · have T3 := hid (T2.out h0)
        subst h0
        clear CE T2 T
        go_wp2
        go_roundw
        case rel => exact ⟨j + 1, hlt, by go_num, T3, VR, BL⟩
        case measure => simp [intOf]; omega
      · obtain rfl := CE.out h0
        have ne : (c != 0) = true := by rw [bne_iff_ne]; exact h0
        have EL0 := hid (show emsL ms c = [] by rw [emsL, if_neg h0])
        replace h0 := hid h0
        clear CE T2 T
        have EL := hid (show emsL ms c = [] by exact EL0.out)
        obtain ⟨r0, r1, y0, y1⟩ := var2_facts VR.out
        have hset := hid (var2_set (x' := .int .i64 c) (y' := .slice none 0 0) VR.out)
        have hbel := hid (below_set2 (x := .int .i64 c) (y := .slice none 0 0) BL.out LG.out)
        go_wp2
        try simp only [Exit.inBlock, Exit.then]
        exact bodyPost_ret (v := .agg #[.int .i64 c, .slice none 0 0]) (results_cell_row rfl _ _ gr 50 _ _ _ rfl hset.out Try.underlying50 rfl (by kernel_rfl)) rfl ⟨_, rfl, by rw [EL.out]; exact Own.nil _ _, hbel.out⟩
    · have hje : j = ms.length := by omega
      have AO := hid (fun q (hq : q < ms.length) => T.out q hq (by omega))
      obtain rfl := emsC_ok HC.out hn AO.out
      subst hje
      have RV := hid (H.out.below BL.out)
      have AL := hid (allB_len ms AO.out ms.length (Nat.le_refl _))
      clear T HC
      go_wp2_with fail
      refine (sal _ ms _ RV.out hn AO.out).mono ?_
      rintro e w2 ⟨vb, rfl, hO, hB⟩
      have GX := hid (show gr < wr.heap.size from var_lt VR.out)
      have LX := hid BL.out.size
      replace VR := hid (var_below hB VR.out)
      replace BL := hid (BL.out.trans (hB.mono BL.out.size))
      have OX := hid hO
      clear hO hB RV
      have le : ((allB ms ms.length).length : Int) ≤ 300 := by have := AL.out; omega
      clear AL AO
      obtain ⟨pv, kv, rfl, -, -, -⟩ := OX.out.rd.parts
      obtain ⟨m0, hm⟩ : ∃ z : Nat, z = (allB ms ms.length).length := ⟨_, rfl⟩
      rw [← hm] at OX ⊢
      have ng : ¬ ((300 : Int) < (m0 : Int)) := by omega
      replace hm := hid hm
      clear le
      obtain ⟨r0, r1, y0, y1⟩ := var2_facts VR.out
      have hset := hid (var2_set (x' := .int .i64 0) (y' := .slice pv m0 kv) VR.out)
      have hbel := hid (below_set2 (x := .int .i64 0) (y := .slice pv m0 kv) BL.out LG.out)
      have hown := hid ((OX.out.set2 (g := gr) (x := .int .i64 0) (y := .slice pv m0 kv) GX.out).mono (base' := w.heap.size) LX.out)
      go_wp2
      try simp only [Exit.inBlock, Exit.then]
      exact bodyPost_ret (v := .agg #[.int .i64 0, .slice pv m0 kv]) (results_cell_row rfl _ _ gr 50 _ _ _ rfl hset.out Try.underlying50 rfl (by kernel_rfl)) rfl ⟨_, rfl, by simpa [emsL] using hown.out, hbel.out⟩
end Go.Proofs.Ytifgcffifffdnam.W
