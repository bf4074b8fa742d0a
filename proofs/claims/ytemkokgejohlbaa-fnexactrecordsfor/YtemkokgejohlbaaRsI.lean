/-
  What RecordsFor of the program answers. Generated text.
-/
import Derived.WalkMore
import Derived.Test.YtemkokgejohlbaaRsS0
import Derived.Test.YtemkokgejohlbaaSpn0
import Derived.Test.YtemkokgejohlbaaVwV
namespace Go.Proofs.Ytemkokgejohlbaa.W
open Go.ChangeShapes Go.WideShapes Go.ChangeAt Go.RowKit
open Go.Proofs.Ytemkokgejohlbaa.M

set_option maxRecDepth 100000 in
theorem isRt (k : Int) (w : World) : Calls Try.prog 19 #[.int .i64 k] w fun e w' => e = .returned (.bool (k == 1 || k == 33)) ∧ Below w.heap.size w w' := by
  go_enter Try.func19, Try.ntmps19
  by_cases h : k = 1
  · subst h
    go_wp2
    go_ret
    exact ⟨rfl, Below.refl _ _⟩
  · have h1 : (k == 1) = false := by simpa using h
    go_wp2
    go_ret
    exact ⟨by simp [h1], Below.refl _ _⟩
set_option maxHeartbeats 4000000 in
set_option maxRecDepth 100000 in
theorem irf (v : Value) (cs : List Clm) (s kd : Int) (w : World) (h : RdC w v cs) :
    Calls Try.prog 7 #[v, .int .i64 s, .int .i64 kd] w fun e w' => ∃ u, e = .returned (.agg #[.int .i64 (rsC cs s kd), u]) ∧ OwD w' w.heap.size u (rsR cs s kd) ∧ Below w.heap.size w w' := by
  have H := hid (h.below (below_alloc1 w (.cells #[.int .i64 0, .slice none 0 0] 26)))
  obtain ⟨a, cap, rfl, -, -, -⟩ := h.parts
  clear h
  have V := hid (heap_alloc_new w (.cells #[.int .i64 0, .slice none 0 0] 26))
  have BB := hid (below_alloc1 w (.cells #[.int .i64 0, .slice none 0 0] 26))
  go_enter Try.func7, Try.ntmps7
  go_wp2_with fail
  generalize w.alloc (.cells #[.int .i64 0, .slice none 0 0] 26) = w0 at *
  obtain ⟨g, hg⟩ : ∃ g, g = w.heap.size := ⟨_, rfl⟩
  have LG := hid (show w.heap.size ≤ g by omega)
  rw [← hg] at V ⊢
  replace hg := hid hg
  refine (ivf _ cs _ H.out).mono ?_
  rintro e w1 ⟨rfl, hB⟩
  replace H := hid (H.out.below hB)
  replace V := hid (var_below hB V.out)
  replace BB := hid (BB.out.trans (hB.mono BB.out.size))
  clear hB
  obtain ⟨t, ht⟩ : ∃ t, t = vF cs := ⟨_, rfl⟩
  rw [← ht]
  replace ht := hid ht
  by_cases h0 : t = 0
  case neg =>
    have E1 := hid (show rsC cs s kd = t by unfold rsC; rw [if_neg (by rw [← ht.out]; exact h0), ht.out])
    have E2 := hid (show rsR cs s kd = [] by unfold rsR; rw [if_neg (by rw [E1.out]; exact h0)])
    obtain ⟨q0, q1, z0, z1⟩ := var2_facts V.out
    have V2 := hid (var2_set (x' := .int .i64 t) (y' := .slice none 0 0) V.out)
    have B2 := hid (below_set2 (x := .int .i64 t) (y := .slice none 0 0) BB.out LG.out)
    go_wp2
    exact bodyPost_ret (v := .agg #[.int .i64 t, .slice none 0 0]) (results_cell_row rfl _ _ g 26 _ _ _ rfl V2.out Try.underlying26 rfl (by kernel_rfl)) rfl ⟨_, by rw [E1.out], by rw [E2.out]; exact OwD.nil _ _, B2.out⟩
  subst h0
  have HF := hid (vF_ok ht.out.symm)
  have VP := hid (heap_alloc_new w1 (.cells (rowSp [(s, 0, 99)]).toArray 44))
  have hB := below_alloc1 w1 (.cells #[.int .i64 s, .int .i64 0, .int .i64 99] 44)
  replace H := hid (H.out.below hB)
  replace V := hid (var_below hB V.out)
  replace BB := hid (BB.out.trans (hB.mono BB.out.size))
  clear hB
  go_wp2_with fail
  refine (withinL [(s, 0, 99)] (by simp) _ _ VP.out).mono ?_
  rintro e w2 ⟨rfl, hB⟩
  replace H := hid (H.out.below hB)
  replace V := hid (var_below hB V.out)
  replace BB := hid (BB.out.trans (hB.mono BB.out.size))
  clear hB
  clear VP
  rw [show inS [(s, 0, 99)] = inB s 0 99 by simp [inS]]
  obtain ⟨r, hr⟩ : ∃ r, r = inB s 0 99 := ⟨_, rfl⟩
  rw [← hr]
  replace hr := hid hr
  cases r
  case false =>
    have E1 := hid (show rsC cs s kd = 3 by unfold rsC; rw [if_pos ht.out.symm, ← hr.out]; rfl)
    have E2 := hid (show rsR cs s kd = [] by unfold rsR; rw [if_neg (by rw [E1.out]; decide)])
    obtain ⟨q0, q1, z0, z1⟩ := var2_facts V.out
    have V2 := hid (var2_set (x' := .int .i64 3) (y' := .slice none 0 0) V.out)
    have B2 := hid (below_set2 (x := .int .i64 3) (y := .slice none 0 0) BB.out LG.out)
    go_wp2
    exact bodyPost_ret (v := .agg #[.int .i64 3, .slice none 0 0]) (results_cell_row rfl _ _ g 26 _ _ _ rfl V2.out Try.underlying26 rfl (by kernel_rfl)) rfl ⟨_, by rw [E1.out], by rw [E2.out]; exact OwD.nil _ _, B2.out⟩
  go_wp2_with fail
  refine (isRt kd _).mono ?_
  rintro e w3 ⟨rfl, hB⟩
  replace H := hid (H.out.below hB)
  replace V := hid (var_below hB V.out)
  replace BB := hid (BB.out.trans (hB.mono BB.out.size))
  clear hB
  obtain ⟨rk, hrk⟩ : ∃ r, r = (kd == 1 || kd == 33) := ⟨_, rfl⟩
  rw [← hrk]
  replace hrk := hid hrk
  cases rk
  case false =>
    have E1 := hid (show rsC cs s kd = 3 by unfold rsC; rw [if_pos ht.out.symm, ← hr.out, ← hrk.out]; rfl)
    have E2 := hid (show rsR cs s kd = [] by unfold rsR; rw [if_neg (by rw [E1.out]; decide)])
    obtain ⟨q0, q1, z0, z1⟩ := var2_facts V.out
    have V2 := hid (var2_set (x' := .int .i64 3) (y' := .slice none 0 0) V.out)
    have B2 := hid (below_set2 (x := .int .i64 3) (y := .slice none 0 0) BB.out LG.out)
    go_wp2
    exact bodyPost_ret (v := .agg #[.int .i64 3, .slice none 0 0]) (results_cell_row rfl _ _ g 26 _ _ _ rfl V2.out Try.underlying26 rfl (by kernel_rfl)) rfl ⟨_, by rw [E1.out], by rw [E2.out]; exact OwD.nil _ _, B2.out⟩
  have E1 := hid (show rsC cs s kd = 0 by unfold rsC; rw [if_pos ht.out.symm, ← hr.out, ← hrk.out]; rfl)
  have E2 := hid (show rsR cs s kd = rsL s kd cs by unfold rsR; rw [if_pos E1.out])
  have HE := hid (H.out)
  go_wp2_with fail
  have GV3 := hid (var_lt V.out)
  have hl4 := HF.out.1
  go_loopw [8, 10, 11, 31] (fun s8 s10 s11 i wr => ∃ k : Nat, ∃ u9 u10 u11 : Value, k ≤ cs.length ∧ i = .int .i64 k ∧ s8 = u9 ∧ s10 = u10 ∧ s11 = u11 ∧ Hid (OwD wr w3.heap.size u9 (rsL s kd (cs.take k))) ∧ Hid (Below w3.heap.size w3 wr)) (fun _ _ _ i _ => cs.length - (intOf i).toNat)
  case atStart => exact ⟨0, _, _, _, by omega, rfl, rfl, rfl, rfl, hid (OwD.nil _ _), hid (Below.refl _ _)⟩
  case round =>
    obtain ⟨k, u9, u10, u11, hk, rfl, rfl, rfl, rfl, OO, BL⟩ := hrel
    by_cases hlt : k < cs.length
    · have hf := HF.out.2.1
      have TY := hid fun q => rsL_yes (s := s) (k := kd) hlt q
      have TN := hid fun q => rsL_no (s := s) (k := kd) hlt q
      have LK := hid (show (rsL s kd (cs.take k)).length ≤ 4 from Nat.le_trans (rsL_len _ _ _) (by simp; omega))
      obtain ⟨x, hx⟩ : ∃ x, x = rsL s kd (cs.take k) := ⟨_, rfl⟩
      rw [← hx] at OO LK TY TN
      clear hx
      obtain ⟨px, cx, rfl, -, -, -⟩ := OO.out.rd.parts
      obtain ⟨a', cap', e, -, -, hcs⟩ := (H.out.below BL.out).parts
      cases e
      obtain ⟨b, o, rfl, q1⟩ := hcs k hlt
      obtain ⟨c0, c1, c2, c3⟩ := c_cells q1
      have I1 := idx_ci b o cs.length cap k hlt
      obtain ⟨hm1, hm2⟩ := m_quo (clC_m (hf _ (List.getElem_mem hlt)))
      obtain ⟨M, hM⟩ : ∃ M, M = cs[k] := ⟨_, rfl⟩
      rw [← hM] at c0 c1 c2 c3 TY TN hm1 hm2
      clear q1 hcs hM
      have VM := hid (heap_alloc_new wr (.cells #[.int .i64 M.n, .int .i64 M.i, .int .i64 M.s, .int .i64 M.m] 39))
      have BC := hid (below_alloc1 wr (.cells #[.int .i64 M.n, .int .i64 M.i, .int .i64 M.s, .int .i64 M.m] 39))
      obtain ⟨⟨m0, m1, m2, m3⟩, -⟩ := var4_factsR VM.out
      by_cases qs : M.s = 0
      · have n0 : (M.s != 0) = false := by simp [qs]
        by_cases q1 : M.m / 65536 = s
        · have T := hid (TY.out (by unfold okR; simp [qs, q1]))
          have n1 : (M.m / 65536 != s) = false := by simp [q1]
          replace qs := hid qs
          replace q1 := hid q1
          clear TY TN
          go_upto_region 11 with fail
          clear m0 m1 m2 m3
          generalize wr.alloc (.cells #[.int .i64 M.n, .int .i64 M.i, .int .i64 M.s, .int .i64 M.m] 39) = wc at *
          obtain ⟨gm, hgm⟩ : ∃ g, g = wr.heap.size := ⟨_, rfl⟩
          rw [← hgm] at VM ⊢
          clear hgm
          replace OO := hid (OO.out.below BC.out)
          replace BL := hid (BL.out.trans (BC.out.mono BL.out.size))
          clear BC
          obtain ⟨⟨m0, m1, m2, m3⟩, -⟩ := var4_factsR VM.out
          by_cases qk : kd = 33
          · subst qk
            have VR := hid (heap_alloc_new wc (.cells #[.int .i64 33, .int .i64 M.n, .int .i64 0] 47))
            have BR := hid (below_alloc1 wc (.cells #[.int .i64 33, .int .i64 M.n, .int .i64 0] 47))
            obtain ⟨⟨f0, f1, f2⟩, g0, g1, g2⟩ := v3_factsR VR.out
            have d3 := cell_kept BR.out m3
            go_upto_region 14 with fail
            clear f0 f1 f2 g0 g1 g2 d3
            have VS := hid (heap_alloc_new wc (.cells #[.int .i64 33, .int .i64 M.n, .int .i64 (M.m % 65536)] 47))
            have BT := hid (below_alloc1 wc (.cells #[.int .i64 33, .int .i64 M.n, .int .i64 (M.m % 65536)] 47))
            have OS := hid (OO.out.below BT.out)
            have BS := hid (BL.out.trans (BT.out.mono BL.out.size))
            clear BT
            have e1 := rcO_srv (c := M)
            obtain ⟨X, hX⟩ : ∃ X, X = rcO 33 M := ⟨_, rfl⟩
            rw [← hX] at T e1
            have VX := hid (show (wc.alloc (.cells #[.int .i64 33, .int .i64 M.n, .int .i64 (M.m % 65536)] 47)).heap[wc.heap.size]? = some (.cells #[.int .i64 X.a, .int .i64 X.b, .int .i64 X.c] 47) by rw [e1]; exact VS.out)
            clear VS VR BR e1 hX OO BL
            generalize (wc.alloc (.cells #[.int .i64 33, .int .i64 M.n, .int .i64 (M.m % 65536)] 47)) = w1 at *
            obtain ⟨gx, hgx⟩ : ∃ g, g = wc.heap.size := ⟨_, rfl⟩
            rw [← hgx] at VX ⊢
            clear hgx
            obtain ⟨⟨f0, f1, f2⟩, -⟩ := v3_factsR VX.out
            have R4 := hid (d_at (c := X) (heap_alloc_new w1 (.cells #[.int .i64 X.a, .int .i64 X.b, .int .i64 X.c] 47)))
            have B4 := below_alloc1 w1 (.cells #[.int .i64 X.a, .int .i64 X.b, .int .i64 X.c] 47)
            have O4 := hid (OS.out.below B4)
            have S4 := hid (BS.out.trans (B4.mono BS.out.size))
            have Z4 := hid (show w3.heap.size ≤ (w1.alloc (.cells #[.int .i64 X.a, .int .i64 X.b, .int .i64 X.c] 47)).heap.size from S4.out.size)
            have L4 := hid (show x.length ≤ 4194304 by have := LK.out; omega)
            clear B4
            go_wp2_with (at_builtin; refine list_appD rfl _ _ rfl _ x X w3.heap.size w1.heap.size 1 rfl rfl O4.out R4.out L4.out Z4.out ?_; intro g5 cap5 w5 hO hG hL; have B5 := hid (S4.out.grown hG Z4.out (O4.out.row (Nat.le_refl _))); have O5 := hid hO)
            clear hO hG hL O4 S4 R4 f0 f1 f2 OS BS
            go_roundw
            case rel => exact ⟨k + 1, _, _, _,  hlt, by go_num, rfl, rfl, rfl,  hid (by rw [T.out]; exact O5.out), B5⟩
            case measure => simp [intOf] <;> omega
          · have nk : (kd == 33) = false := by simpa using qk
            have VR := hid (heap_alloc_new wc (.cells #[.int .i64 kd, .int .i64 M.n, .int .i64 0] 47))
            have BR := hid (below_alloc1 wc (.cells #[.int .i64 kd, .int .i64 M.n, .int .i64 0] 47))
            go_upto_region 14 with fail
            have VS := VR
            have OS := hid (OO.out.below BR.out)
            have BS := hid (BL.out.trans (BR.out.mono BL.out.size))
            have e1 := rcO_a (c := M) qk
            obtain ⟨X, hX⟩ : ∃ X, X = rcO kd M := ⟨_, rfl⟩
            rw [← hX] at T e1
            have VX := hid (show (wc.alloc (.cells #[.int .i64 kd, .int .i64 M.n, .int .i64 0] 47)).heap[wc.heap.size]? = some (.cells #[.int .i64 X.a, .int .i64 X.b, .int .i64 X.c] 47) by rw [e1]; exact VS.out)
            clear VS VR BR e1 hX OO BL
            generalize (wc.alloc (.cells #[.int .i64 kd, .int .i64 M.n, .int .i64 0] 47)) = w1 at *
            obtain ⟨gx, hgx⟩ : ∃ g, g = wc.heap.size := ⟨_, rfl⟩
            rw [← hgx] at VX ⊢
            clear hgx
            obtain ⟨⟨f0, f1, f2⟩, -⟩ := v3_factsR VX.out
            have R4 := hid (d_at (c := X) (heap_alloc_new w1 (.cells #[.int .i64 X.a, .int .i64 X.b, .int .i64 X.c] 47)))
            have B4 := below_alloc1 w1 (.cells #[.int .i64 X.a, .int .i64 X.b, .int .i64 X.c] 47)
            have O4 := hid (OS.out.below B4)
            have S4 := hid (BS.out.trans (B4.mono BS.out.size))
            have Z4 := hid (show w3.heap.size ≤ (w1.alloc (.cells #[.int .i64 X.a, .int .i64 X.b, .int .i64 X.c] 47)).heap.size from S4.out.size)
            have L4 := hid (show x.length ≤ 4194304 by have := LK.out; omega)
            clear B4
            go_wp2_with (at_builtin; refine list_appD rfl _ _ rfl _ x X w3.heap.size w1.heap.size 1 rfl rfl O4.out R4.out L4.out Z4.out ?_; intro g5 cap5 w5 hO hG hL; have B5 := hid (S4.out.grown hG Z4.out (O4.out.row (Nat.le_refl _))); have O5 := hid hO)
            clear hO hG hL O4 S4 R4 f0 f1 f2 OS BS
            go_roundw
            case rel => exact ⟨k + 1, _, _, _,  hlt, by go_num, rfl, rfl, rfl,  hid (by rw [T.out]; exact O5.out), B5⟩
            case measure => simp [intOf] <;> omega
        · have T := hid (TN.out (by unfold okR; simp [q1]))
          have n1 : (M.m / 65536 != s) = true := by simp [q1]
          replace qs := hid qs
          replace q1 := hid q1
          clear TY TN
          go_wp2
          go_roundw
          case rel => exact ⟨k + 1, _, _, _,  hlt, by go_num, rfl, rfl, rfl,  hid (by rw [T.out]; exact OO.out.below BC.out), hid (BL.out.trans (BC.out.mono BL.out.size))⟩
          case measure => simp [intOf] <;> omega
      · have T := hid (TN.out (by unfold okR; simp [qs]))
        have n0 : (M.s != 0) = true := by simp [qs]
        replace qs := hid qs
        clear TY TN
        go_wp2
        go_roundw
        case rel => exact ⟨k + 1, _, _, _,  hlt, by go_num, rfl, rfl, rfl,  hid (by rw [T.out]; exact OO.out.below BC.out), hid (BL.out.trans (BC.out.mono BL.out.size))⟩
        case measure => simp [intOf] <;> omega
    · have hke : k = cs.length := by omega
      subst hke
      rw [List.take_length] at OO
      have hB := BL.out
      replace H := hid (H.out.below hB)
      replace V := hid (var_below hB V.out)
      replace BB := hid (BB.out.trans (hB.mono BB.out.size))
      clear hB
      obtain ⟨pu, ku, rfl, -, -, -⟩ := OO.out.rd.parts
      have RO := OO
      have GV := hid (show g < w3.heap.size by have := GV3.out; omega)
      have w5e := hid (rfl : wr = wr)
      rw [← E2.out] at RO
      rw [← E2.out]
      obtain ⟨xs, hxs⟩ : ∃ z, z = rsR cs s kd := ⟨_, rfl⟩
      rw [← hxs] at RO
      rw [← hxs]
      clear E2
      replace hxs := hid hxs
      have ON := hid (show OwD ((wr.setCell ⟨g, 0, none⟩ (.int .i64 0)).setCell ⟨g, 1, none⟩ (.slice pu xs.length ku)) _ (.slice pu xs.length ku) xs from ownsRow_setCell_below (ownsRow_setCell_below RO.out (a := ⟨g, 0, none⟩) GV.out _) (a := ⟨g, 1, none⟩) GV.out _)
      obtain ⟨q0, q1, z0, z1⟩ := var2_facts V.out
      have V2 := hid (var2_set (x' := .int .i64 0) (y' := .slice pu xs.length ku) V.out)
      have B2 := hid (below_set2 (x := .int .i64 0) (y := .slice pu xs.length ku) BB.out LG.out)
      go_wp2
      exact bodyPost_ret (v := .agg #[.int .i64 0, .slice pu xs.length ku]) (results_cell_row rfl _ _ g 26 _ _ _ rfl V2.out Try.underlying26 rfl (by kernel_rfl)) rfl ⟨_, by rw [E1.out], by rw [← hxs.out]; exact ON.out.mono (Nat.le_of_lt (Nat.lt_of_le_of_lt LG.out GV.out)), B2.out⟩
end Go.Proofs.Ytemkokgejohlbaa.W
