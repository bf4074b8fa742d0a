/-
  What is hidden: the model's l3Stream.
-/
import Derived.Test.YtckgjghpfjinfabL3cWalks
import Derived.Test.YtckgjghpfjinfabL2eWalks
import Derived.Test.YtckgjghpfjinfabSealF
import Derived.Deep.RegionHeld3
import Derived.Deep.AppendLies
namespace Go.Proofs.Ytckgjghpfjinfab.W
open Go.ChangeShapes Go.WideShapes Go.ChangeAt Go.RowKit
open Go.Proofs.Ytckgjghpfjinfab.M

theorem rd_kept {w w' : World} {b o n c : Nat} {l : List Nat} {r : Option Nat} (h : Rd w (.slice (some ⟨b, o, none⟩) n c) l) (hG : w.grownBy w' r) (hne : some b ≠ r) : Rd w' (.slice (some ⟨b, o, none⟩) n c) l := by
  obtain ⟨a, cap, e, h1, h2, hc⟩ := h
  refine ⟨a, cap, e, h1, h2, fun i hi => ?_⟩
  obtain ⟨b', o', e', hcc⟩ := hc i hi
  subst e'
  cases e
  exact ⟨b, o, rfl, hG.cell hcc hne⟩
theorem rd_blk {w : World} {b o n c : Nat} {l : List Nat} (h : Rd w (.slice (some ⟨b, o, none⟩) n c) l) (hl : 0 < l.length) : b < w.heap.size := by
  obtain ⟨a, cap, e, -, -, hc⟩ := h
  obtain ⟨b', o', e', hcc⟩ := hc 0 hl
  subst e'
  cases e
  exact World.block_lt_of_cell? w _ hcc
theorem own_spot {w : World} {base : Nat} {v : Value} {l : List Nat} (h : Own w base v l) (hl : 0 < l.length) : ∃ b cap, v = .slice (some ⟨b, 0, none⟩) l.length cap ∧ base ≤ b ∧ b < w.heap.size := by
  rcases h.2 with ⟨rfl, e⟩ | ⟨g, cap, cur, rfl, hb, hg, -⟩
  · omega
  · exact ⟨g, cap, rfl, hb, (Array.getElem?_eq_some_iff.1 hg).1⟩
theorem own_blk_lt {w : World} {base : Nat} {v : Value} {l : List Nat} (h : Own w base v l) {b : Nat} (hb : w.heap.size ≤ b) : some b ≠ v.ownBlock := h.ne_new hb

set_option maxHeartbeats 2000000 in
set_option maxRecDepth 100000 in
theorem l3stream (gk : Nat) (F : Nat → Nat) (vb vd : Value) (b d : List Nat) (w : World) (hK : Ar w gk 5 (rowTo 176 F 176)) (hF : ∀ j, F j < 256) (hb : Rd w vb b) (nb : b.length = 16) (yb : Byt b) (hd : Rd w vd d) (yd : Byt d) (nd : d.length ≤ 1000000) :
    Calls Try.prog 67 #[.slice (some ⟨gk, 0, none⟩) 176 176, vb, vd] w fun e w' => ∃ v, e = .returned v ∧ Own w' w.heap.size v (strm F b d) ∧ Below w.heap.size w w' := by
  obtain ⟨i0, hi, hz0, hz1, hz2⟩ := info_parts info8
  obtain ⟨pd, capd, rfl, -, -, hcd⟩ := hd.parts
  obtain ⟨bb, ob, cb, rfl, -, hbl⟩ := hb.spot (by omega)
  rw [nb] at hb ⊢
  have HK := hid hK
  have HKL := hid hK.lt
  have HF := hid hF
  have NB := hid nb
  have HCD := hid hcd
  have HR := hid (hb.below (below_alloc1 w (.cells #[] 5)))
  have HO := hid (own_lit0 w)
  have HB := hid (below_alloc1 w (.cells #[] 5))
  have HN := hid (show some bb ≠ (Value.slice (some ⟨w.heap.size, 0, none⟩) 0 0).ownBlock by show some bb ≠ some w.heap.size; intro e; cases e; omega)
  have SL := hid (strm_len F b d)
  clear hK hF hb nb hcd hd hbl
  go_enter Try.func67, Try.ntmps67
  go_wp2_with fail
  go_loopw [1, 7, 8, 9, 10] (fun v1 o7 a8 p9 j10 ws => ∃ n bb ob cb : Nat, ∃ u v : Value, 16 * n < d.length + 16 ∧ p9 = u ∧ j10 = v ∧ a8 = .int .i64 ((16 * n : Nat) : Int) ∧ v1 = .slice (some ⟨bb, ob, none⟩) 16 cb ∧ Hid (Rd ws (.slice (some ⟨bb, ob, none⟩) 16 cb) (cuN b n)) ∧ Hid (Own ws w.heap.size o7 ((strm F b d).take (16 * n))) ∧ Hid (some bb ≠ o7.ownBlock) ∧ Hid (Below w.heap.size w ws)) (fun _ _ a8 _ _ _ => d.length + 16 - (intOf a8).toNat)
  case atStart => exact ⟨0, bb, ob, cb, _, _, by omega, rfl, rfl, rfl, rfl, HR, hid (by rw [Nat.mul_zero, List.take_zero]; exact HO.out), HN, HB⟩
  case round =>
    clear HR HO HB HN
    obtain ⟨n, bb, ob, cb, u, v, hn, rfl, rfl, rfl, rfl, HR, HO, HN, HB⟩ := hrel
    by_cases hlt : 16 * n < d.length
    · have c1 : ((16 * n : Nat) : Int) < (d.length : Int) := by omega
      have m0 : (0 : Int) ≤ ((16 * n : Nat) : Int) := by omega
      have CL := hid (cuN_len b NB.out n)
      have CY := hid (cuN_byt b yb n)
      have KK := hid (HK.out.keep HB.out HKL.out)
      have PE := hid (show (enc F (cuN b n)).length = 16 from stt_len F (cuN b n) CL.out 10)
      have PY := hid (show Byt (enc F (cuN b n)) from stt_byt F HF.out (cuN b n) CY.out 10)
      have MN := hid (rfl : 16 * n = 16 * n)
      generalize hm : 16 * n = m at *
      replace MN := hid hm
      clear hm
      go_wp2_with fail
      refine (l2enc _ (cuN b n) F gk _ HR.out CY.out CL.out KK.out HF.out).mono ?_
      rintro e w1 ⟨r, rfl, OP, hB1⟩
      obtain ⟨bp, cp, rfl, hp1, hp2⟩ := own_spot OP (by rw [PE.out]; omega)
      rw [PE.out] at OP ⊢
      have P1 := hid OP.rd
      have R1 := hid (HR.out.below hB1)
      have O1 := hid (HO.out.below hB1)
      have N2 := hid (HO.out.ne_new hp1)
      have B1 := hid (HB.out.trans (hB1.mono HB.out.size))
      have hbb : bb < w1.heap.size := Nat.lt_of_lt_of_le (rd_blk HR.out (by rw [CL.out]; omega)) hB1.size
      have HBB := hid hbb
      have HBP := hid hp2
      clear OP hB1 HO HR HB KK hp1 hp2 hbb
      go_wp2_with fail
      go_loopw [7, 10] (fun o7 j10 wt => ∃ k : Nat, k ≤ 16 ∧ m + k ≤ d.length ∧ j10 = .int .i64 (k : Nat) ∧ Hid (Rd wt (.slice (some ⟨bb, ob, none⟩) 16 cb) (cuN b n)) ∧ Hid (Rd wt (.slice (some ⟨bp, 0, none⟩) 16 cp) (enc F (cuN b n))) ∧ Hid (Own wt w.heap.size o7 ((strm F b d).take (m + k))) ∧ Hid (some bb ≠ o7.ownBlock) ∧ Hid (some bp ≠ o7.ownBlock) ∧ Hid (w1.heap.size ≤ wt.heap.size) ∧ Hid (Below w.heap.size w wt)) (fun _ j10 _ => 16 - (intOf j10).toNat)
      case atStart => exact ⟨0, by omega, by omega, rfl, R1, P1, O1, HN, N2, hid (Nat.le_refl _), B1⟩
      case round =>
        clear R1 P1 O1 HN N2 B1
        obtain ⟨k, hk, hmk, rfl, R1, P1, O1, HN, N2, HS1, B1⟩ := hrel
        by_cases hin : k < 16 ∧ m + k < d.length
        · obtain ⟨hk16, hkd⟩ := hin
          obtain ⟨bd, od, rfl, cd0⟩ := HCD.out (m + k) hkd
          have nda := O1.out.ne (World.block_lt_of_cell? w _ cd0)
          have cd := cell_kept B1.out cd0
          rw [← gt_eq d (m + k) hkd] at cd
          have cpad := P1.out.cells k (by rw [PE.out]; exact hk16)
          rw [Nat.zero_add] at cpad
          have KD := hid (cell_alloc cd)
          have KP := hid (cell_alloc cpad)
          have hx := gt_byt d yd (m + k)
          have hy := gt_byt _ PY.out k
          have hsn := take_snoc (strm F b d) (m + k) (by rw [SL.out]; exact hkd)
          have he : (strm F b d)[m + k]'(by rw [SL.out]; exact hkd) = gt d (m + k) ^^^ gt (enc F (cuN b n)) k := by
            rw [← gt_eq (strm F b d) (m + k) (by rw [SL.out]; exact hkd), strm_gt _ _ _ _ hkd, pad, show (m + k) / 16 = n by have := MN.out; omega, show (m + k) % 16 = k by have := MN.out; omega]
          rw [he] at hsn
          have HS := hid hsn
          have hnn : ((strm F b d).take (m + k)).length = m + k := by rw [List.length_take, SL.out]; omega
          have HNN := hid hnn
          have hownK : wr.ownsRow w.heap.size 5 1 u7 (m + k) (((strm F b d).take (m + k)).map bv) := by
            have h := O1.out
            unfold Own at h
            rw [hnn] at h
            exact h
          have hsz := B1.out.size
          have HMK := hid (show od + (m + k) = od + ((m : Int) + (k : Int)).toNat by omega)
          rw [HMK.out] at cd KD
          have wmk : IntKind.i64.wrap ((m : Int) + (k : Int)) = (m : Int) + (k : Int) := by rw [IntKind.wrap_i64]; omega
          have mk0 : (0 : Int) ≤ (m : Int) + (k : Int) := by omega
          have mk1 : (m : Int) + (k : Int) < (d.length : Int) := by omega
          have k0 : (0 : Int) ≤ (k : Int) := by omega
          have k1 : (k : Int) < 16 := by omega
          generalize gt d (m + k) = x at *
          generalize gt (enc F (cuN b n)) k = y at *
          unfold bv at cd KD
          have HX : Hid (bits .xor .u8 (x : Int) (y : Int) = ((x ^^^ y : Nat) : Int)) := xor8' x y hx hy
          have ndp := N2.out
          have ndb := HN.out
          have E16 := hid hk16
          have Ekd := hid hkd
          clear hsn he hnn cd0 hk16 hkd
          go_wp2
          go_region_held3 (fun w' => w'.cell? ⟨bd, od + ((m : Int) + (k : Int)).toNat, none⟩ = some (.int .u8 (x : Nat)) ∧ w'.cell? ⟨bp, k, none⟩ = some (.int .u8 (y : Nat)))
            (first | exact ⟨cd, cpad⟩ | exact ⟨KD.out _, KP.out _⟩ | exact ⟨hgrow.cell (KD.out _) nda, hgrow.cell (KP.out _) ndp⟩)
            ((refine step_append_lies _ (by rfl) _ _ _ (by rfl) w.heap.size 5 i0 _ 1 1 Try.underlying22 hi hz0 hz1 hz2 rfl (by omega) _ _ _ (by rfl) ((World.ownsRow.alloc hownK _).drew) ⟨wr.heap.size, 0, none⟩ 1 1 [.int .u8 (bits .xor .u8 (x : Int) (y : Int))] (by rfl) (by rfl) (World.news_of_block (cs := #[.int .u8 (bits .xor .u8 (x : Int) (y : Int))]) (t := 5) (fr := (0, 0)) (heap_alloc_new wr _)) (by simp [Value.oneCell']) (by omega) (by have := Ekd.out; unfold maxLen; omega) (by have := Ekd.out; omega) (by simp; omega) (wr.heap.size + 1) (by simp) ?_; intro gg cap w2 hown1 hgrow hat hlt2))
          have hO1 : Own w2 w.heap.size (.slice (some ⟨gg, 0, none⟩) (m + k + 1) cap) ((strm F b d).take (m + (k + 1))) := by
            rw [← Nat.add_assoc, HS.out]
            rw [HX.out] at hown1
            exact own_snoc (by rw [HNN.out]; exact hown1)
          have hb1 : Below w.heap.size w w2 := ((B1.out.alloc hsz _).drew).grown hgrow (by simp; omega) (fun g e => (World.ownsRow.lt O1.out g e).1)
          have hR2 := hid (rd_kept ((R1.out.below (below_alloc1 wr (.cells #[.int .u8 (bits .xor .u8 (x : Int) (y : Int))] 5))).below (show Below _ _ _ from (Below.refl _ _).drew)) hgrow ndb)
          have hP2 := hid (rd_kept ((P1.out.below (below_alloc1 wr (.cells #[.int .u8 (bits .xor .u8 (x : Int) (y : Int))] 5))).below (show Below _ _ _ from (Below.refl _ _).drew)) hgrow ndp)
          have hN1 : some bb ≠ (Value.slice (some ⟨gg, 0, none⟩) (m + k + 1) cap).ownBlock := by
            intro e
            have e : bb = gg := by simpa [Value.ownBlock] using e
            rcases hat with q | q
            · exact ndb (by rw [e]; exact q.symm)
            · have h1 := HS1.out
              have h2 := HBB.out
              omega
          have hN2 : some bp ≠ (Value.slice (some ⟨gg, 0, none⟩) (m + k + 1) cap).ownBlock := by
            intro e
            have e : bp = gg := by simpa [Value.ownBlock] using e
            rcases hat with q | q
            · exact ndp (by rw [e]; exact q.symm)
            · have h1 := HS1.out
              have h2 := HBP.out
              omega
          have hZ2 : w1.heap.size ≤ w2.heap.size := by
            have h1 := HS1.out
            have h2 := hgrow.size
            simp at h2
            omega
          replace hO1 := hid hO1
          replace hb1 := hid hb1
          replace hN1 := hid hN1
          replace hN2 := hid hN2
          replace hZ2 := hid hZ2
          clear hown1 hgrow hownK O1 B1 R1 P1 cd cpad ndb ndp nda
          go_wp2
          go_roundw
          case rel => exact ⟨k + 1, by have := E16.out; omega, by have := Ekd.out; omega, by go_num, hR2, hP2, hO1, hN1, hN2, hZ2, hb1⟩
          case measure => simp [intOf]; omega
        · have TK := hid (show (strm F b d).take (m + k) = (strm F b d).take (16 * (n + 1)) by
            have hm := MN.out
            by_cases h1 : k < 16
            · rw [List.take_of_length_le (by rw [SL.out]; omega), List.take_of_length_le (by rw [SL.out]; omega)]
            · rw [show m + k = 16 * (n + 1) by omega])
          rw [TK.out] at O1
          have MN2 := hid (show m + 16 = 16 * (n + 1) by have := MN.out; omega)
          have hj : (¬ (k : Int) < 16) ∨ ((k : Int) < 16 ∧ ¬ (m : Int) + (k : Int) < (d.length : Int)) := by omega
          have wmk : IntKind.i64.wrap ((m : Int) + (k : Int)) = (m : Int) + (k : Int) := by rw [IntKind.wrap_i64]; omega
          have wm : IntKind.i64.wrap ((m : Int) + 16) = (m : Int) + 16 := by rw [IntKind.wrap_i64]; omega
          have hlm := hid hlt
          clear hin
          rcases hj with j1 | ⟨j1, j2⟩
          · go_wp2_with fail
            refine (l3count _ (cuN b n) _ R1.out CY.out CL.out).mono ?_
            rintro e w3 ⟨v3, rfl, O3, hB3⟩
            have L3 := cuN_len b NB.out (n + 1)
            obtain ⟨b3, c3, rfl, q1, q2⟩ := own_spot O3 (by rw [show cu (cuN b n) = cuN b (n + 1) from rfl, L3]; omega)
            rw [show cu (cuN b n) = cuN b (n + 1) from rfl, L3] at O3 ⊢
            have G1 := hid O3.rd
            have G2 := hid (O1.out.below hB3)
            have G3 := hid (O1.out.ne_new q1)
            have G4 := hid (B1.out.trans (hB3.mono B1.out.size))
            clear O3 hB3 O1 R1 P1 HN N2 B1
            go_wp2_with fail
            exact ⟨⟨n + 1, b3, 0, c3, _, _, by have := MN2.out; have := hlm.out; omega, rfl, rfl, i64_eq (by have := MN2.out; omega), rfl, G1, G2, G3, G4⟩, by simp [intOf]; omega⟩
          · go_wp2_with fail
            refine (l3count _ (cuN b n) _ R1.out CY.out CL.out).mono ?_
            rintro e w3 ⟨v3, rfl, O3, hB3⟩
            have L3 := cuN_len b NB.out (n + 1)
            obtain ⟨b3, c3, rfl, q1, q2⟩ := own_spot O3 (by rw [show cu (cuN b n) = cuN b (n + 1) from rfl, L3]; omega)
            rw [show cu (cuN b n) = cuN b (n + 1) from rfl, L3] at O3 ⊢
            have G1 := hid O3.rd
            have G2 := hid (O1.out.below hB3)
            have G3 := hid (O1.out.ne_new q1)
            have G4 := hid (B1.out.trans (hB3.mono B1.out.size))
            clear O3 hB3 O1 R1 P1 HN N2 B1
            go_wp2_with fail
            exact ⟨⟨n + 1, b3, 0, c3, _, _, by have := MN2.out; have := hlm.out; omega, rfl, rfl, i64_eq (by have := MN2.out; omega), rfl, G1, G2, G3, G4⟩, by simp [intOf]; omega⟩
    · have c1 : ¬ ((16 * n : Nat) : Int) < (d.length : Int) := by omega
      have m0 : (0 : Int) ≤ ((16 * n : Nat) : Int) := by omega
      rw [List.take_of_length_le (by rw [SL.out]; omega)] at HO
      generalize 16 * n = m at *
      go_wp2
      go_ret
      exact ⟨_, rfl, HO.out, HB.out⟩
end Go.Proofs.Ytckgjghpfjinfab.W
