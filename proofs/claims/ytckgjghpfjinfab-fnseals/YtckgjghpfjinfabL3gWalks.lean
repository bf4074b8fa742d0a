/-
  The tag, and what is sealed: the model's l3Tag, l3Seal.
-/
import Derived.Test.YtckgjghpfjinfabL3sWalks
import Derived.Test.YtckgjghpfjinfabL3hWalks
import Derived.Test.YtckgjghpfjinfabL2kWalks
namespace Go.Proofs.Ytckgjghpfjinfab.W
open Go.ChangeShapes Go.WideShapes Go.ChangeAt Go.RowKit
open Go.Proofs.Ytckgjghpfjinfab.M

theorem mul8 (n : Nat) (h : n ≤ 1000) : IntKind.i64.wrap (8 * (n : Int)) = 8 * (n : Int) := by rw [IntKind.wrap_i64]; omega
theorem pack8 (n : Nat) (w : World) (h : n ≤ 1000) :
    Calls Try.prog 120 #[.int .i64 (8 * (n : Int)), .int .i64 8] w fun e w' => ∃ v, e = .returned v ∧ Own w' w.heap.size v (packL (8 * n) 8) ∧ Below w.heap.size w w' := by
  have q := l1pack (8 * n) 8 w (by omega) (by omega) (by omega)
  rw [show ((8 * n : Nat) : Int) = 8 * (n : Int) by omega] at q
  exact q.mono fun e w' ⟨h1, h2, h3⟩ => ⟨_, h1, h2, h3⟩
theorem app_below {w w' w0 : World} {base B : Nat} {v : Value} {l : List Nat} (hO : Own w base v l) (hG : w.grownBy w' v.ownBlock) (hB : Below B w0 w) (hb : B ≤ base) (hz : B ≤ w.heap.size) : Below B w0 w' := hB.grown hG hz (hO.row hb)

set_option maxHeartbeats 2000000 in
set_option maxRecDepth 100000 in
theorem l3tag (gk : Nat) (F : Nat → Nat) (vn ve vc : Value) (n e c : List Nat) (w : World) (hK : Ar w gk 5 (rowTo 176 F 176)) (hF : ∀ j, F j < 256) (hn : Rd w vn n) (he : Rd w ve e) (hc : Rd w vc c) (yn : Byt n) (ye : Byt e) (yc : Byt c) (nn : n.length = 12) (ne : e.length ≤ 101) (nc : c.length ≤ 700) :
    Calls Try.prog 127 #[.slice (some ⟨gk, 0, none⟩) 176 176, vn, ve, vc] w fun r w' => ∃ v, r = .returned v ∧ Own w' w.heap.size v (tg F n e c) ∧ Below w.heap.size w w' := by
  obtain ⟨i0, hi, hz0, hz1, hz2⟩ := info_parts info8
  obtain ⟨p1, c1, rfl, -, -, -⟩ := hn.parts
  obtain ⟨p2, c2, rfl, -, -, -⟩ := he.parts
  obtain ⟨p3, c3, rfl, -, -, -⟩ := hc.parts
  have HK := hid hK
  have HKL := hid hK.lt
  have HN := hid hn
  have HE := hid he
  have HC := hid hc
  have NN := hid nn
  have NE := hid ne
  have NC := hid nc
  clear hK hn he hc nn ne nc
  go_enter Try.func127, Try.ntmps127
  go_wp2_with (at_make; refine wpList_make_full _ rfl _ _ 22 rfl w.heap.size 5 i0 (.int .u8 0) 1 Try.underlying22 hi hz0 hz1 .i64 .i64 _ _ 16 rfl rfl rfl rfl (by rw [hz2]; omega) (by unfold maxLen; omega) (Nat.le_refl _) ?_; intro w0 hown0 hgrow0)
  have Z0 := hid (show Own w0 w.heap.size (.slice (some ⟨w.heap.size, 0, none⟩) 16 16) (zs 16) from own_made w w0 16 hown0)
  have B0 := hid (below_of_grown hgrow0 (Nat.le_refl _) (fun k hk => by simp at hk))
  clear hown0 hgrow0 hi hz0 hz1 hz2
  refine (l2enc _ (zs 16) F gk _ Z0.out.rd (zs_byt 16) (zs_len 16) (HK.out.keep B0.out HKL.out) hF).mono ?_
  rintro r w1 ⟨vh, rfl, OH, hM⟩
  obtain ⟨bh, ch, rfl, hh1, hh2⟩ := own_spot OH (by rw [show (enc F (zs 16)).length = 16 from stt_len F _ (zs_len 16) 10]; omega)
  rw [show (enc F (zs 16)).length = 16 from stt_len F _ (zs_len 16) 10] at OH ⊢
  have RH := hid OH.rd
  have B1 := hid (B0.out.trans (hM.mono B0.out.size))
  clear OH hM Z0 B0 hh1 hh2
  go_wp2_with fail
  refine (l3whole _ e _ (HE.out.below B1.out) (by have := NE.out; omega)).mono ?_
  rintro r w2 ⟨v2, rfl, O2, hM⟩
  replace O2 := hid O2
  have H2 := hid hM
  have B2 := hid (B1.out.trans (hM.mono B1.out.size))
  clear hM
  have LE := hid (whole_len e)
  have LC := hid (whole_len c)
  have m1 := mul8 e.length (by have := NE.out; omega)
  have m2 := mul8 c.length (by have := NC.out; omega)
  go_wp2_with fail
  refine (l3whole _ c _ (HC.out.below B2.out) (by have := NC.out; omega)).mono ?_
  rintro r w3 ⟨v3, rfl, O3, hM⟩
  have P3 := hid (O2.out.below hM)
  have R3 := hid O3.rd
  have H3 := hid (H2.out.trans (hM.mono H2.out.size))
  have B3 := hid (B2.out.trans (hM.mono B2.out.size))
  clear hM O2 H2 B2 O3
  go_wp2_with (at_builtin; refine list_app rfl _ _ rfl _ _ (whole e) (whole c) w1.heap.size rfl rfl P3.out R3.out (by rw [LE.out, LC.out]; have := NE.out; have := NC.out; omega) (H3.out.size) ?_; intro v4 w4 O4 G4)
  have H4 := hid (app_below P3.out G4 H3.out (Nat.le_refl _) H3.out.size)
  have B4 := hid (app_below P3.out G4 B3.out B1.out.size B3.out.size)
  replace O4 := hid O4
  clear G4 P3 R3 H3 B3
  refine (pack8 e.length _ (by have := NE.out; omega)).mono ?_
  rintro r w5 ⟨v5, rfl, O5, hM⟩
  have P5 := hid (O4.out.below hM)
  have R5 := hid O5.rd
  have H5 := hid (H4.out.trans (hM.mono H4.out.size))
  have B5 := hid (B4.out.trans (hM.mono B4.out.size))
  clear hM O4 H4 B4 O5
  go_wp2_with (at_builtin; refine list_app rfl _ _ rfl _ _ (whole e ++ whole c) (packL (8 * e.length) 8) w1.heap.size rfl rfl P5.out R5.out (by rw [List.length_append, packL_len, LE.out, LC.out]; have := NE.out; have := NC.out; omega) (H5.out.size) ?_; intro v6 w6 O6 G6)
  have H6 := hid (app_below P5.out G6 H5.out (Nat.le_refl _) H5.out.size)
  have B6 := hid (app_below P5.out G6 B5.out B1.out.size B5.out.size)
  replace O6 := hid O6
  clear G6 P5 R5 H5 B5
  refine (pack8 c.length _ (by have := NC.out; omega)).mono ?_
  rintro r w7 ⟨v7, rfl, O7, hM⟩
  have P7 := hid (O6.out.below hM)
  have R7 := hid O7.rd
  have H7 := hid (H6.out.trans (hM.mono H6.out.size))
  have B7 := hid (B6.out.trans (hM.mono B6.out.size))
  clear hM O6 H6 B6 O7
  go_wp2_with (at_builtin; refine list_app rfl _ _ rfl _ _ (whole e ++ whole c ++ packL (8 * e.length) 8) (packL (8 * c.length) 8) w1.heap.size rfl rfl P7.out R7.out (by rw [List.length_append, List.length_append, packL_len, packL_len, LE.out, LC.out]; have := NE.out; have := NC.out; omega) (H7.out.size) ?_; intro v8 w8 O8 G8)
  have H8 := hid (app_below P7.out G8 H7.out (Nat.le_refl _) H7.out.size)
  have B8 := hid (app_below P7.out G8 B7.out B1.out.size B7.out.size)
  replace O8 := hid (show Own w8 w1.heap.size v8 (thash e c) from O8)
  clear G8 P7 R7 H7 B7
  refine (l3first _ n _ (HN.out.below B8.out) (by rw [NN.out]; omega)).mono ?_
  rintro r w9 ⟨v9, rfl, O9, hM⟩
  have P9 := hid (O8.out.below hM)
  have R9 := hid O9.rd
  have H9 := hid (H8.out.trans (hM.mono H8.out.size))
  have B9 := hid (B8.out.trans (hM.mono B8.out.size))
  clear hM O8 H8 B8 O9
  go_wp2_with fail
  refine (l2enc _ (jb n) F gk _ R9.out (jb_byt n yn) (jb_len n NN.out) (HK.out.keep B9.out HKL.out) hF).mono ?_
  rintro r w10 ⟨v10, rfl, O10, hM⟩
  have P10 := hid (P9.out.below hM)
  have R10 := hid O10
  have H10 := hid (H9.out.trans (hM.mono H9.out.size))
  have B10 := hid (B9.out.trans (hM.mono B9.out.size))
  clear hM P9 R9 H9 B9 O10
  go_wp2_with fail
  refine (l3hash _ _ (enc F (zs 16)) (thash e c) _ (RH.out.below H10.out) P10.out.rd (stt_byt F hF _ (zs_byt 16) 10) (thash_byt e c ye yc) (stt_len F _ (zs_len 16) 10) (by rw [thash_len, LE.out, LC.out]; have := NE.out; have := NC.out; omega)).mono ?_
  rintro r w11 ⟨g11, rfl, O11, hM⟩
  have R11 := hid (R10.out.below hM)
  have Q11 := hid O11
  have B11 := hid (B10.out.trans (hM.mono B10.out.size))
  clear hM P10 R10 H10 B10 O11
  go_wp2_with fail
  refine (l1xor _ _ (enc F (jb n)) (hshB (enc F (zs 16)) (thash e c)) _ R11.out.rd Q11.out.rd (stt_byt F hF _ (jb_byt n yn) 10) (hshB_byt _ _) (by rw [show (enc F (jb n)).length = 16 from stt_len F _ (jb_len n NN.out) 10]; omega) (by rw [show (enc F (jb n)).length = 16 from stt_len F _ (jb_len n NN.out) 10, hshB_len])).mono ?_
  rintro r w12 ⟨v12, rfl, O12, hM⟩
  have O13 := hid (O12.mono (base' := w.heap.size) B11.out.size)
  have B12 := hid (B11.out.trans (hM.mono B11.out.size))
  clear hM O12
  go_wp2
  go_ret
  exact ⟨v12, rfl, O13.out, B12.out⟩
end Go.Proofs.Ytckgjghpfjinfab.W
