/-
  What is sealed: the model's l3Seal, SealText.
-/
import Derived.Test.YtckgjghpfjinfabL3gWalks
import Derived.Test.YtckgjghpfjinfabAskWalks
namespace Go.Proofs.Ytckgjghpfjinfab.W
open Go.ChangeShapes Go.WideShapes Go.ChangeAt Go.RowKit
open Go.Proofs.Ytckgjghpfjinfab.M

set_option maxHeartbeats 1000000 in
set_option maxRecDepth 100000 in
theorem l3seal (vk vn ve vp : Value) (k n e p : List Nat) (w : World) (hk : Rd w vk k) (hn : Rd w vn n) (he : Rd w ve e) (hp : Rd w vp p) (yk : Byt k) (yn : Byt n) (ye : Byt e) (yp : Byt p) (nk : k.length = 16) (nn : n.length = 12) (ne : e.length ≤ 101) (np : p.length ≤ 700) :
    Calls Try.prog 74 #[vk, vn, ve, vp] w fun r w' => ∃ v, r = .returned v ∧ Own w' w.heap.size v (sld (kf k) n e p) ∧ Below w.heap.size w w' := by
  obtain ⟨p1, c1, rfl, -, -, -⟩ := hk.parts
  obtain ⟨p2, c2, rfl, -, -, -⟩ := hn.parts
  obtain ⟨p3, c3, rfl, -, -, -⟩ := he.parts
  obtain ⟨p4, c4, rfl, -, -, -⟩ := hp.parts
  have HN := hid hn
  have HE := hid he
  have HP := hid hp
  have HKy := hid hk
  have NK := hid nk
  have NN := hid nn
  have NE := hid ne
  have NP := hid np
  have HF := hid (kf_lt k yk)
  clear hk hn he hp nk nn ne np
  go_enter Try.func74, Try.ntmps74
  go_wp2_with fail
  refine (l2keys _ k _ HKy.out yk NK.out).mono ?_
  rintro r w1 ⟨rfl, K1, hM⟩
  have B1 := hid hM
  have K1 := hid K1
  have KL := hid (K1.out.lt)
  clear hM
  go_wp2_with fail
  refine (l3first _ n _ (HN.out.below B1.out) (by rw [NN.out]; omega)).mono ?_
  rintro r w2 ⟨v2, rfl, O2, hM⟩
  have R2 := hid O2.rd
  have K2 := hid (K1.out.below hM)
  have B2 := hid (B1.out.trans (hM.mono B1.out.size))
  clear hM O2 K1 B1
  go_wp2_with fail
  refine (l3count _ (jb n) _ R2.out (jb_byt n yn) (jb_len n NN.out)).mono ?_
  rintro r w3 ⟨v3, rfl, O3, hM⟩
  have R3 := hid O3.rd
  have K3 := hid (K2.out.below hM)
  have B3 := hid (B2.out.trans (hM.mono B2.out.size))
  clear hM O3 K2 B2 R2
  go_wp2_with fail
  refine (l3stream _ (kf k) _ _ (cu (jb n)) p _ K3.out HF.out R3.out (cu_len _ (jb_len n NN.out)) (cu_byt _ (jb_byt n yn)) (HP.out.below B3.out) yp (by have := NP.out; omega)).mono ?_
  rintro r w4 ⟨v4, rfl, O4, hM⟩
  replace O4 := hid (show Own w4 w3.heap.size v4 (hid1 (kf k) n p) from O4)
  have K4 := hid (K3.out.below hM)
  have B4 := hid (B3.out.trans (hM.mono B3.out.size))
  have Z3 := hid B3.out.size
  have Z34 := hid hM.size
  clear hM K3 B3 R3
  have HL := hid (show (hid1 (kf k) n p).length = p.length from strm_len _ _ _)
  go_wp2_with fail
  refine (l3tag _ (kf k) _ _ _ n e (hid1 (kf k) n p) _ K4.out HF.out (HN.out.below B4.out) (HE.out.below B4.out) O4.out.rd yn ye (strm_byt _ HF.out _ _ (cu_byt _ (jb_byt n yn)) yp) NN.out NE.out (by rw [HL.out]; exact NP.out)).mono ?_
  rintro r w5 ⟨v5, rfl, O5, hM⟩
  have P5 := hid (O4.out.below hM)
  have R5 := hid O5.rd
  have B5 := hid (B4.out.trans (hM.mono B4.out.size))
  have Z5 := hid (Nat.le_trans Z34.out hM.size)
  clear hM O4 B4 O5 K4
  go_wp2_with (at_builtin; refine list_app rfl _ _ rfl _ _ (hid1 (kf k) n p) (tg (kf k) n e (hid1 (kf k) n p)) w3.heap.size rfl rfl P5.out R5.out (by rw [HL.out, tg_len _ _ _ _ NN.out]; have := NP.out; omega) Z5.out ?_; intro v6 w6 O6 G6)
  have B6 := hid (app_below P5.out G6 B5.out Z3.out B5.out.size)
  have O7 := hid (show Own w6 w.heap.size v6 (sld (kf k) n e p) from O6.mono Z3.out)
  clear G6 O6
  go_wp2
  go_ret
  exact ⟨v6, rfl, O7.out, B6.out⟩

set_option maxRecDepth 100000 in
theorem ssl_ok (vk vn ve vp : Value) (k n e p : List Nat) (w : World) (hk : Rd w vk k) (hn : Rd w vn n) (he : Rd w ve e) (hp : Rd w vp p) (yk : Byt k) (yn : Byt n) (ye : Byt e) (yp : Byt p) (h : slOk k n e p = true) :
    Calls Try.prog 21 #[vk, vn, ve, vp] w fun r w' => ∃ v, r = .returned (.agg #[.int .i64 0, v]) ∧ Owx w' w.heap.size v (sld (kf k) n e p) ∧ Below w.heap.size w w' := by
  obtain ⟨p1, c1, rfl, -, -, -⟩ := hk.parts
  obtain ⟨p2, c2, rfl, -, -, -⟩ := hn.parts
  obtain ⟨p3, c3, rfl, -, -, -⟩ := he.parts
  obtain ⟨p4, c4, rfl, -, -, -⟩ := hp.parts
  have Q := hid (slOk_parts h)
  have A := hid (show askd k n e = true by simp only [slOk, Bool.and_eq_true] at h; exact h.1)
  have d4 : ¬ (600 : Int) < (p.length : Int) := by have := Q.out.2; omega
  have b0 := below_alloc1 w (.cells #[.int .i64 0, .slice none 0 0] 27)
  have HK := hid (hk.below b0)
  have HN := hid (hn.below b0)
  have HE := hid (he.below b0)
  have HP := hid (hp.below b0)
  clear hk hn he hp h b0
  go_enter Try.func21, Try.ntmps21
  go_wp2_with fail
  refine (l3asked _ _ _ _ _ _ k n e _).mono ?_
  rintro r w0 ⟨rfl, rfl⟩
  rw [A.out]
  go_wp2_with fail
  refine (l3seal _ _ _ _ k n e p _ HK.out HN.out HE.out HP.out yk yn ye yp Q.out.1.1 Q.out.1.2.1 (by have := Q.out.1.2.2; omega) (by have := Q.out.2; omega)).mono ?_
  rintro r w1 ⟨v, rfl, O, B1⟩
  simp only [World.size_alloc] at O
  obtain ⟨q, c, rfl, -, -, -⟩ := O.rd.parts
  have hv := var_below B1 (heap_alloc_new w (.cells #[.int .i64 0, .slice none 0 0] 27))
  have hB3 := (below_alloc1 w (.cells #[.int .i64 0, .slice none 0 0] 27)).trans (B1.mono (by simp))
  obtain ⟨f1, f2, f3, f4⟩ := var2_facts hv
  have hset := hid (var2_set (x' := .int .i64 0) (y' := .slice q (sld (kf k) n e p).length c) hv)
  have hbel := hid (below_set2 (x := .int .i64 0) (y := .slice q (sld (kf k) n e p).length c) hB3 (Nat.le_refl _))
  have hown := hid ((O.set2 (g := w.heap.size) (x := .int .i64 0) (y := .slice q (sld (kf k) n e p).length c) (by omega)).mono (base' := w.heap.size) (by omega)).x
  clear hv O B1 hB3 HK HN HE HP
  go_wp2
  exact bodyPost_ret (v := .agg #[.int .i64 0, .slice q (sld (kf k) n e p).length c]) (results_cell_row rfl _ _ w.heap.size 27 _ _ _ rfl hset.out Try.underlying27 rfl (by kernel_rfl)) rfl ⟨_, rfl, hown.out, hbel.out⟩

set_option maxRecDepth 100000 in
theorem ssl_no (vk vn ve vp : Value) (k n e p : List Nat) (w : World) (hk : Rd w vk k) (hn : Rd w vn n) (he : Rd w ve e) (hp : Rd w vp p) (h : slOk k n e p = false) :
    Calls Try.prog 21 #[vk, vn, ve, vp] w fun r w' => r = .returned (.agg #[.int .i64 2, .slice none 0 0]) ∧ Below w.heap.size w w' := by
  obtain ⟨p1, c1, rfl, -, -, -⟩ := hk.parts
  obtain ⟨p2, c2, rfl, -, -, -⟩ := hn.parts
  obtain ⟨p3, c3, rfl, -, -, -⟩ := he.parts
  obtain ⟨p4, c4, rfl, -, -, -⟩ := hp.parts
  clear hk hn he hp
  by_cases ha : askd k n e = true
  · have A := hid ha
    have d4 : (600 : Int) < (p.length : Int) := by
      simp only [slOk, ha, Bool.true_and, decide_eq_false_iff_not] at h
      omega
    clear ha h
    go_enter Try.func21, Try.ntmps21
    go_wp2_with fail
    refine (l3asked _ _ _ _ _ _ k n e _).mono ?_
    rintro r w0 ⟨rfl, rfl⟩
    rw [A.out]
    go_wp2
    exact bodyPost_ret (v := .agg #[.int .i64 2, .slice none 0 0]) (by simp [results, Try.results21, go_sem]) rfl ⟨rfl, below_alloc1 w _⟩
  · have A := hid (show askd k n e = false by simpa using ha)
    clear ha h
    go_enter Try.func21, Try.ntmps21
    go_wp2_with fail
    refine (l3asked _ _ _ _ _ _ k n e _).mono ?_
    rintro r w0 ⟨rfl, rfl⟩
    rw [A.out]
    go_wp2
    exact bodyPost_ret (v := .agg #[.int .i64 2, .slice none 0 0]) (by simp [results, Try.results21, go_sem]) rfl ⟨rfl, below_alloc1 w _⟩

theorem ssl (vk vn ve vp : Value) (k n e p : List Nat) (w : World) (hk : Rd w vk k) (hn : Rd w vn n) (he : Rd w ve e) (hp : Rd w vp p) (yk : Byt k) (yn : Byt n) (ye : Byt e) (yp : Byt p) :
    Calls Try.prog 21 #[vk, vn, ve, vp] w fun r w' => ∃ v, r = .returned (.agg #[.int .i64 (slC k n e p), v]) ∧ Owx w' w.heap.size v (slB k n e p) ∧ Below w.heap.size w w' := by
  by_cases h : slOk k n e p = true
  · rw [show slC k n e p = 0 by rw [slC, if_pos h], show slB k n e p = sld (kf k) n e p by rw [slB, if_pos h]]
    exact ssl_ok vk vn ve vp k n e p w hk hn he hp yk yn ye yp h
  · rw [show slC k n e p = 2 by rw [slC, if_neg h], show slB k n e p = [] by rw [slB, if_neg h]]
    exact (ssl_no vk vn ve vp k n e p w hk hn he hp (by simpa using h)).mono fun e w' ⟨he, hb⟩ => ⟨_, he, Owx.nil _ _, hb⟩
end Go.Proofs.Ytckgjghpfjinfab.W
