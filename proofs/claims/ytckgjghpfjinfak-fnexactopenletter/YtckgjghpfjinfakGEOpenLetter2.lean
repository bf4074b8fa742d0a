/-
  A letter that is opened: what the model's OpenLetter answers.
  The faults of a ring: what the program's keyFault and idsRise answer.
  The bytes of a slice as an array: of no function.
  The map of a ring's keys: what put and has do.
  A ring as the program works with it: what keyringOf answers.
  A key's bytes, looked up in a ring's map, in every world in which the map is what it was.
  Steps of a region that draws its order: a whole array loaded or stored.
  Numbers out of bytes: what ReadWord of the program answers.
  Marks and heads: what the program's isMarked and isRight answer.
  The head of a letter out of its bytes: what the program's readHead and ReadHead answer.
  The head of a letter out of its bytes: what the program's ReadHead answers.
  Numbers as bytes: PackWord of the program, where the number fits.
-/
import Derived.Test.YtckgjghpfjinfakOlF
import Derived.Test.YtckgjghpfjinfakSrfW
import Derived.Test.YtckgjghpfjinfakRhW
import Derived.Test.YtckgjghpfjinfakEnvW
import Derived.Test.YtckgjghpfjinfakTailW
import Derived.Test.YtckgjghpfjinfakGEOpenLetter1
import Derived.Test.YtckgjghpfjinfakInWalks
import Derived.Test.YtckgjghpfjinfakRfF
import Derived.Deep.RegionHeld3
import Derived.Test.YtckgjghpfjinfakSlX
import Derived.Test.YtckgjghpfjinfakRng
import Derived.Maps.OwnSet
import Derived.Deep.DeepCutAuto
import Derived.Deep.RegionLaw
import Derived.Test.YtckgjghpfjinfakWithin
import Derived.Test.YtckgjghpfjinfakRead
import Derived.Test.YtckgjghpfjinfakEnvF
import Derived.Test.YtckgjghpfjinfakLetF
import Derived.Test.YtckgjghpfjinfakRhF
import Derived.Laws.ResultCell
import Derived.Test.YtckgjghpfjinfakPack

namespace Go.Proofs.Ytckgjghpfjinfak.W
open Go.ChangeShapes Go.WideShapes Go.ChangeAt Go.RowKit
open Go.Proofs.Ytckgjghpfjinfak.M

set_option maxHeartbeats 4000000 in
set_option maxRecDepth 100000 in
theorem sol (p : Int) (v vd : Value) (ks : List (Int × List Nat)) (l : List Nat) (hc hk hs hn c rk rs rc : Int) (t : List Nat) (w : World) (h : RdK w v ks) (hd : Rd w vd l) (yk : KBy ks) (yl : Byt l) (hm : l.length ≤ 1048576) (hR : rhIs l hc hk hs hn) (hF : olIs p ks l hc hk hs hn c rk rs rc t) :
    Calls Try.prog 29 #[.agg #[.int .i64 p, v], vd] w fun e w' => ∃ v', e = .returned (.agg #[.int .i64 c, .int .i64 rk, .int .i64 rs, .int .i64 rc, v']) ∧ Rd w' v' t ∧ Below w.heap.size w w' := by
  have H := hid h
  have HD := hid hd
  have HF := hid hF
  have HR := hid hR
  have YK := hid yk
  have YL := hid yl
  obtain ⟨a, cap, rfl, -, -, -⟩ := h.parts
  obtain ⟨ad, cd, rfl, -, -, -⟩ := hd.parts
  clear h hd hF hR yk yl
  go_enter Try.func29, Try.ntmps29
  go_wp2_with fail
  have VA := hid (heap_alloc2_old w (.cells #[.int .i64 p, .slice a ks.length cap] 55) (.cells #[.int .i64 0, .int .i64 0, .int .i64 0, .int .i64 0, .slice none 0 0] 40))
  have VR := hid (heap_alloc2_new w (.cells #[.int .i64 p, .slice a ks.length cap] 55) (.cells #[.int .i64 0, .int .i64 0, .int .i64 0, .int .i64 0, .slice none 0 0] 40))
  have BB := hid (below_alloc2 w (.cells #[.int .i64 p, .slice a ks.length cap] 55) (.cells #[.int .i64 0, .int .i64 0, .int .i64 0, .int .i64 0, .slice none 0 0] 40))
  replace H := hid (H.out.below BB.out)
  replace HD := hid (HD.out.below BB.out)
  generalize (w.alloc (.cells #[.int .i64 p, .slice a ks.length cap] 55)).alloc (.cells #[.int .i64 0, .int .i64 0, .int .i64 0, .int .i64 0, .slice none 0 0] 40) = w0 at *
  obtain ⟨g1, hg1⟩ : ∃ g, g = w.heap.size + 1 := ⟨_, rfl⟩
  obtain ⟨g, hg⟩ : ∃ g, g = w.heap.size := ⟨_, rfl⟩
  have LG := hid (show w.heap.size ≤ g1 by omega)
  have LG0 := hid (show w.heap.size ≤ g by omega)
  rw [← hg1] at VR ⊢
  rw [← hg] at VA ⊢
  clear hg hg1
  refine (srf p _ ks _ H.out).mono ?_
  rintro e w1 ⟨rfl, hB⟩
  replace VA := hid (var_below hB VA.out)
  replace VR := hid (var_below hB VR.out)
  replace H := hid (H.out.below hB)
  replace HD := hid (HD.out.below hB)
  replace BB := hid (BB.out.trans (hB.mono BB.out.size))
  clear hB
  obtain ⟨f, hf⟩ : ∃ f, f = rF p ks := ⟨_, rfl⟩
  rw [← hf]
  by_cases h0 : f = 0
  · subst h0
    obtain ⟨k1, k3, k16, -, -⟩ := rF_parts hf.symm
    replace hf := hid hf
    have K16 := hid (fun i hi => (k16 i hi).2)
    clear k16
    by_cases h2 : 327 < l.length
    · obtain ⟨rfl, rfl, rfl, rfl, rfl⟩ := ol_many HF.out hf.out.symm h2
      obtain ⟨⟨r0, r1, r2, r3, r4⟩, y0, y1, y2, y3, y4⟩ := var5_facts VR.out
      have hset := hid (var5_set (v' := .int .i64 2) (x' := .int .i64 0) (y' := .int .i64 0) (z' := .int .i64 0) (u' := .slice none 0 0) VR.out)
      have hbel := hid (below_set5 (g := g1) (v := .int .i64 2) (x := .int .i64 0) (y := .int .i64 0) (z := .int .i64 0) (u := .slice none 0 0) BB.out LG.out)
      go_wp2
      try simp only [Exit.inBlock, Exit.then]
      exact bodyPost_ret (v := .agg #[.int .i64 2, .int .i64 0, .int .i64 0, .int .i64 0, .slice none 0 0]) (results_cell_row rfl _ _ g1 40 _ _ _ rfl hset.out Try.underlying40 rfl (by kernel_rfl)) rfl ⟨_, rfl, Rd.nil _, hbel.out⟩
    · have h2' : l.length ≤ 327 := by omega
      go_wp2_with fail
      refine (srh _ l hc hk hs hn _ HD.out YL.out hm HR.out).mono ?_
      rintro e w2 ⟨rfl, hB⟩
      replace VA := hid (var_below hB VA.out)
      replace VR := hid (var_below hB VR.out)
      replace H := hid (H.out.below hB)
      replace HD := hid (HD.out.below hB)
      replace BB := hid (BB.out.trans (hB.mono BB.out.size))
      clear hB
      have VH := hid (heap_alloc_new w2 (.cells #[.int .i64 hc, .int .i64 hk, .int .i64 hs, .int .i64 hn, .slice none 0 0] 40))
      have hB := below_alloc1 w2 (.cells #[.int .i64 hc, .int .i64 hk, .int .i64 hs, .int .i64 hn, .slice none 0 0] 40)
      have LH := hid (show g1 < w2.heap.size from var_lt VR.out)
      replace VA := hid (var_below hB VA.out)
      replace VR := hid (var_below hB VR.out)
      replace H := hid (H.out.below hB)
      replace HD := hid (HD.out.below hB)
      replace BB := hid (BB.out.trans (hB.mono BB.out.size))
      clear hB
      by_cases h3 : hc = 0
      · subst h3
        obtain ⟨l11, hok⟩ := rh_in HR.out
        have HOK := hid hok
        clear hok
        obtain ⟨⟨d0, d1, d2, d3, d4⟩, -⟩ := var5_facts VH.out
        go_wp2_with fail
        clear d0 d1 d2 d3 d4
        generalize w2.alloc (.cells #[.int .i64 0, .int .i64 hk, .int .i64 hs, .int .i64 hn, .slice none 0 0] 40) = w3 at *
        obtain ⟨gh, hgh⟩ : ∃ g, g = w2.heap.size := ⟨_, rfl⟩
        rw [← hgh] at VH LH ⊢
        have LGH := hid (show w.heap.size ≤ gh from Nat.le_trans LG.out (Nat.le_of_lt LH.out))
        clear hgh
        refine (l4find g p hk _ ks _ VA.out H.out (by omega)).mono ?_
        rintro e w4 ⟨r, rfl, hr, hB⟩
        replace VA := hid (var_below hB VA.out)
        replace VR := hid (var_below hB VR.out)
        replace H := hid (H.out.below hB)
        replace HD := hid (HD.out.below hB)
        replace BB := hid (BB.out.trans (hB.mono BB.out.size))
        replace VH := hid (var_below hB VH.out)
        clear hB
        rcases hr with ⟨rfl, hN⟩ | ⟨i, hi, rfl, he, hnn⟩
        · obtain ⟨rfl, rfl, rfl, rfl, rfl⟩ := ol_none HF.out hf.out.symm h2' hN
          replace hN := hid hN
          obtain ⟨⟨r0, r1, r2, r3, r4⟩, y0, y1, y2, y3, y4⟩ := var5_facts VR.out
          have hset := hid (var5_set (v' := .int .i64 4) (x' := .int .i64 0) (y' := .int .i64 0) (z' := .int .i64 0) (u' := .slice none 0 0) VR.out)
          have hbel := hid (below_set5 (g := g1) (v := .int .i64 4) (x := .int .i64 0) (y := .int .i64 0) (z := .int .i64 0) (u := .slice none 0 0) BB.out LG.out)
          go_wp2
          try simp only [Exit.inBlock, Exit.then]
          exact bodyPost_ret (v := .agg #[.int .i64 4, .int .i64 0, .int .i64 0, .int .i64 0, .slice none 0 0]) (results_cell_row rfl _ _ g1 40 _ _ _ rfl hset.out Try.underlying40 rfl (by kernel_rfl)) rfl ⟨_, rfl, Rd.nil _, hbel.out⟩
        · replace hnn := hid hnn
          obtain ⟨ad', cd', e, hlc, -, -⟩ := HD.out.parts
          cases e
          obtain ⟨bd, od, cdd, e, -, -⟩ := HD.out.spot (by omega)
          cases e
          obtain ⟨at', RT, RRT⟩ := run_tail bd od l.length cd l11 hlc
          obtain ⟨hkn, ek⟩ : ∃ x : Nat, hk = x := ⟨hk.toNat, by have := HOK.out.1; omega⟩
          obtain ⟨hsn, es⟩ : ∃ x : Nat, hs = x := ⟨hs.toNat, by have := HOK.out.2.1; omega⟩
          obtain ⟨hnx, en⟩ : ∃ x : Nat, hn = x := ⟨hn.toNat, by have := HOK.out.2.2; omega⟩
          subst ek es en
          obtain ⟨a', ca', e, -, -, hcs⟩ := H.out.parts
          cases e
          obtain ⟨b, o, u, rfl, q1, q2, q3⟩ := hcs i hi
          obtain ⟨pu, cu, rfl, -, -, -⟩ := q3.parts
          have RK := hid q3
          have RT' := hid RRT
          have I1 := idx_kf b o ks.length cap i hi
          have i0 : (0 : Int) ≤ (i : Int) := by omega
          have i1 : (i : Int) < (ks.length : Int) := by omega
          have j0 : ¬ ((i : Int) < 0) := by omega
          have OPK := hid (show opOk (ks[i]).2 (nonceL hsn hnx) (headL hkn hsn hnx) (l.drop 11) = true from op_in (K16.out i hi) (nonceL_len _ _) (headL_len _ _ _) (by rw [List.length_drop]; omega))
          have VH4 := VH
          obtain ⟨f0, f1, -, -⟩ := var2_facts VA.out
          obtain ⟨⟨d0, d1, d2, d3, d4⟩, -⟩ := var5_facts VH.out
          clear hcs q3 RRT
          go_wp2_with fail
          refine wp_region_held_drew (S := fun w' => Below w4.heap.size w4 w') (by kernel_rfl) (Below.refl _ _).drew (fun hH => ?_)
          generalize w4.drew = x at hH ⊢
          refine wpAnyH_take (i := 0) (v := .pointer (some ⟨g, 1, none⟩)) (by simp only [List.getElem?_toArray, List.getElem?_cons_zero]; rfl) (by kernel_rfl) (by kernel_rfl) (by kernel_rfl) (by intro _ _ _ h; exact h) (Or.inl ⟨by rfl, fun w hS => by go_simp⟩) hH ?_
          simp only [Act.put, List.setIfInBounds_toArray, List.set_cons_zero, List.set_cons_succ]
          refine wpAnyH_take (i := 1) (v := .slice (some ⟨b, o, none⟩) ks.length cap) (by simp only [List.getElem?_toArray, List.getElem?_cons_succ, List.getElem?_cons_zero]; rfl) (by kernel_rfl) (by kernel_rfl) (by kernel_rfl) (by intro _ _ _ h; exact h) (Or.inl ⟨by rfl, fun w hS => by (have y0 := cell_kept hS f1; go_simp)⟩) hH ?_
          simp only [Act.put, List.setIfInBounds_toArray, List.set_cons_zero, List.set_cons_succ]
          refine wpAnyH_take (i := 2) (v := .int .i64 (i : Int)) (by simp only [List.getElem?_toArray, List.getElem?_cons_succ, List.getElem?_cons_zero]; rfl) (by kernel_rfl) (by kernel_rfl) (by kernel_rfl) (by intro _ _ _ h; exact h) (Or.inl ⟨by rfl, fun w hS => by go_simp⟩) hH ?_
          simp only [Act.put, List.setIfInBounds_toArray, List.set_cons_zero, List.set_cons_succ]
          refine wpAnyH_take (i := 3) (v := .pointer (some ⟨b, o + i * 2, none⟩)) (by simp only [List.getElem?_toArray, List.getElem?_cons_succ, List.getElem?_cons_zero]; rfl) (by kernel_rfl) (by kernel_rfl) (by kernel_rfl) (by intro _ _ _ h; exact h) (Or.inl ⟨by rfl, fun w hS => by go_simp⟩) hH ?_
          simp only [Act.put, List.setIfInBounds_toArray, List.set_cons_zero, List.set_cons_succ]
          refine wpAnyH_take (i := 4) (v := .pointer (some ⟨b, o + i * 2 + 1, none⟩)) (by simp only [List.getElem?_toArray, List.getElem?_cons_succ, List.getElem?_cons_zero]; rfl) (by kernel_rfl) (by kernel_rfl) (by kernel_rfl) (by intro _ _ _ h; exact h) (Or.inl ⟨by rfl, fun w hS => by go_simp⟩) hH ?_
          simp only [Act.put, List.setIfInBounds_toArray, List.set_cons_zero, List.set_cons_succ]
          refine wpAnyH_take (i := 5) (v := .slice pu (ks[i]).2.length cu) (by simp only [List.getElem?_toArray, List.getElem?_cons_succ, List.getElem?_cons_zero]; rfl) (by kernel_rfl) (by kernel_rfl) (by kernel_rfl) (by intro _ _ _ h; exact h) (Or.inl ⟨by rfl, fun w hS => by (have y0 := cell_kept hS q2; go_simp)⟩) hH ?_
          simp only [Act.put, List.setIfInBounds_toArray, List.set_cons_zero, List.set_cons_succ]
          refine wpAnyH_take (i := 6) (v := .pointer (some ⟨gh, 1, none⟩)) (by simp only [List.getElem?_toArray, List.getElem?_cons_succ, List.getElem?_cons_zero]; rfl) (by kernel_rfl) (by kernel_rfl) (by kernel_rfl) (by intro _ _ _ h; exact h) (Or.inl ⟨by rfl, fun w hS => by go_simp⟩) hH ?_
          simp only [Act.put, List.setIfInBounds_toArray, List.set_cons_zero, List.set_cons_succ]
          refine wpAnyH_take (i := 7) (v := .pointer (some ⟨gh, 2, none⟩)) (by simp only [List.getElem?_toArray, List.getElem?_cons_succ, List.getElem?_cons_zero]; rfl) (by kernel_rfl) (by kernel_rfl) (by kernel_rfl) (by intro _ _ _ h; exact h) (Or.inl ⟨by rfl, fun w hS => by go_simp⟩) hH ?_
          simp only [Act.put, List.setIfInBounds_toArray, List.set_cons_zero, List.set_cons_succ]
          refine wpAnyH_take (i := 8) (v := .int .i64 (hsn : Int)) (by simp only [List.getElem?_toArray, List.getElem?_cons_succ, List.getElem?_cons_zero]; rfl) (by kernel_rfl) (by kernel_rfl) (by kernel_rfl) (by intro _ _ _ h; exact h) (Or.inl ⟨by rfl, fun w hS => by (have y0 := cell_kept hS d2; go_simp)⟩) hH ?_
          simp only [Act.put, List.setIfInBounds_toArray, List.set_cons_zero, List.set_cons_succ]
          refine wpAnyH_take (i := 9) (v := .pointer (some ⟨gh, 1, none⟩)) (by simp only [List.getElem?_toArray, List.getElem?_cons_succ, List.getElem?_cons_zero]; rfl) (by kernel_rfl) (by kernel_rfl) (by kernel_rfl) (by intro _ _ _ h; exact h) (Or.inl ⟨by rfl, fun w hS => by go_simp⟩) hH ?_
          simp only [Act.put, List.setIfInBounds_toArray, List.set_cons_zero, List.set_cons_succ]
          refine wpAnyH_take (i := 10) (v := .pointer (some ⟨gh, 3, none⟩)) (by simp only [List.getElem?_toArray, List.getElem?_cons_succ, List.getElem?_cons_zero]; rfl) (by kernel_rfl) (by kernel_rfl) (by kernel_rfl) (by intro _ _ _ h; exact h) (Or.inl ⟨by rfl, fun w hS => by go_simp⟩) hH ?_
          simp only [Act.put, List.setIfInBounds_toArray, List.set_cons_zero, List.set_cons_succ]
          refine wpAnyH_take (i := 11) (v := .int .i64 (hnx : Int)) (by simp only [List.getElem?_toArray, List.getElem?_cons_succ, List.getElem?_cons_zero]; rfl) (by kernel_rfl) (by kernel_rfl) (by kernel_rfl) (by intro _ _ _ h; exact h) (Or.inl ⟨by rfl, fun w hS => by (have y0 := cell_kept hS d3; go_simp)⟩) hH ?_
          simp only [Act.put, List.setIfInBounds_toArray, List.set_cons_zero, List.set_cons_succ]
          refine wpAnyH_take (i := 13) (v := .pointer (some ⟨gh, 1, none⟩)) (by simp only [List.getElem?_toArray, List.getElem?_cons_succ, List.getElem?_cons_zero]; rfl) (by kernel_rfl) (by kernel_rfl) (by kernel_rfl) (by intro _ _ _ h; exact h) (Or.inl ⟨by rfl, fun w hS => by go_simp⟩) hH ?_
          simp only [Act.put, List.setIfInBounds_toArray, List.set_cons_zero, List.set_cons_succ]
          refine wpAnyH_take (i := 15) (v := .slice (some ⟨bd, od, none⟩) l.length cd) (by simp only [List.getElem?_toArray, List.getElem?_cons_succ, List.getElem?_cons_zero]; rfl) (by kernel_rfl) (by kernel_rfl) (by kernel_rfl) (by intro _ _ _ h; exact h) (Or.inl ⟨by rfl, fun w hS => by go_simp⟩) hH ?_
          simp only [Act.put, List.setIfInBounds_toArray, List.set_cons_zero, List.set_cons_succ]
          refine wpAnyH_take (i := 16) (v := .slice at' (l.length - 11) (cd - 11)) (by simp only [List.getElem?_toArray, List.getElem?_cons_succ, List.getElem?_cons_zero]; rfl) (by kernel_rfl) (by kernel_rfl) (by kernel_rfl) (by intro _ _ _ h; exact h) (Or.inl ⟨by rfl, fun w hS => by (have y := RT; go_simp)⟩) hH ?_
          simp only [Act.put, List.setIfInBounds_toArray, List.set_cons_zero, List.set_cons_succ]
          refine wpAnyH_ready (rs := [12]) (by kernel_rfl) (by simp) ?_
          refine AllReadyH.cons (by simp only [List.getElem?_toArray, List.getElem?_cons_succ, List.getElem?_cons_zero]; rfl) (fun K hK => ?_) AllReadyH.nil
          go_simp
          refine (l5nonce hsn hnx _ (by have := HOK.out.2.1; omega) (by have := HOK.out.2.2; omega)).mono ?_
          rintro e x12 ⟨vn, rfl, hO, hM⟩
          obtain ⟨p12, k12, rfl, -, -, -⟩ := hO.rd.parts
          have SB := hid hH.size
          refine hK.out _ _ (hH.trans (hM.mono hH.size)) (fun hH => ?_)
          clear hK K
          have R12 := hid (hO.rd)
          clear hM SB
          refine wpAnyH_ready (rs := [14]) (by kernel_rfl) (by simp) ?_
          refine AllReadyH.cons (by simp only [List.getElem?_toArray, List.getElem?_cons_succ, List.getElem?_cons_zero]; rfl) (fun K hK => ?_) AllReadyH.nil
          go_simp
          refine (l5hoff hkn hsn hnx gh 1 _ (cell_kept hH d1) (cell_kept hH d2) (cell_kept hH d3) (by have := HOK.out.1; omega) (by have := HOK.out.2.1; omega) (by have := HOK.out.2.2; omega)).mono ?_
          rintro e x14 ⟨vh, rfl, hO, hM⟩
          obtain ⟨p14, k14, rfl, -, -, -⟩ := hO.rd.parts
          have SB := hid hH.size
          refine hK.out _ _ (hH.trans (hM.mono hH.size)) (fun hH => ?_)
          clear hK K
          replace R12 := hid (R12.out.below hM)
          have R14 := hid (hO.rd)
          clear hM SB
          refine wpAnyH_ready (rs := [17]) (by kernel_rfl) (by simp) ?_
          refine AllReadyH.cons (by simp only [List.getElem?_toArray, List.getElem?_cons_succ, List.getElem?_cons_zero]; rfl) (fun K hK => ?_) AllReadyH.nil
          go_simp
          refine (l3o _ _ _ _ (ks[i]).2 (nonceL hsn hnx) (headL hkn hsn hnx) (l.drop 11) _ (RK.out.below hH) R12.out R14.out (RT'.out _ _ (HD.out.below hH)) (YK.out _ (List.getElem_mem hi)) (nonceL_byt _ _) (headL_byt _ _ _ (by have := HOK.out.1; omega) (by have := HOK.out.2.1; omega)) (byt_drop YL.out 11) OPK.out).mono ?_
          rintro e x17 ⟨p17, m17, k17, b17, rfl, hres, hM⟩
          have XS := hid hH.size
          have SB := hid hH.size
          refine hK.out _ _ (hH.trans (hM.mono hH.size)) (fun hH => ?_)
          clear hK K
          replace R12 := hid (R12.out.below hM)
          replace R14 := hid (R14.out.below hM)
          clear hM SB
          clear R12 R14
          refine wpAnyH_take (i := 18) (v := .tuple #[.slice p17 m17 k17, .bool b17]) (by simp only [List.getElem?_toArray, List.getElem?_cons_succ, List.getElem?_cons_zero]; rfl) (by kernel_rfl) (by kernel_rfl) (by kernel_rfl) (by intro _ _ _ h; exact h) (Or.inl ⟨by rfl, fun w hS => by go_simp⟩) hH ?_
          simp only [Act.put, List.setIfInBounds_toArray, List.set_cons_zero, List.set_cons_succ]
          refine wpAnyH_take (i := 19) (v := .slice p17 m17 k17) (by simp only [List.getElem?_toArray, List.getElem?_cons_succ, List.getElem?_cons_zero]; rfl) (by kernel_rfl) (by kernel_rfl) (by kernel_rfl) (by intro _ _ _ h; exact h) (Or.inl ⟨by rfl, fun w hS => by go_simp⟩) hH ?_
          simp only [Act.put, List.setIfInBounds_toArray, List.set_cons_zero, List.set_cons_succ]
          refine wpAnyH_take (i := 20) (v := .bool b17) (by simp only [List.getElem?_toArray, List.getElem?_cons_succ, List.getElem?_cons_zero]; rfl) (by kernel_rfl) (by kernel_rfl) (by kernel_rfl) (by intro _ _ _ h; exact h) (Or.inl ⟨by rfl, fun w hS => by go_simp⟩) hH ?_
          simp only [Act.put, List.setIfInBounds_toArray, List.set_cons_zero, List.set_cons_succ]
          refine wpAnyH_take (i := 21) (v := .slice p17 m17 k17) (by simp only [List.getElem?_toArray, List.getElem?_cons_succ, List.getElem?_cons_zero]; rfl) (by kernel_rfl) (by kernel_rfl) (by kernel_rfl) (by intro _ _ _ h; exact h) (Or.inl ⟨by rfl, fun w hS => by go_simp⟩) hH ?_
          simp only [Act.put, List.setIfInBounds_toArray, List.set_cons_zero, List.set_cons_succ]
          refine wpAnyH_take (i := 22) (v := .bool b17) (by simp only [List.getElem?_toArray, List.getElem?_cons_succ, List.getElem?_cons_zero]; rfl) (by kernel_rfl) (by kernel_rfl) (by kernel_rfl) (by intro _ _ _ h; exact h) (Or.inl ⟨by rfl, fun w hS => by go_simp⟩) hH ?_
          simp only [Act.put, List.setIfInBounds_toArray, List.set_cons_zero, List.set_cons_succ]
          refine wpAnyH_done (by kernel_rfl) ?_ _
          have hB := hH
          clear hH f0 f1 d0 d1 d2 d3 d4 q1 q2
          replace VR := hid (var_below hB VR.out)
          replace VH := hid (var_below hB VH.out)
          replace BB := hid (BB.out.trans (hB.mono BB.out.size))
          clear hB
          rcases hres with ⟨hop, rfl, hO⟩ | ⟨hop, rfl, -⟩
          · obtain ⟨rfl, rfl, rfl, rfl, rfl⟩ := ol_ok HF.out hf.out.symm h2' i hi he (by rw [oC_nat]; exact hop)
            have EB := hid (oB_nat (ks[i]).2 hkn hsn hnx l)
            have OU0 := hid (OB.of hO.x)
            have LV := hid (show g1 < _ from Nat.lt_of_lt_of_le (Nat.lt_of_lt_of_le LH.out (Nat.le_of_lt (var_lt VH4.out))) XS.out)
            have LV2 := hid (show gh < _ from Nat.lt_of_lt_of_le (var_lt VH4.out) XS.out)
            have OU := hid (OU0.out.under ⟨gh, 4, none⟩ LV2.out (.slice p17 m17 k17))
            clear hO OU0
            obtain ⟨⟨d0, d1, d2, d3, d4⟩, z0, z1, z2, z3, z4⟩ := var5_facts VH.out
            have VH2 := hid (var5_last (u' := .slice p17 m17 k17) VH.out)
            obtain ⟨⟨t0, t1, t2, t3, t4⟩, -⟩ := var5_facts VH2.out
            replace VR := hid (var_oth VR.out ⟨gh, 4, none⟩ (.slice p17 m17 k17) (Nat.ne_of_lt LH.out))
            replace BB := hid (BB.out.setCell (p := ⟨gh, 4, none⟩) LGH.out (.slice p17 m17 k17))
            obtain ⟨⟨r0, r1, r2, r3, r4⟩, y0, y1, y2, y3, y4⟩ := var5_facts VR.out
            replace hop := hid hop
            have hset := hid (var5_set (v' := .int .i64 0) (x' := .int .i64 (hkn : Int)) (y' := .int .i64 (hsn : Int)) (z' := .int .i64 (hnx : Int)) (u' := .slice p17 m17 k17) VR.out)
            have hbel := hid (below_set5 (g := g1) (v := .int .i64 0) (x := .int .i64 (hkn : Int)) (y := .int .i64 (hsn : Int)) (z := .int .i64 (hnx : Int)) (u := .slice p17 m17 k17) BB.out LG.out)
            go_wp2
            try simp only [Exit.inBlock, Exit.then]
            exact bodyPost_ret (v := .agg #[.int .i64 0, .int .i64 (hkn : Int), .int .i64 (hsn : Int), .int .i64 (hnx : Int), .slice p17 m17 k17]) (results_cell_row rfl _ _ g1 40 _ _ _ rfl hset.out Try.underlying40 rfl (by kernel_rfl)) rfl ⟨_, rfl, EB.out ▸ (((((OU.out.under ⟨g1, 0, none⟩ LV.out _).under ⟨g1, 1, none⟩ LV.out _).under ⟨g1, 2, none⟩ LV.out _).under ⟨g1, 3, none⟩ LV.out _).under ⟨g1, 4, none⟩ LV.out _).rd, hbel.out⟩
          · obtain ⟨rfl, rfl, rfl, rfl, rfl⟩ := ol_seal HF.out hf.out.symm h2' i hi he (by rw [oC_nat]; exact hop)
            replace hop := hid hop
            obtain ⟨⟨r0, r1, r2, r3, r4⟩, y0, y1, y2, y3, y4⟩ := var5_facts VR.out
            have hset := hid (var5_set (v' := .int .i64 9) (x' := .int .i64 0) (y' := .int .i64 0) (z' := .int .i64 0) (u' := .slice none 0 0) VR.out)
            have hbel := hid (below_set5 (g := g1) (v := .int .i64 9) (x := .int .i64 0) (y := .int .i64 0) (z := .int .i64 0) (u := .slice none 0 0) BB.out LG.out)
            go_wp2
            try simp only [Exit.inBlock, Exit.then]
            exact bodyPost_ret (v := .agg #[.int .i64 9, .int .i64 0, .int .i64 0, .int .i64 0, .slice none 0 0]) (results_cell_row rfl _ _ g1 40 _ _ _ rfl hset.out Try.underlying40 rfl (by kernel_rfl)) rfl ⟨_, rfl, Rd.nil _, hbel.out⟩
      · obtain ⟨rfl, rfl, rfl⟩ := rh_bad HR.out h3
        obtain ⟨rfl, rfl, rfl, rfl, rfl⟩ := ol_head HF.out hf.out.symm h2' h3
        have ne : (c != 0) = true := by rw [bne_iff_ne]; exact h3
        replace h3 := hid h3
        obtain ⟨⟨d0, d1, d2, d3, d4⟩, -⟩ := var5_facts VH.out
        obtain ⟨⟨r0, r1, r2, r3, r4⟩, y0, y1, y2, y3, y4⟩ := var5_facts VR.out
        have hset := hid (var5_set (v' := .int .i64 c) (x' := .int .i64 0) (y' := .int .i64 0) (z' := .int .i64 0) (u' := .slice none 0 0) VR.out)
        have hbel := hid (below_set5 (g := g1) (v := .int .i64 c) (x := .int .i64 0) (y := .int .i64 0) (z := .int .i64 0) (u := .slice none 0 0) BB.out LG.out)
        go_wp2
        try simp only [Exit.inBlock, Exit.then]
        exact bodyPost_ret (v := .agg #[.int .i64 c, .int .i64 0, .int .i64 0, .int .i64 0, .slice none 0 0]) (results_cell_row rfl _ _ g1 40 _ _ _ rfl hset.out Try.underlying40 rfl (by kernel_rfl)) rfl ⟨_, rfl, Rd.nil _, hbel.out⟩
  · obtain ⟨hcc, rfl, rfl, rfl, rfl⟩ := ol_bad HF.out (fun q => h0 (hf.trans q))
    rw [← hf] at hcc
    subst hcc
    replace hf := hid hf
    have ne : (c != 0) = true := by rw [bne_iff_ne]; exact h0
    replace h0 := hid h0
    obtain ⟨⟨r0, r1, r2, r3, r4⟩, y0, y1, y2, y3, y4⟩ := var5_facts VR.out
    have hset := hid (var5_set (v' := .int .i64 c) (x' := .int .i64 0) (y' := .int .i64 0) (z' := .int .i64 0) (u' := .slice none 0 0) VR.out)
    have hbel := hid (below_set5 (g := g1) (v := .int .i64 c) (x := .int .i64 0) (y := .int .i64 0) (z := .int .i64 0) (u := .slice none 0 0) BB.out LG.out)
    go_wp2
    try simp only [Exit.inBlock, Exit.then]
    exact bodyPost_ret (v := .agg #[.int .i64 c, .int .i64 0, .int .i64 0, .int .i64 0, .slice none 0 0]) (results_cell_row rfl _ _ g1 40 _ _ _ rfl hset.out Try.underlying40 rfl (by kernel_rfl)) rfl ⟨_, rfl, Rd.nil _, hbel.out⟩
end Go.Proofs.Ytckgjghpfjinfak.W

namespace Go.Proofs.Ytckgjghpfjinfak.W
open Go.ChangeShapes Go.WideShapes Go.ChangeAt Go.RowKit
open Go.Proofs.Ytckgjghpfjinfak.M

theorem ret_j {a b : Int} (h : a = b) : Ending.returned (.int .i64 a) = .returned (.int .i64 b) := by rw [h]
set_option maxRecDepth 100000 in
theorem ikf (id' : Int) (a : Option Addr) (n c : Nat) (w : World) (l : List Nat) (hl : l.length = n) :
    Calls Try.prog 71 #[.agg #[.int .i64 id', .slice a n c]] w fun e w' => e = .returned (.int .i64 (kF (id', l))) ∧ Below w.heap.size w w' := by
  go_enter Try.func71, Try.ntmps71
  go_wp2_with fail
  have V := hid (heap_alloc2_old w (.cells #[.int .i64 id', .slice a n c] 86) (.cells #[.int .i64 id', .int .i64 1, .int .i64 255] 70))
  have BB := hid (below_alloc2 w (.cells #[.int .i64 id', .slice a n c] 86) (.cells #[.int .i64 id', .int .i64 1, .int .i64 255] 70))
  have V2 := heap_alloc2_new w (.cells #[.int .i64 id', .slice a n c] 86) (.cells #[.int .i64 id', .int .i64 1, .int .i64 255] 70)
  generalize (w.alloc (.cells #[.int .i64 id', .slice a n c] 86)).alloc (.cells #[.int .i64 id', .int .i64 1, .int .i64 255] 70) = w0 at *
  refine (within1 _ _ _ _ _ V2).mono ?_
  rintro e w1 ⟨rfl, hB⟩
  replace V := hid (var_below hB V.out)
  replace BB := hid (BB.out.trans (hB.mono BB.out.size))
  clear hB V2
  obtain ⟨g, hg⟩ : ∃ g, g = w.heap.size := ⟨_, rfl⟩
  rw [← hg] at V ⊢
  clear hg
  obtain ⟨f0, f1, -, -⟩ := var2_facts V.out
  by_cases h1 : 1 ≤ id' ∧ id' ≤ 255
  · rw [show inB id' 1 255 = true by unfold inB; exact decide_eq_true h1]
    by_cases h2 : n = 16
    · have E := hid (show kF (id', l) = 0 by rw [kF, if_pos h1, if_pos (hl.trans h2)])
      subst h2
      clear h1
      go_wp2_with (go_at_call 84; go_in)
      go_ret
      exact ⟨ret_j E.out.symm, BB.out⟩
    · have E := hid (show kF (id', l) = 2 by rw [kF, if_pos h1, if_neg (fun q => h2 (hl.symm.trans q))])
      have ne : ((n : Int) == 16) = false := beq_eq_false_iff_ne.2 (by omega)
      clear h1
      go_wp2_with (go_at_call 84; go_in)
      go_ret
      exact ⟨ret_j E.out.symm, BB.out⟩
  · rw [show inB id' 1 255 = false by unfold inB; exact decide_eq_false h1]
    have E := hid (show kF (id', l) = 3 by rw [kF, if_neg h1])
    clear h1
    go_wp2
    go_ret
    exact ⟨ret_j E.out.symm, BB.out⟩
theorem idx_kg (b o n c j : Nat) (hj : j < n) (w : World) : (Instr.indexAt 53 (.slice (some ⟨b, o, none⟩) n c) (.int .i64 (j : Int))).run Try.prog w = .ok (.pointer (some ⟨b, o + j * 2, none⟩)) w := by
  have hs : ∀ w : World, (sizeOf (Try.prog.elem 53)).run Try.prog w = .ok 2 w := fun _ => by kernel_rfl
  rw [run_indexAt_slice (P := Try.prog) w 53 _ n c .i64 (j : Int) (by kernel_rfl)]
  simp [hs, hj, Result.andThen, Addr.add_lit]
set_option maxRecDepth 100000 in
theorem idr (v : Value) (ks : List (Int × List Nat)) (w : World) (h : RdK w v ks) (h1 : 1 ≤ ks.length) (hl : ks.length ≤ 1048576) :
    Calls Try.prog 72 #[v] w fun e w' => ∃ t : Bool, e = .returned (.bool t) ∧ (t = true → Rise ks) ∧ (t = false → ¬ Rise ks) ∧ Below w.heap.size w w' := by
  have H := hid h
  obtain ⟨a, cap, rfl, -, -, -⟩ := h.parts
  clear h
  go_enter Try.func72, Try.ntmps72
  go_wp2_with fail
  go_loopw [3] (fun i wr => ∃ k : Nat, 1 ≤ k ∧ k ≤ ks.length ∧ i = .int .i64 k ∧ Hid (∀ j (h : j + 1 < ks.length), j + 1 < k → (ks[j]'(by omega)).1 < (ks[j + 1]).1) ∧ Hid (Below w.heap.size w wr)) (fun i _ => ks.length - (intOf i).toNat)
  case atStart => exact ⟨1, by omega, h1, rfl, hid (fun j _ h => by omega), hid (Below.refl _ _)⟩
  case round =>
    obtain ⟨k, hk1, hk, rfl, R, BL⟩ := hrel
    by_cases hlt : k < ks.length
    · obtain ⟨a', ca', e, -, -, hcs⟩ := (H.out.below BL.out).parts
      cases e
      obtain ⟨b, o, u, rfl, q1, -, -⟩ := hcs k hlt
      obtain ⟨m, hm⟩ : ∃ m, m = k - 1 := ⟨_, rfl⟩
      have hml : m < ks.length := by omega
      obtain ⟨b', o', u', e, t1, -, -⟩ := hcs m hml
      cases e
      have W1 : (k : Int) - 1 = (m : Int) := by omega
      have W2 : IntKind.i64.wrap (m : Int) = (m : Int) := by rw [IntKind.wrap_i64]; omega
      have I1 := idx_kg b o ks.length cap k hlt
      have I2 := idx_kg b o ks.length cap m hml
      have k0 : (0 : Int) ≤ (k : Int) := by omega
      have k1 : (k : Int) < (ks.length : Int) := by omega
      have m1 : (m : Int) < (ks.length : Int) := by omega
      have em : k = m + 1 := by omega
      have RN : Hid ((ks[m]).1 < (ks[k]).1 → ∀ j (h : j + 1 < ks.length), j + 1 < k + 1 → (ks[j]'(by omega)).1 < (ks[j + 1]).1) := hid (fun hx j h hj => by
        rcases Nat.lt_or_ge (j + 1) k with q | q
        · exact R.out j h q
        · obtain rfl : j = m := by omega
          subst em
          exact hx)
      have RF : Hid (¬ (ks[m]).1 < (ks[k]).1 → ¬ Rise ks) := hid (fun hx hr => by
        subst em
        exact hx (hr m hlt))
      replace em := hid em
      generalize (ks[k]).1 = x at *
      generalize (ks[m]).1 = y at *
      clear hcs hm
      by_cases e : y < x
      · have R2 := hid (RN.out e)
        have le : ¬ x ≤ y := by omega
        have dl : decide (x ≤ y) = false := decide_eq_false le
        go_wp2_with fail
        refine wp_region_held_drew (S := fun w' => Below wr.heap.size wr w') (by kernel_rfl) (Below.refl _ _).drew (fun hH => ?_)
        refine wpAnyH_take (i := 0) (v := .slice (some ⟨b, o, none⟩) ks.length cap) (by simp only [List.getElem?_toArray, List.getElem?_cons_zero]; rfl) (by kernel_rfl) (by kernel_rfl) (by kernel_rfl) (by intro _ _ _ h; exact h) (Or.inl ⟨by rfl, fun w hS => by go_simp⟩) hH ?_
        simp only [Act.put, List.setIfInBounds_toArray, List.set_cons_zero, List.set_cons_succ]
        refine wpAnyH_take (i := 1) (v := .int .i64 (k : Int)) (by simp only [List.getElem?_toArray, List.getElem?_cons_succ, List.getElem?_cons_zero]; rfl) (by kernel_rfl) (by kernel_rfl) (by kernel_rfl) (by intro _ _ _ h; exact h) (Or.inl ⟨by rfl, fun w hS => by go_simp⟩) hH ?_
        simp only [Act.put, List.setIfInBounds_toArray, List.set_cons_zero, List.set_cons_succ]
        refine wpAnyH_take (i := 2) (v := .pointer (some ⟨b, o + k * 2, none⟩)) (by simp only [List.getElem?_toArray, List.getElem?_cons_succ, List.getElem?_cons_zero]; rfl) (by kernel_rfl) (by kernel_rfl) (by kernel_rfl) (by intro _ _ _ h; exact h) (Or.inl ⟨by rfl, fun w hS => by go_simp⟩) hH ?_
        simp only [Act.put, List.setIfInBounds_toArray, List.set_cons_zero, List.set_cons_succ]
        refine wpAnyH_take (i := 3) (v := .pointer (some ⟨b, o + k * 2, none⟩)) (by simp only [List.getElem?_toArray, List.getElem?_cons_succ, List.getElem?_cons_zero]; rfl) (by kernel_rfl) (by kernel_rfl) (by kernel_rfl) (by intro _ _ _ h; exact h) (Or.inl ⟨by rfl, fun w hS => by go_simp⟩) hH ?_
        simp only [Act.put, List.setIfInBounds_toArray, List.set_cons_zero, List.set_cons_succ]
        refine wpAnyH_take (i := 4) (v := .int .i64 x) (by simp only [List.getElem?_toArray, List.getElem?_cons_succ, List.getElem?_cons_zero]; rfl) (by kernel_rfl) (by kernel_rfl) (by kernel_rfl) (by intro _ _ _ h; exact h) (Or.inl ⟨by rfl, fun w hS => by (have y0 := cell_kept hS q1; go_simp)⟩) hH ?_
        simp only [Act.put, List.setIfInBounds_toArray, List.set_cons_zero, List.set_cons_succ]
        refine wpAnyH_take (i := 5) (v := .slice (some ⟨b, o, none⟩) ks.length cap) (by simp only [List.getElem?_toArray, List.getElem?_cons_succ, List.getElem?_cons_zero]; rfl) (by kernel_rfl) (by kernel_rfl) (by kernel_rfl) (by intro _ _ _ h; exact h) (Or.inl ⟨by rfl, fun w hS => by go_simp⟩) hH ?_
        simp only [Act.put, List.setIfInBounds_toArray, List.set_cons_zero, List.set_cons_succ]
        refine wpAnyH_take (i := 6) (v := .int .i64 (k : Int)) (by simp only [List.getElem?_toArray, List.getElem?_cons_succ, List.getElem?_cons_zero]; rfl) (by kernel_rfl) (by kernel_rfl) (by kernel_rfl) (by intro _ _ _ h; exact h) (Or.inl ⟨by rfl, fun w hS => by go_simp⟩) hH ?_
        simp only [Act.put, List.setIfInBounds_toArray, List.set_cons_zero, List.set_cons_succ]
        refine wpAnyH_take (i := 7) (v := .int .i64 (m : Int)) (by simp only [List.getElem?_toArray, List.getElem?_cons_succ, List.getElem?_cons_zero]; rfl) (by kernel_rfl) (by kernel_rfl) (by kernel_rfl) (by intro _ _ _ h; exact h) (Or.inl ⟨by rfl, fun w hS => by go_simp⟩) hH ?_
        simp only [Act.put, List.setIfInBounds_toArray, List.set_cons_zero, List.set_cons_succ]
        refine wpAnyH_take (i := 8) (v := .pointer (some ⟨b, o + m * 2, none⟩)) (by simp only [List.getElem?_toArray, List.getElem?_cons_succ, List.getElem?_cons_zero]; rfl) (by kernel_rfl) (by kernel_rfl) (by kernel_rfl) (by intro _ _ _ h; exact h) (Or.inl ⟨by rfl, fun w hS => by go_simp⟩) hH ?_
        simp only [Act.put, List.setIfInBounds_toArray, List.set_cons_zero, List.set_cons_succ]
        refine wpAnyH_take (i := 9) (v := .pointer (some ⟨b, o + m * 2, none⟩)) (by simp only [List.getElem?_toArray, List.getElem?_cons_succ, List.getElem?_cons_zero]; rfl) (by kernel_rfl) (by kernel_rfl) (by kernel_rfl) (by intro _ _ _ h; exact h) (Or.inl ⟨by rfl, fun w hS => by go_simp⟩) hH ?_
        simp only [Act.put, List.setIfInBounds_toArray, List.set_cons_zero, List.set_cons_succ]
        refine wpAnyH_take (i := 10) (v := .int .i64 y) (by simp only [List.getElem?_toArray, List.getElem?_cons_succ, List.getElem?_cons_zero]; rfl) (by kernel_rfl) (by kernel_rfl) (by kernel_rfl) (by intro _ _ _ h; exact h) (Or.inl ⟨by rfl, fun w hS => by (have y0 := cell_kept hS t1; go_simp)⟩) hH ?_
        simp only [Act.put, List.setIfInBounds_toArray, List.set_cons_zero, List.set_cons_succ]
        refine wpAnyH_take (i := 11) (v := .bool false) (by simp only [List.getElem?_toArray, List.getElem?_cons_succ, List.getElem?_cons_zero]; rfl) (by kernel_rfl) (by kernel_rfl) (by kernel_rfl) (by intro _ _ _ h; exact h) (Or.inl ⟨by rfl, fun w hS => by go_simp⟩) hH ?_
        simp only [Act.put, List.setIfInBounds_toArray, List.set_cons_zero, List.set_cons_succ]
        refine wpAnyH_done (by kernel_rfl) ?_ _
        replace BL := hid (BL.out.trans (hH.mono BL.out.size))
        clear hH
        go_wp2
        go_roundw
        case rel => exact ⟨k + 1, by omega, hlt, by go_num, R2, BL⟩
        case measure => simp [intOf]; omega
      · have E := hid (RF.out e)
        have le : x ≤ y := by omega
        have dl : decide (x ≤ y) = true := decide_eq_true le
        go_wp2_with fail
        refine wp_region_held_drew (S := fun w' => Below wr.heap.size wr w') (by kernel_rfl) (Below.refl _ _).drew (fun hH => ?_)
        refine wpAnyH_take (i := 0) (v := .slice (some ⟨b, o, none⟩) ks.length cap) (by simp only [List.getElem?_toArray, List.getElem?_cons_zero]; rfl) (by kernel_rfl) (by kernel_rfl) (by kernel_rfl) (by intro _ _ _ h; exact h) (Or.inl ⟨by rfl, fun w hS => by go_simp⟩) hH ?_
        simp only [Act.put, List.setIfInBounds_toArray, List.set_cons_zero, List.set_cons_succ]
        refine wpAnyH_take (i := 1) (v := .int .i64 (k : Int)) (by simp only [List.getElem?_toArray, List.getElem?_cons_succ, List.getElem?_cons_zero]; rfl) (by kernel_rfl) (by kernel_rfl) (by kernel_rfl) (by intro _ _ _ h; exact h) (Or.inl ⟨by rfl, fun w hS => by go_simp⟩) hH ?_
        simp only [Act.put, List.setIfInBounds_toArray, List.set_cons_zero, List.set_cons_succ]
        refine wpAnyH_take (i := 2) (v := .pointer (some ⟨b, o + k * 2, none⟩)) (by simp only [List.getElem?_toArray, List.getElem?_cons_succ, List.getElem?_cons_zero]; rfl) (by kernel_rfl) (by kernel_rfl) (by kernel_rfl) (by intro _ _ _ h; exact h) (Or.inl ⟨by rfl, fun w hS => by go_simp⟩) hH ?_
        simp only [Act.put, List.setIfInBounds_toArray, List.set_cons_zero, List.set_cons_succ]
        refine wpAnyH_take (i := 3) (v := .pointer (some ⟨b, o + k * 2, none⟩)) (by simp only [List.getElem?_toArray, List.getElem?_cons_succ, List.getElem?_cons_zero]; rfl) (by kernel_rfl) (by kernel_rfl) (by kernel_rfl) (by intro _ _ _ h; exact h) (Or.inl ⟨by rfl, fun w hS => by go_simp⟩) hH ?_
        simp only [Act.put, List.setIfInBounds_toArray, List.set_cons_zero, List.set_cons_succ]
        refine wpAnyH_take (i := 4) (v := .int .i64 x) (by simp only [List.getElem?_toArray, List.getElem?_cons_succ, List.getElem?_cons_zero]; rfl) (by kernel_rfl) (by kernel_rfl) (by kernel_rfl) (by intro _ _ _ h; exact h) (Or.inl ⟨by rfl, fun w hS => by (have y0 := cell_kept hS q1; go_simp)⟩) hH ?_
        simp only [Act.put, List.setIfInBounds_toArray, List.set_cons_zero, List.set_cons_succ]
        refine wpAnyH_take (i := 5) (v := .slice (some ⟨b, o, none⟩) ks.length cap) (by simp only [List.getElem?_toArray, List.getElem?_cons_succ, List.getElem?_cons_zero]; rfl) (by kernel_rfl) (by kernel_rfl) (by kernel_rfl) (by intro _ _ _ h; exact h) (Or.inl ⟨by rfl, fun w hS => by go_simp⟩) hH ?_
        simp only [Act.put, List.setIfInBounds_toArray, List.set_cons_zero, List.set_cons_succ]
        refine wpAnyH_take (i := 6) (v := .int .i64 (k : Int)) (by simp only [List.getElem?_toArray, List.getElem?_cons_succ, List.getElem?_cons_zero]; rfl) (by kernel_rfl) (by kernel_rfl) (by kernel_rfl) (by intro _ _ _ h; exact h) (Or.inl ⟨by rfl, fun w hS => by go_simp⟩) hH ?_
        simp only [Act.put, List.setIfInBounds_toArray, List.set_cons_zero, List.set_cons_succ]
        refine wpAnyH_take (i := 7) (v := .int .i64 (m : Int)) (by simp only [List.getElem?_toArray, List.getElem?_cons_succ, List.getElem?_cons_zero]; rfl) (by kernel_rfl) (by kernel_rfl) (by kernel_rfl) (by intro _ _ _ h; exact h) (Or.inl ⟨by rfl, fun w hS => by go_simp⟩) hH ?_
        simp only [Act.put, List.setIfInBounds_toArray, List.set_cons_zero, List.set_cons_succ]
        refine wpAnyH_take (i := 8) (v := .pointer (some ⟨b, o + m * 2, none⟩)) (by simp only [List.getElem?_toArray, List.getElem?_cons_succ, List.getElem?_cons_zero]; rfl) (by kernel_rfl) (by kernel_rfl) (by kernel_rfl) (by intro _ _ _ h; exact h) (Or.inl ⟨by rfl, fun w hS => by go_simp⟩) hH ?_
        simp only [Act.put, List.setIfInBounds_toArray, List.set_cons_zero, List.set_cons_succ]
        refine wpAnyH_take (i := 9) (v := .pointer (some ⟨b, o + m * 2, none⟩)) (by simp only [List.getElem?_toArray, List.getElem?_cons_succ, List.getElem?_cons_zero]; rfl) (by kernel_rfl) (by kernel_rfl) (by kernel_rfl) (by intro _ _ _ h; exact h) (Or.inl ⟨by rfl, fun w hS => by go_simp⟩) hH ?_
        simp only [Act.put, List.setIfInBounds_toArray, List.set_cons_zero, List.set_cons_succ]
        refine wpAnyH_take (i := 10) (v := .int .i64 y) (by simp only [List.getElem?_toArray, List.getElem?_cons_succ, List.getElem?_cons_zero]; rfl) (by kernel_rfl) (by kernel_rfl) (by kernel_rfl) (by intro _ _ _ h; exact h) (Or.inl ⟨by rfl, fun w hS => by (have y0 := cell_kept hS t1; go_simp)⟩) hH ?_
        simp only [Act.put, List.setIfInBounds_toArray, List.set_cons_zero, List.set_cons_succ]
        refine wpAnyH_take (i := 11) (v := .bool true) (by simp only [List.getElem?_toArray, List.getElem?_cons_succ, List.getElem?_cons_zero]; rfl) (by kernel_rfl) (by kernel_rfl) (by kernel_rfl) (by intro _ _ _ h; exact h) (Or.inl ⟨by rfl, fun w hS => by go_simp⟩) hH ?_
        simp only [Act.put, List.setIfInBounds_toArray, List.set_cons_zero, List.set_cons_succ]
        refine wpAnyH_done (by kernel_rfl) ?_ _
        replace BL := hid (BL.out.trans (hH.mono BL.out.size))
        clear hH
        go_wp2
        go_ret
        exact ⟨false, rfl, (fun h => by cases h), (fun _ => E.out), BL.out⟩
    · have hke : k = ks.length := by omega
      subst hke
      have RR := hid (show Rise ks from fun j h => R.out j h h)
      go_wp2
      go_ret
      exact ⟨true, rfl, (fun _ => RR.out), (fun h => by cases h), BL.out⟩
end Go.Proofs.Ytckgjghpfjinfak.W

namespace Go.Proofs.Ytckgjghpfjinfak.W
open Go.ChangeShapes Go.WideShapes Go.ChangeAt Go.RowKit
open Go.Proofs.Ytckgjghpfjinfak.M

theorem rd_range {w : World} {b o n cap : Nat} {l : List Nat} (h : Rd w (.slice (some ⟨b, o, none⟩) n cap) l) : w.rangeAt b o (l.map bv) := fun j v hv => by
  obtain ⟨a, c, e, _, _, hcc⟩ := h
  have hj : j < l.length := by have := (List.getElem?_eq_some_iff.1 hv).1; simpa using this
  obtain ⟨b', o', e', hc⟩ := hcc j hj
  subst e'
  cases e
  rw [List.getElem?_map, List.getElem?_eq_getElem hj] at hv
  cases hv
  exact hc
theorem rangeAt.below {w w' : World} {b o : Nat} {cs : List Value} (h : w.rangeAt b o cs) (hb : Below w.heap.size w w') : w'.rangeAt b o cs := fun j v hv => cell_kept hb (h j v hv)
theorem setRow_alloc2 (w : World) (R : Obj) (c c' : Array Value) (t : TypeId) : ((w.alloc R).alloc (.cells c t)).setRow (w.heap.size + 1) c' = (w.alloc R).alloc (.cells c' t) := by
  have h := World.setRow_alloc_new (w.alloc R) c c' t
  rw [World.size_alloc] at h
  exact h
end Go.Proofs.Ytckgjghpfjinfak.W

namespace Go.Proofs.Ytckgjghpfjinfak.W
open Go.ChangeShapes Go.WideShapes Go.ChangeAt Go.RowKit Go.Maps
open Go.Proofs.Ytckgjghpfjinfak.M

/-- An element of the map reads as itself. -/
def Rv (v : Value) : Option (DataW Value × List MemPlace) := some (.held v, [])
/-- Block b is a map of at most n keys that reads as D. -/
def MapK (w : World) (b n : Nat) (D : DataW Value) : Prop := w.ownsMap Try.prog 2 Rv b n D
theorem lawK : Keyed Try.prog 2 := int_keyed Try.underlying2
theorem key_size16 (l : List Nat) (hl : l.length = 16) : (Try.prog.info? 91).map (·.size) = some (arr l).size := by rw [arr_size, hl]; kernel_rfl
theorem list16k (l : List Nat) (h : l.length = 16) : ∃ a0 a1 a2 a3 a4 a5 a6 a7 a8 a9 b0 b1 b2 b3 b4 b5, l = [a0, a1, a2, a3, a4, a5, a6, a7, a8, a9, b0, b1, b2, b3, b4, b5] := by
  match l, h with
  | [a0, a1, a2, a3, a4, a5, a6, a7, a8, a9, b0, b1, b2, b3, b4, b5], _ => exact ⟨a0, a1, a2, a3, a4, a5, a6, a7, a8, a9, b0, b1, b2, b3, b4, b5, rfl⟩
set_option maxRecDepth 100000 in
theorem held_built (l : List Nat) (h : l.length = 16) {x : List (Nat × Value)} (hx : x = [(0, .agg (arr l))]) : Try.prog.built 93 x = some (arr l) := by
  subst hx
  obtain ⟨a0, a1, a2, a3, a4, a5, a6, a7, a8, a9, b0, b1, b2, b3, b4, b5, rfl⟩ := list16k l h
  kernel_rfl
theorem step_buildK {P : Program} {ops : Array Oper} {o : Oper} {a : Act} {w : World} {K : Act → World → Prop} {Q : Exit → Act → World → Prop} {E : Prop} (hgd : o.guard = none) (t : TypeId) (parts : Array (Nat × Operand)) (ho : o.op = .build t parts) (cells : Array Value)
    (hb : P.built t (parts.map fun (i, x) => (i, a.eval x)).toList = some cells) (h : K (a.put o.dst (.agg cells)) w) : if Region.wanted o (yielded ops a.tmps) = true then Oper.wp P o a w K Q else E := by
  have hwa : Region.wanted o (yielded ops a.tmps) = true := by simp [Region.wanted, hgd]
  rw [if_pos hwa]
  refine wp_build t parts ho (by rw [hb]; rfl) ?_
  rw [hb]
  exact h
theorem step_mapUpdate {ops : Array Oper} {o : Oper} {a : Act} {w : World} {K : Act → World → Prop} {Q : Exit → Act → World → Prop} {E : Prop} (hgd : o.guard = none) (m x v : Operand) (hop : o.op = Op.mapUpdate 95 m x v)
    (b n : Nat) (D : DataW Value) (hm : a.eval m = .map (some b)) (hown : MapK w b n D) (hn : n < 1000) (id' : Int) (val : Value) (hx : a.eval x = .int .i64 id') (hv : a.eval v = val) (hw : (Lit.int .i64 id').wf = true)
    (h : ∀ w', MapK w' b (n + 1) (D.put (.int .i64 id') (.held val)) → w.grownBy w' (some b) → K (a.put o.dst undef) w') : if Region.wanted o (yielded ops a.tmps) = true then Oper.wp Try.prog o a w K Q else E := by
  have hwa : Region.wanted o (yielded ops a.tmps) = true := by simp [Region.wanted, hgd]
  rw [if_pos hwa]
  obtain ⟨w', hrun, r1, r2⟩ := hown.update lawK Try.underlying95 (by unfold maxLen; omega) (keyOf_int_mk Try.underlying2 hw) (show Rv val = some (.held val, []) from rfl)
  unfold Oper.wp
  simp [execOp, hop, hm, hx, hv, hrun, Result.andThen]
  exact h w' r1 r2
theorem MapK.ne {w : World} {b n : Nat} {D : DataW Value} (h : MapK w b n D) {a : Addr} {u : Value} (hc : w.cell? a = some u) : some a.block ≠ some b := by
  intro e
  cases e
  obtain ⟨es, clock, hb, -⟩ := h
  simp [World.cell?, hb] at hc
set_option maxRecDepth 100000 in
theorem iput (g b n : Nat) (pr id' : Int) (v : Value) (l : List Nat) (D : DataW Value) (w : World) (hV : w.heap[g]? = some (.cells #[.int .i64 pr, .map (some b)] 97)) (hM : MapK w b n D) (hn : n < 1000) (h : Rd w v l) (hl : l.length = 16) (hw : (Lit.int .i64 id').wf = true) :
    Calls Try.prog 73 #[.pointer (some ⟨g, 0, none⟩), .agg #[.int .i64 id', v]] w fun e w' => (∃ u, e = .returned u) ∧ MapK w' b (n + 1) (D.put (.int .i64 id') (.held (.agg (arr l)))) ∧ w.grownBy w' (some b) := by
  obtain ⟨bs, os, cs, rfl, hcs, -⟩ := h.spot (by omega)
  have HR := hid (rd_range h)
  have V := hid hV
  have HM := hid hM
  have HL := hid hl
  rw [hl] at hcs ⊢
  clear h hV hM hl
  have Z := hid (key_size16 l HL.out)
  go_enter Try.func73, Try.ntmps73
  go_wp2_with fail
  have V1 := heap_alloc_new w (.cells #[.int .i64 id', .slice (some ⟨bs, os, none⟩) 16 cs] 86)
  have hA := below_alloc1 w (.cells #[.int .i64 id', .slice (some ⟨bs, os, none⟩) 16 cs] 86)
  have BB := hid hA
  replace V := hid (var_below hA V.out)
  replace HM := hid (show MapK _ b n D from HM.out.alloc (.cells #[.int .i64 id', .slice (some ⟨bs, os, none⟩) 16 cs] 86))
  replace HR := hid (rangeAt.below HR.out hA)
  have GA := hid (World.grownBy_alloc w (.cells #[.int .i64 id', .slice (some ⟨bs, os, none⟩) 16 cs] 86) (some b))
  clear hA
  generalize w.alloc (.cells #[.int .i64 id', .slice (some ⟨bs, os, none⟩) 16 cs] 86) = w1 at *
  obtain ⟨-, f1, -, -⟩ := var2_facts V.out
  obtain ⟨k0, k1, -, -⟩ := var2_facts V1
  generalize w.heap.size = gk at *
  have AT := arr_at 91 5 16 Try.underlying91 (some ⟨bs, os, none⟩) 16 cs (by omega)
  refine wp_region_held_drew (S := fun w' => w'.cell? ⟨g, 1, none⟩ = some (.map (some b)) ∧ w'.cell? ⟨gk, 0, none⟩ = some (.int .i64 id') ∧ w'.cell? ⟨gk, 1, none⟩ = some (.slice (some ⟨bs, os, none⟩) 16 cs) ∧ w'.rangeAt bs os (l.map bv)) (by kernel_rfl) ⟨f1, k0, k1, HR.out⟩ (fun hH => ?_)
  refine wpAnyH_take (i := 0) (v := .pointer (some ⟨g, 0, none⟩)) (by simp only [List.getElem?_toArray, List.getElem?_cons_zero]; rfl) (by kernel_rfl) (by kernel_rfl) (by kernel_rfl) (by intro _ _ _ h; exact h) (Or.inl ⟨by rfl, fun w hS => by go_simp⟩) hH ?_
  simp only [Act.put, List.setIfInBounds_toArray, List.set_cons_zero, List.set_cons_succ]
  refine wpAnyH_take (i := 1) (v := .pointer (some ⟨g, 0, none⟩)) (by simp only [List.getElem?_toArray, List.getElem?_cons_succ, List.getElem?_cons_zero]; rfl) (by kernel_rfl) (by kernel_rfl) (by kernel_rfl) (by intro _ _ _ h; exact h) (Or.inl ⟨by rfl, fun w hS => by go_simp⟩) hH ?_
  simp only [Act.put, List.setIfInBounds_toArray, List.set_cons_zero, List.set_cons_succ]
  refine wpAnyH_take (i := 2) (v := .pointer (some ⟨g, 1, none⟩)) (by simp only [List.getElem?_toArray, List.getElem?_cons_succ, List.getElem?_cons_zero]; rfl) (by kernel_rfl) (by kernel_rfl) (by kernel_rfl) (by intro _ _ _ h; exact h) (Or.inl ⟨by rfl, fun w hS => by go_simp⟩) hH ?_
  simp only [Act.put, List.setIfInBounds_toArray, List.set_cons_zero, List.set_cons_succ]
  refine wpAnyH_take (i := 3) (v := .map (some b)) (by simp only [List.getElem?_toArray, List.getElem?_cons_succ, List.getElem?_cons_zero]; rfl) (by kernel_rfl) (by kernel_rfl) (by kernel_rfl) (by intro _ _ _ h; exact h) (Or.inl ⟨by rfl, fun w hS => by (obtain ⟨y1, y2, y3, -⟩ := hS; go_simp)⟩) hH ?_
  simp only [Act.put, List.setIfInBounds_toArray, List.set_cons_zero, List.set_cons_succ]
  refine wpAnyH_take (i := 4) (v := .pointer (some ⟨gk, 0, none⟩)) (by simp only [List.getElem?_toArray, List.getElem?_cons_succ, List.getElem?_cons_zero]; rfl) (by kernel_rfl) (by kernel_rfl) (by kernel_rfl) (by intro _ _ _ h; exact h) (Or.inl ⟨by rfl, fun w hS => by go_simp⟩) hH ?_
  simp only [Act.put, List.setIfInBounds_toArray, List.set_cons_zero, List.set_cons_succ]
  refine wpAnyH_take (i := 5) (v := .int .i64 id') (by simp only [List.getElem?_toArray, List.getElem?_cons_succ, List.getElem?_cons_zero]; rfl) (by kernel_rfl) (by kernel_rfl) (by kernel_rfl) (by intro _ _ _ h; exact h) (Or.inl ⟨by rfl, fun w hS => by (obtain ⟨y1, y2, y3, -⟩ := hS; go_simp)⟩) hH ?_
  simp only [Act.put, List.setIfInBounds_toArray, List.set_cons_zero, List.set_cons_succ]
  refine wpAnyH_take (i := 6) (v := .pointer (some ⟨gk, 1, none⟩)) (by simp only [List.getElem?_toArray, List.getElem?_cons_succ, List.getElem?_cons_zero]; rfl) (by kernel_rfl) (by kernel_rfl) (by kernel_rfl) (by intro _ _ _ h; exact h) (Or.inl ⟨by rfl, fun w hS => by go_simp⟩) hH ?_
  simp only [Act.put, List.setIfInBounds_toArray, List.set_cons_zero, List.set_cons_succ]
  refine wpAnyH_take (i := 7) (v := .slice (some ⟨bs, os, none⟩) 16 cs) (by simp only [List.getElem?_toArray, List.getElem?_cons_succ, List.getElem?_cons_zero]; rfl) (by kernel_rfl) (by kernel_rfl) (by kernel_rfl) (by intro _ _ _ h; exact h) (Or.inl ⟨by rfl, fun w hS => by (obtain ⟨y1, y2, y3, -⟩ := hS; go_simp)⟩) hH ?_
  simp only [Act.put, List.setIfInBounds_toArray, List.set_cons_zero, List.set_cons_succ]
  refine wpAnyH_take (i := 8) (v := .pointer (some ⟨bs, os, none⟩)) (by simp only [List.getElem?_toArray, List.getElem?_cons_succ, List.getElem?_cons_zero]; rfl) (by kernel_rfl) (by kernel_rfl) (by kernel_rfl) (by intro _ _ _ h; exact h) (Or.inl ⟨by rfl, fun w hS => by go_simp⟩) hH ?_
  simp only [Act.put, List.setIfInBounds_toArray, List.set_cons_zero, List.set_cons_succ]
  refine wpAnyH_take (i := 9) (v := .agg (arr l)) (by simp only [List.getElem?_toArray, List.getElem?_cons_succ, List.getElem?_cons_zero]; rfl) (by kernel_rfl) (by kernel_rfl) (by kernel_rfl) (by intro _ _ _ h; exact h) (yieldsIf_load_mid (by rfl) _ _ rfl bs os rfl (l.map bv) _ (fun w hS => hS.2.2.2) Try.underlying91 rfl (by rw [List.length_map, ← arr_size]; exact Z.out)) hH ?_
  simp only [Act.put, List.setIfInBounds_toArray, List.set_cons_zero, List.set_cons_succ]
  refine wpAnyH_ready (rs := [10]) (by kernel_rfl) (by simp) ?_
  refine AllReadyH.cons (by simp only [List.getElem?_toArray, List.getElem?_cons_succ, List.getElem?_cons_zero]; rfl) (fun K hK => ?_) AllReadyH.nil
  refine step_buildK (by rfl) 93 _ (by rfl) (arr l) (held_built l HL.out (by simp [Act.eval])) ?_
  refine hK.out _ _ hH (fun hH => ?_)
  clear hK K
  try simp only [Act.put, List.setIfInBounds_toArray, List.set_cons_zero, List.set_cons_succ]
  refine wpAnyH_ready (rs := [11]) (by kernel_rfl) (by simp) ?_
  refine AllReadyH.cons (by simp only [List.getElem?_toArray, List.getElem?_cons_succ, List.getElem?_cons_zero]; rfl) (fun K hK => ?_) AllReadyH.nil
  refine step_mapUpdate (by rfl) _ _ _ (by rfl) b n D (by rfl) (show MapK w1.drew b n D from HM.out) hn id' _ (by rfl) (by rfl) hw ?_
  intro w2 m2 gr2
  have RES := hid m2
  have GR := hid (grown_trans GA.out (show w1.grownBy w2 (some b) from ⟨gr2.os, gr2.tape, gr2.output, gr2.size, gr2.block⟩))
  have HD : MapK w1.drew b n D := HM.out
  refine hK.out _ _ ⟨gr2.cell f1 (HD.ne f1), gr2.cell k0 (HD.ne k0), gr2.cell k1 (HD.ne k1), fun j v hv => gr2.cell (HR.out j v hv) (HD.ne (HR.out j v hv))⟩ (fun hH => ?_)
  clear hK K
  try simp only [Act.put]
  refine wpAnyH_done (by kernel_rfl) ?_ _
  go_wp2
  go_end0
  exact ⟨⟨_, rfl⟩, RES.out, GR.out⟩
theorem zeroH (w : World) : (zeroValue 93).run Try.prog w = .ok (.agg (arr (zs 16))) w := by kernel_rfl
/-- Each element of the map is sixteen bytes. -/
def GoodM (D : DataW Value) : Prop := ∀ k, ∃ l : List Nat, l.length = 16 ∧ D.atKey k (.held (.agg (arr (zs 16)))) = .held (.agg (arr l))
theorem GoodM.nil : GoodM (.map []) := fun k => ⟨zs 16, by simp [zs], rfl⟩
theorem GoodM.put {D : DataW Value} (h : GoodM D) (hD : IsMap D) (k : Lit) (hk : WideAt.IsKeyLit k) (l : List Nat) (hl : l.length = 16) : GoodM (D.put k (.held (.agg (arr l)))) := fun k' => by
  by_cases e : k' = k
  · subst e
    exact ⟨l, hl, by rw [atKey_put_same hD hk]⟩
  · obtain ⟨l', h1, h2⟩ := h k'
    exact ⟨l', h1, by rw [atKey_put_other e]; exact h2⟩
theorem GoodM.val {D : DataW Value} (h : GoodM D) {k : Lit} {v : Value} {ps : List MemPlace} (hv : Rv v = some (D.atKey k (.held (.agg (arr (zs 16)))), ps)) : ∃ l : List Nat, l.length = 16 ∧ v = .agg (arr l) := by
  obtain ⟨l, h1, h2⟩ := h k
  rw [h2] at hv
  unfold Rv at hv
  simp only [Option.some.injEq, Prod.mk.injEq, DataW.held.injEq] at hv
  exact ⟨l, h1, hv.1⟩
set_option maxHeartbeats 1000000 in
set_option maxRecDepth 100000 in
theorem ihas (g b n : Nat) (pr id' : Int) (D : DataW Value) (w : World) (hV : w.heap[g]? = some (.cells #[.int .i64 pr, .map (some b)] 97)) (hM : MapK w b n D) (hG : GoodM D) (hw : (Lit.int .i64 id').wf = true) :
    Calls Try.prog 74 #[.pointer (some ⟨g, 0, none⟩), .int .i64 id'] w fun e w' => e = .returned (.bool (Maps.has D (.int .i64 id'))) ∧ Below w.heap.size w w' := by
  have V := hid hV
  have HM := hid hM
  obtain ⟨f0, f1, -, -⟩ := var2_facts hV
  clear hV hM
  go_enter Try.func74, Try.ntmps74
  go_wp2_with (at_lookup; refine wpList_lookup_own_ok _ rfl _ _ 95 rfl 2 93 lawK Try.underlying95 Rv (zeroH _) (.held (.agg (arr (zs 16)))) [] rfl b n D rfl HM.out _ _ rfl (keyOf_int_mk Try.underlying2 hw) ?_)
  intro v ps hv
  obtain ⟨l, hl, rfl⟩ := hG.val hv
  clear hv hG HM
  have Z := hid (show (Try.prog.info? 93).map (·.size) = some (arr l).size by rw [arr_size, hl]; kernel_rfl)
  go_wp2_with (refine wpList_store_row rfl 93 _ _ rfl w.heap.size (arr l) rfl rfl 93 _ (heap_alloc_new w _) Z.out (by rw [arr_size, hl]; rfl) (arr_one l) ?_)
  go_ret
  exact ⟨rfl, by rw [World.setRow_alloc_new]; exact below_alloc1 w _⟩
end Go.Proofs.Ytckgjghpfjinfak.W

namespace Go.Proofs.Ytckgjghpfjinfak.W
open Go.ChangeShapes Go.WideShapes Go.ChangeAt Go.RowKit
open Go.Proofs.Ytckgjghpfjinfak.M

theorem rd_grownM {w w' : World} {b n : Nat} {D : DataW Value} {v : Value} {l : List Nat} (h : Rd w v l) (hM : MapK w b n D) (hG : w.grownBy w' (some b)) : Rd w' v l := by
  obtain ⟨a, cap, rfl, hn, hm, hcs⟩ := h
  refine ⟨a, cap, rfl, hn, hm, fun i hi => ?_⟩
  obtain ⟨b', o, rfl, hc⟩ := hcs i hi
  exact ⟨b', o, rfl, hG.cell hc (hM.ne hc)⟩
theorem rdk_grownM {w w' : World} {b n : Nat} {D : DataW Value} {v : Value} {ks : List (Int × List Nat)} (h : RdK w v ks) (hM : MapK w b n D) (hG : w.grownBy w' (some b)) : RdK w' v ks := by
  obtain ⟨a, cap, rfl, hn, hm, hcs⟩ := h
  refine ⟨a, cap, rfl, hn, hm, fun i hi => ?_⟩
  obtain ⟨b', o, u, rfl, h1, h2, h3⟩ := hcs i hi
  exact ⟨b', o, u, rfl, hG.cell h1 (hM.ne h1), hG.cell h2 (hM.ne h2), rd_grownM h3 hM hG⟩
theorem MapK.apart {w : World} {b n g : Nat} {D : DataW Value} {c : Array Value} {T : TypeId} (hM : MapK w b n D) (hV : w.heap[g]? = some (.cells c T)) : some g ≠ some b := by
  intro e
  cases e
  obtain ⟨es, clock, hb, -⟩ := hM
  rw [hb] at hV
  cases hV
theorem kF_ok {k : Int × List Nat} (h : kF k = 0) : (1 ≤ k.1 ∧ k.1 ≤ 255) ∧ k.2.length = 16 := by
  unfold kF at h
  split at h
  · rename_i h1
    split at h
    · rename_i h2
      exact ⟨h1, h2⟩
    · omega
  · omega
/-- The map holds just the first k keys' numbers. -/
def HasTo (ks : List (Int × List Nat)) (k : Nat) (D : DataW Value) : Prop := ∀ x, Maps.has D (.int .i64 x) = true ↔ ∃ j, ∃ h : j < ks.length, j < k ∧ (ks[j]).1 = x
theorem HasTo.next {ks : List (Int × List Nat)} {k : Nat} {D : DataW Value} (h : HasTo ks k D) (hD : Maps.IsMap D) (hk : k < ks.length) (hw : WideAt.IsKeyLit (.int .i64 (ks[k]).1)) (d : DataW Value) : HasTo ks (k + 1) (D.put (.int .i64 (ks[k]).1) d) := fun x => by
  by_cases e : x = (ks[k]).1
  · subst e
    rw [Maps.has_put_same hD hw]
    exact ⟨fun _ => ⟨k, hk, by omega, rfl⟩, fun _ => rfl⟩
  · rw [Maps.has_put_other (by intro q; cases q; exact e rfl), h x]
    constructor
    · rintro ⟨j, hj, h1, h2⟩
      exact ⟨j, hj, by omega, h2⟩
    · rintro ⟨j, hj, h1, h2⟩
      refine ⟨j, hj, ?_, h2⟩
      rcases Nat.lt_or_ge j k with q | q
      · exact q
      · obtain rfl : j = k := by omega
        exact absurd h2.symm e
theorem two_results {fn : Func} {a b : Tmp} (h : fn.results = #[.tmp a, .tmp b]) (ts : Array Value) (P : Program) (w : World) :
    (results fn ts).run P w = .ok (.tuple #[ts.getD a undef, ts.getD b undef]) w := by simp [results, h]
theorem ret_t {r : Value} {a b : Int} (h : a = b) : Ending.returned (.tuple #[r, .int .i64 a]) = .returned (.tuple #[r, .int .i64 b]) := by rw [h]
theorem rise_lt {ks : List (Int × List Nat)} (h : Rise ks) : ∀ (j i : Nat) (hj : j < ks.length) (hij : i < j), (ks[i]'(Nat.lt_trans hij hj)).1 < (ks[j]).1
  | 0, i, _, hij => absurd hij (Nat.not_lt_zero i)
  | j + 1, i, hj, hij => by
    have h1 := h j hj
    rcases Nat.lt_or_ge i j with q | q
    · have h2 := rise_lt h j i (by omega) q
      omega
    · obtain rfl : i = j := by omega
      exact h1
/-- The map's zero element, as it is read. -/
def zK : DataW Value := .held (.agg (arr (zs 16)))
/-- The map holds the first k keys' bytes at their numbers. -/
def AtTo (ks : List (Int × List Nat)) (k : Nat) (D : DataW Value) : Prop := ∀ j (h : j < ks.length), j < k → D.atKey (.int .i64 (ks[j]).1) zK = .held (.agg (arr (ks[j]).2))
theorem AtTo.next {ks : List (Int × List Nat)} {k : Nat} {D : DataW Value} (h : AtTo ks k D) (hD : Maps.IsMap D) (hr : Rise ks) (hk : k < ks.length) (hw : WideAt.IsKeyLit (.int .i64 (ks[k]).1)) : AtTo ks (k + 1) (D.put (.int .i64 (ks[k]).1) (.held (.agg (arr (ks[k]).2)))) := fun j hj hjk => by
  rcases Nat.lt_or_ge j k with q | q
  · have := rise_lt hr k j hk q
    rw [Maps.atKey_put_other (by intro e; simp only [Lit.int.injEq, true_and] at e; omega)]
    exact h j hj q
  · obtain rfl : j = k := by omega
    rw [Maps.atKey_put_same hD hw]
theorem MapK.below {w w' : World} {b n : Nat} {D : DataW Value} (h : MapK w b n D) (hB : Below w.heap.size w w') : MapK w' b n D :=
  World.ownsMap.kept h (grown_of_below hB none) (by simp)
/-- Block g is a ring with the primary p; its map, block b, holds just the keys ks. -/
structure Ring1 (w : World) (g b : Nat) (p : Int) (ks : List (Int × List Nat)) (D : DataW Value) : Prop where
  block : w.heap[g]? = some (.cells #[.int .i64 p, .map (some b)] 97)
  map : MapK w b ks.length D
  good : GoodM D
  has : HasTo ks ks.length D
  bytes : AtTo ks ks.length D
theorem Ring1.below {w w' : World} {g b : Nat} {p : Int} {ks : List (Int × List Nat)} {D : DataW Value} (h : Ring1 w g b p ks D) (hB : Below w.heap.size w w') : Ring1 w' g b p ks D :=
  ⟨var_below hB h.block, h.map.below hB, h.good, h.has, h.bytes⟩
set_option maxHeartbeats 2000000 in
set_option maxRecDepth 100000 in
theorem ikrD (p : Int) (v : Value) (ks : List (Int × List Nat)) (w : World) (h : RdK w v ks) (hp : (Lit.int .i64 p).wf = true) :
    Calls Try.prog 55 #[.agg #[.int .i64 p, v]] w fun e w' => ∃ r : Value, e = .returned (.tuple #[r, .int .i64 (rF p ks)]) ∧ (rF p ks = 0 → ∃ g b D, r = .pointer (some ⟨g, 0, none⟩) ∧ w.heap.size ≤ g ∧ w.heap.size ≤ b ∧ Ring1 w' g b p ks D) ∧ Below w.heap.size w w' := by
  have H := hid h
  obtain ⟨a, cap, rfl, -, hcm, -⟩ := h.parts
  clear h
  unfold maxLen at hcm
  have hmm := @run_makeMap Try.prog
  go_enter Try.func55, Try.ntmps55
  go_wp2_with fail
  have V := hid (heap_alloc2_old w (.cells #[.int .i64 p, .slice a ks.length cap] 55) (.cells #[.int .i64 (ks.length : Int), .int .i64 1, .int .i64 3] 70))
  have BB := hid (below_alloc2 w (.cells #[.int .i64 p, .slice a ks.length cap] 55) (.cells #[.int .i64 (ks.length : Int), .int .i64 1, .int .i64 3] 70))
  have V2 := heap_alloc2_new w (.cells #[.int .i64 p, .slice a ks.length cap] 55) (.cells #[.int .i64 (ks.length : Int), .int .i64 1, .int .i64 3] 70)
  generalize (w.alloc (.cells #[.int .i64 p, .slice a ks.length cap] 55)).alloc (.cells #[.int .i64 (ks.length : Int), .int .i64 1, .int .i64 3] 70) = w0 at *
  refine (within1 _ _ _ _ _ V2).mono ?_
  rintro e w1 ⟨rfl, hB⟩
  replace V := hid (var_below hB V.out)
  replace BB := hid (BB.out.trans (hB.mono BB.out.size))
  replace H := hid (H.out.below BB.out)
  clear hB V2
  obtain ⟨g, hg⟩ : ∃ g, g = w.heap.size := ⟨_, rfl⟩
  rw [← hg] at V ⊢
  clear hg
  obtain ⟨f0, f1, -, -⟩ := var2_facts V.out
  by_cases hn : ks.length < 1 ∨ 3 < ks.length
  · have E := hid (rF_many (p := p) hn)
    rw [show inB (ks.length : Int) 1 3 = false by unfold inB; exact decide_eq_false (by omega)]
    replace hn := hid hn
    go_wp2
    try simp only [Exit.inBlock, Exit.then]
    refine bodyPost_ret (two_results rfl _ _ _) rfl ?_
    exact ⟨_, ret_t E.out.symm, fun q => absurd (E.out.symm.trans q) (by decide), BB.out⟩
  · have h1 : 1 ≤ ks.length := by omega
    have h3 : ks.length ≤ 3 := by omega
    rw [show inB (ks.length : Int) 1 3 = true by unfold inB; exact decide_eq_true (by omega)]
    replace hn := hid hn
    go_wp2_with fail
    go_loopw [5, 6, 20] (fun s4 s5 i wr => ∃ k : Nat, ∃ u4 u5 : Value, k ≤ ks.length ∧ i = .int .i64 k ∧ s4 = u4 ∧ s5 = u5 ∧ Hid (∀ j (hj : j < ks.length), j < k → kF ks[j] = 0) ∧ Hid (Below w1.heap.size w1 wr)) (fun _ _ i _ => ks.length - (intOf i).toNat)
    case atStart => exact ⟨0, _, _, by omega, rfl, rfl, rfl, hid (fun j _ h => absurd h (Nat.not_lt_zero j)), hid (Below.refl _ _)⟩
    case round =>
      obtain ⟨k, v4, v5, hk, rfl, rfl, rfl, T, BL⟩ := hrel
      clear f0 f1
      by_cases hlt : k < ks.length
      · obtain ⟨a', ca', e, -, -, hcs⟩ := (H.out.below BL.out).parts
        cases e
        obtain ⟨b, o, u, rfl, q1, q2, q3⟩ := hcs k hlt
        obtain ⟨pu, cu, rfl, -, -, -⟩ := q3.parts
        have I1 := idx_kg b o ks.length cap k hlt
        have k0 : (0 : Int) ≤ (k : Int) := by omega
        have k1 : (k : Int) < (ks.length : Int) := by omega
        clear hcs q3
        go_wp2_with fail
        refine (ikf _ _ _ _ _ (ks[k]).2 rfl).mono ?_
        rintro e w' ⟨rfl, hB⟩
        replace BL := hid (BL.out.trans (((below_alloc1 wr _).trans (hB.mono (by simp))).mono BL.out.size))
        have B2 := hid (BB.out.trans (BL.out.mono BB.out.size))
        have EK : kF ((ks[k]).1, (ks[k]).2) = kF ks[k] := rfl
        rw [EK]
        clear hB EK q1 q2
        by_cases e : kF ks[k] = 0
        · have T2 := hid (show ∀ j (hj : j < ks.length), j < k + 1 → kF ks[j] = 0 from fun j hj hjk => by
            rcases Nat.lt_or_ge j k with q | q
            · exact T.out j hj q
            · obtain rfl : j = k := by omega
              exact e)
          rw [e]
          replace e := hid e
          go_wp2
          go_roundw
          case rel => exact ⟨k + 1, _, _, hlt, by go_num, rfl, rfl, T2, BL⟩
          case measure => simp [intOf]; omega
        · have E := hid (rF_key (p := p) hn.out k hlt T.out e)
          obtain ⟨x, hx⟩ : ∃ x, x = kF ks[k] := ⟨_, rfl⟩
          rw [← hx] at e ⊢
          have X := hid hx
          have ne : (x != 0) = true := by rw [bne_iff_ne]; exact e
          clear hx
          replace e := hid e
          go_wp2
          try simp only [Exit.inBlock, Exit.then]
          refine bodyPost_ret (two_results rfl _ _ _) rfl ?_
          exact ⟨_, ret_t (X.out.trans E.out.symm), fun q => absurd ((X.out.trans E.out.symm).trans q) e.out, B2.out⟩
      · have hke : k = ks.length := by omega
        subst hke
        replace T := hid (show ∀ j (hj : j < ks.length), kF ks[j] = 0 from fun j hj => T.out j hj hj)
        replace V := hid (var_below BL.out V.out)
        replace H := hid (H.out.below BL.out)
        replace BB := hid (BB.out.trans (BL.out.mono BB.out.size))
        clear BL
        obtain ⟨w2, hw2⟩ : ∃ w', w' = wr := ⟨_, rfl⟩
        rw [← hw2] at V H BB ⊢
        clear hw2
        obtain ⟨f0, f1, -, -⟩ := var2_facts V.out
        go_wp2_with fail
        refine (idr _ ks _ H.out h1 (by omega)).mono ?_
        rintro e w3 ⟨t, rfl, ht, hf, hB⟩
        replace V := hid (var_below hB V.out)
        replace H := hid (H.out.below hB)
        replace BB := hid (BB.out.trans (hB.mono BB.out.size))
        clear hB f0 f1
        obtain ⟨f0, f1, -, -⟩ := var2_facts V.out
        cases t
        · have E := hid (rF_form (p := p) hn.out T.out (hf rfl))
          clear ht hf
          go_wp2
          try simp only [Exit.inBlock, Exit.then]
          refine bodyPost_ret (two_results rfl _ _ _) rfl ?_
          exact ⟨_, ret_t E.out.symm, fun q => absurd (E.out.symm.trans q) (by decide), BB.out⟩
        · have RR := hid (ht rfl)
          clear ht hf
          have F0 := fun x => cell_alloc f0 x
          have F1 := cell_alloc (cell_alloc f1 (.map #[] 0)) (.cells #[.int .i64 p, .map (some w3.heap.size)] 97)
          have M0 := hid (show MapK ((w3.alloc (.map #[] 0)).alloc (.cells #[.int .i64 p, .map (some w3.heap.size)] 97)) w3.heap.size 0 (.map []) from (World.ownsMap_made w3 Try.prog 2 Rv).alloc _)
          have VR := hid (heap_alloc2_new w3 (.map #[] 0) (.cells #[.int .i64 p, .map (some w3.heap.size)] 97))
          have hA := below_alloc2 w3 (.map #[] 0) (.cells #[.int .i64 p, .map (some w3.heap.size)] 97)
          replace V := hid (var_below hA V.out)
          replace H := hid (H.out.below hA)
          have SZ := hid BB.out.size
          replace BB := hid (BB.out.trans (hA.mono BB.out.size))
          clear hA
          go_wp2_with fail
          clear F0 F1 f0 f1
          generalize (w3.alloc (.map #[] 0)).alloc (.cells #[.int .i64 p, .map (some w3.heap.size)] 97) = w5 at *
          have SZ5 := hid (show w.heap.size ≤ w3.heap.size from SZ.out)
          generalize w3.heap.size = bM at *
          obtain ⟨gr, hgr⟩ : ∃ g, g = bM + 1 := ⟨_, rfl⟩
          rw [← hgr] at VR ⊢
          have GR5 := hid (show w.heap.size ≤ gr by rw [hgr]; exact Nat.le_succ_of_le SZ5.out)
          clear hgr
          go_loopw [9, 42] (fun s9 i wr => ∃ k : Nat, ∃ u9 : Value, ∃ D : DataW Value, k ≤ ks.length ∧ i = .int .i64 k ∧ s9 = u9 ∧ Hid (MapK wr bM k D) ∧ Hid (GoodM D) ∧ Hid (HasTo ks k D) ∧ Hid (AtTo ks k D) ∧ Hid (w5.grownBy wr (some bM))) (fun _ i _ => ks.length - (intOf i).toNat)
          case atStart => exact ⟨0, _, .map [], by omega, rfl, rfl, M0, hid GoodM.nil, hid (fun x => ⟨(fun h => by cases h), (fun ⟨j, _, h, _⟩ => absurd h (Nat.not_lt_zero j))⟩), hid (fun j _ h => absurd h (Nat.not_lt_zero j)), hid (World.grownBy.refl _ _)⟩
          case round =>
            obtain ⟨k, v9, D, hk', rfl, rfl, MK, GD, HT, AT, GG⟩ := hrel
            by_cases hlt' : k < ks.length
            · obtain ⟨⟨d1, d2⟩, d3⟩ := kF_ok (T.out k hlt')
              obtain ⟨a', ca', e, -, -, hcs⟩ := (rdk_grownM H.out M0.out GG.out).parts
              cases e
              obtain ⟨b, o, u, rfl, q1, q2, q3⟩ := hcs k hlt'
              obtain ⟨pu, cu, rfl, -, -, -⟩ := q3.parts
              rw [d3] at q2 q3
              have I1 := idx_kg b o ks.length cap k hlt'
              have k0 : (0 : Int) ≤ (k : Int) := by omega
              have k1 : (k : Int) < (ks.length : Int) := by omega
              have RU := hid q3
              have WF := hid (show (Lit.int .i64 (ks[k]).1).wf = true from WalkArith.wf_i64 (by omega))
              have VR2 := hid (var_grown GG.out VR.out (M0.out.apart VR.out))
              have VA := hid (var_alloc (.cells #[.int .i64 (ks[k]).1, .slice pu 16 cu] 86) VR2.out)
              have MA := hid (show MapK (wr.alloc (.cells #[.int .i64 (ks[k]).1, .slice pu 16 cu] 86)) bM k D from World.ownsMap.alloc MK.out _)
              have RA := hid (RU.out.below (below_alloc1 wr (.cells #[.int .i64 (ks[k]).1, .slice pu 16 cu] 86)))
              have GA := hid (World.grownBy_alloc wr (.cells #[.int .i64 (ks[k]).1, .slice pu 16 cu] 86) (some bM))
              have hk9 : k < 1000 := by omega
              have D3 := hid d3
              clear hcs q3 d3
              go_wp2_with fail
              refine (iput gr bM k p (ks[k]).1 (.slice pu 16 cu) (ks[k]).2 D _ VA.out MA.out hk9 RA.out D3.out WF.out).mono ?_
              rintro e w' ⟨⟨u', rfl⟩, hM', hG'⟩
              have NG := hid (grown_trans (grown_trans GG.out GA.out) hG')
              have NM := hid hM'
              have NK := lawK.key (Go.Maps.keyOf_int_mk Try.underlying2 WF.out)
              have ND := hid (GD.out.put MK.out.isMap _ NK (ks[k]).2 D3.out)
              have NA := hid (AT.out.next MK.out.isMap RR.out hlt' NK)
              have NH := hid (HT.out.next MK.out.isMap hlt' NK (.held (.agg (arr (ks[k]).2))))
              clear hM' hG' q1 q2 NK
              go_wp2
              go_roundw
              case rel => exact ⟨k + 1, _, _, hlt', by go_num, rfl, NM, ND, NH, NA, NG⟩
              case measure => simp [intOf]; omega
            · have hke : k = ks.length := by omega
              subst hke
              have BE := hid (BB.out.grown GG.out BB.out.size (fun x e => by cases e; exact SZ5.out))
              have VR2 := var_grown GG.out VR.out (M0.out.apart VR.out)
              have V2 := var_grown GG.out V.out (M0.out.apart V.out)
              obtain ⟨f0, f1, -, -⟩ := var2_facts V2
              have VR3 := hid VR2
              clear V2 VR2
              go_wp2_with fail
              refine (ihas _ _ _ _ _ D _ VR3.out MK.out GD.out hp).mono ?_
              rintro e w' ⟨rfl, hB⟩
              replace BE := hid (BE.out.trans (hB.mono BE.out.size))
              have HH := hid (HT.out p)
              have R1 := hid (show Ring1 w' gr bM p ks D from ⟨var_below hB VR3.out, MK.out.below hB, GD.out, HT.out, AT.out⟩)
              clear hB f0 f1
              cases hs : Maps.has D (.int .i64 p)
              · have E := hid (rF_none (p := p) hn.out T.out RR.out (fun ⟨j, hj, hx⟩ => by
                  have q := HH.out.2 ⟨j, hj, hj, hx⟩
                  rw [hs] at q
                  cases q))
                go_wp2
                try simp only [Exit.inBlock, Exit.then]
                refine bodyPost_ret (two_results rfl _ _ _) rfl ?_
                exact ⟨_, ret_t E.out.symm, fun q => absurd (E.out.symm.trans q) (by decide), BE.out⟩
              · have E := hid (rF_ok (p := p) hn.out T.out RR.out (by
                  obtain ⟨j, hj, -, hx⟩ := HH.out.1 hs
                  exact ⟨j, hj, hx⟩))
                go_wp2
                try simp only [Exit.inBlock, Exit.then]
                refine bodyPost_ret (two_results rfl _ _ _) rfl ?_
                exact ⟨_, ret_t E.out.symm, fun _ => ⟨gr, bM, D, rfl, GR5.out, SZ5.out, R1.out⟩, BE.out⟩
theorem ikr (p : Int) (v : Value) (ks : List (Int × List Nat)) (w : World) (h : RdK w v ks) (hp : (Lit.int .i64 p).wf = true) :
    Calls Try.prog 55 #[.agg #[.int .i64 p, v]] w fun e w' => ∃ r : Value, e = .returned (.tuple #[r, .int .i64 (rF p ks)]) ∧ Below w.heap.size w w' :=
  (ikrD p v ks w h hp).mono fun _ _ ⟨r, he, _, hB⟩ => ⟨r, he, hB⟩
end Go.Proofs.Ytckgjghpfjinfak.W

namespace Go.Proofs.Ytckgjghpfjinfak.W
open Go.ChangeShapes Go.WideShapes Go.ChangeAt Go.RowKit
open Go.Proofs.Ytckgjghpfjinfak.M

theorem look_at {b n : Nat} {D : DataW Value} (hG : GoodM D) (id' : Int) (hw : (Lit.int .i64 id').wf = true) : ∃ lx : List Nat, lx.length = 16 ∧ D.atKey (.int .i64 id') zK = .held (.agg (arr lx)) ∧
    ∀ w' : World, MapK w' b n D → (Instr.lookup 95 (.map (some b)) (.int .i64 id') true).run Try.prog w' = .ok (.tuple #[.agg (arr lx), .bool (Maps.has D (.int .i64 id'))]) w' := by
  obtain ⟨lx, h1, h2⟩ := hG (.int .i64 id')
  refine ⟨lx, h1, h2, fun w' hM => ?_⟩
  obtain ⟨v, ps, hr, hv⟩ := World.ownsMap.look_ok hM lawK Try.underlying95 (zeroH w') (zd := zK) (zp := []) rfl (Go.Maps.keyOf_int_mk Try.underlying2 hw)
  have h2' : D.atKey (.int .i64 id') zK = .held (.agg (arr lx)) := h2
  rw [h2'] at hv
  unfold Rv at hv
  simp only [Option.some.injEq, Prod.mk.injEq, DataW.held.injEq] at hv
  rw [hr, hv.1]
end Go.Proofs.Ytckgjghpfjinfak.W

namespace Go.Proofs.Ytckgjghpfjinfak.M
open Go.RowKit

theorem step_store_row {P : Program} {ops : Array Oper} {o : Oper} {a : Act} {w : World} {K : Act → World → Prop} {Q : Exit → Act → World → Prop} {E : Prop} (hgd : o.guard = none) (ty : TypeId) (x y : Operand) (ho : o.op = .store ty x y)
    (g : Nat) (cells : Array Value) (hx : a.eval x = .pointer (some ⟨g, 0, none⟩)) (hy : a.eval y = .agg cells)
    (t : TypeId) (old : Array Value) (hg : w.heap[g]? = some (.cells old t (0, 0))) (hi : (P.info? ty).map (·.size) = some cells.size)
    (hold : old.size = cells.size) (h1 : cells.all (·.oneCell') = true)
    (h : K (a.put o.dst undef) (w.setRow g cells)) : if Region.wanted o (yielded ops a.tmps) = true then Oper.wp P o a w K Q else E := by
  have hw : Region.wanted o (yielded ops a.tmps) = true := by simp [Region.wanted, hgd]
  rw [if_pos hw]
  exact wp_store_row ty x y ho g cells hx hy t old hg hi hold h1 h
theorem step_load_sub {P : Program} {ops : Array Oper} {op : Oper} {a : Act} {w : World} {K : Act → World → Prop} {Q : Exit → Act → World → Prop} {E : Prop} (hgd : op.guard = none) (ty : TypeId) (x : Operand) (ho : op.op = .load ty x)
    (b o : Nat) (hx : a.eval x = .pointer (some ⟨b, o, none⟩)) (l : List Nat) (hc : w.rangeAt b o (l.map bv)) (d : TypeDesc) (hu : P.underlying ty = some d) (hd : d.isRow = true) (hi : (P.info? ty).map (·.size) = some (arr l).size)
    (h : K (a.put op.dst (.agg (arr l))) w) : if Region.wanted op (yielded ops a.tmps) = true then Oper.wp P op a w K Q else E := by
  have hw : Region.wanted op (yielded ops a.tmps) = true := by simp [Region.wanted, hgd]
  rw [if_pos hw]
  exact wp_load_mid ty x ho b o hx (l.map bv) d hc hu hd (by rw [List.length_map, ← arr_size]; exact hi) h
end Go.Proofs.Ytckgjghpfjinfak.M

namespace Go.Proofs.Ytckgjghpfjinfak.W
open Go.ChangeShapes Go.WideShapes Go.ChangeAt Go.RowKit
open Go.Proofs.Ytckgjghpfjinfak.M

set_option maxRecDepth 100000 in
theorem irw_ok (v : Value) (l : List Nat) (a s : Nat) (w : World) (h : Rd w v l) (y : Byt l) (hs1 : 1 ≤ s) (hs : s ≤ 8) (ha : a + s ≤ l.length) (hf : ¬ (s = 8 ∧ 127 < l.getD a 0)) (hm : l.length ≤ 1048576) :
    Calls Try.prog 62 #[v, .int .i64 (a : Int), .int .i64 (s : Int)] w fun e w' => e = .returned (.agg #[.int .i64 0, .int .i64 (vt l a s : Nat)]) ∧ Below w.heap.size w w' := by
  obtain ⟨p, cap, rfl, hcap, _, hcs⟩ := h.parts
  obtain ⟨b, o, rfl, hc0⟩ := hcs a (by omega)
  have hin : (inB (s : Int) 1 8 && inB (a : Int) 0 (l.length : Int)) = true := by
    unfold inB; rw [decide_eq_true (show 1 ≤ (s : Int) ∧ (s : Int) ≤ 8 by omega), decide_eq_true (show 0 ≤ (a : Int) ∧ (a : Int) ≤ l.length by omega)]; rfl
  have hc1 : ¬ ((l.length : Int) - (a : Int) < (s : Int)) := by omega
  have HC := hid (fun i (hi : i < l.length) => show w.cell? ⟨b, o + i, none⟩ = some (bv l[i]) by
    obtain ⟨b', o', e, hc⟩ := hcs i hi
    cases e
    exact hc)
  have HF := hid hf
  clear h hcs hf hc0
  go_enter Try.func62, Try.ntmps62
  go_wp2_with fail
  refine (within2 _ _ _ _ _ _ _ _ (heap_alloc2_new w _ _)).mono ?_
  rintro e w1 ⟨rfl, hB⟩
  have hv : w1.heap[w.heap.size]? = some (.cells #[.int .i64 0, .int .i64 0] 103) := by rw [hB.block _ (by simp; omega)]; exact heap_alloc2_old w _ _
  have hb1 : Below w.heap.size w w1 := (below_alloc2 w _ _).trans (hB.mono (by simp; omega))
  clear hB
  go_wp2
  clear hin
  go_loop [8, 10, 36] (fun n b' i => ∃ k : Nat, ∃ u : Value, k ≤ s ∧ i = .int .i64 k ∧ n = .int .i64 (vt l a k : Nat) ∧ b' = u) (fun _ _ i => s - (intOf i).toNat)
  case atStart => exact ⟨0, _, by omega, rfl, rfl, rfl⟩
  case round =>
    obtain ⟨k, u, hk, rfl, rfl, rfl⟩ := hrel
    by_cases hlt : k < s
    · have hc := cell_kept hb1 (HC.out (a + k) (by omega))
      have E1 := hid (show vt l a (k + 1) = vt l a k * 256 + l[a + k]'(by omega) by rw [vt, getD_at])
      have b1 : vt l a k < 36028797018963968 := by
        by_cases e7 : k ≤ 6
        · exact vt_small l y a k e7
        · have e7 : k = 7 := by omega
          subst e7
          have := (vt_seven l y a).1
          rcases Nat.lt_or_ge (vt l a 7) 36028797018963968 with q | q
          · exact q
          · exact absurd ⟨by omega, this q⟩ HF.out
      have b2 := y.at (a + k) (by omega)
      unfold bv at hc
      rw [show o + (a + k) = o + a + k by omega] at hc
      generalize l[a + k] = x at *
      generalize vt l a k = n at *
      have hi0 : (k : Int) < (a : Int) + (s : Int) - (a : Int) := by omega
      clear HC hv hb1
      go_wp2
      exact ⟨⟨k + 1, _, by omega, by go_num, by rw [E1.out]; go_num, rfl⟩, by simp [intOf]; omega⟩
    · have hk8 : k = s := by omega
      subst hk8
      obtain ⟨f1, f2, f3, f4⟩ := var2_facts hv
      have hset := var2_set (x' := .int .i64 0) (y' := .int .i64 (vt l a k : Nat)) hv
      have hbel := below_set2 (x := .int .i64 0) (y := .int .i64 (vt l a k : Nat)) hb1 (Nat.le_refl _)
      clear hv hb1 HC
      go_wp2
      exact bodyPost_ret (v := .agg #[.int .i64 0, .int .i64 (vt l a k : Nat)]) (results_cell_row rfl _ _ w.heap.size 103 _ _ _ rfl hset Try.underlying103 rfl (by kernel_rfl)) rfl ⟨rfl, hbel⟩

set_option maxRecDepth 100000 in
theorem irw_form (v : Value) (l : List Nat) (a : Nat) (w : World) (h : Rd w v l) (y : Byt l) (ha : a + 8 ≤ l.length) (hf : 127 < l.getD a 0) (hm : l.length ≤ 1048576) :
    Calls Try.prog 62 #[v, .int .i64 (a : Int), .int .i64 8] w fun e w' => e = .returned (.agg #[.int .i64 1, .int .i64 0]) ∧ Below w.heap.size w w' := by
  obtain ⟨p, cap, rfl, hcap, _, hcs⟩ := h.parts
  obtain ⟨b, o, rfl, hc0⟩ := hcs a (by omega)
  have hin : (inB 8 1 8 && inB (a : Int) 0 (l.length : Int)) = true := by
    unfold inB; rw [decide_eq_true (show 1 ≤ (8 : Int) ∧ (8 : Int) ≤ 8 by omega), decide_eq_true (show 0 ≤ (a : Int) ∧ (a : Int) ≤ l.length by omega)]; rfl
  have hc1 : ¬ ((l.length : Int) - (a : Int) < 8) := by omega
  have HC := hid (fun i (hi : i < l.length) => show w.cell? ⟨b, o + i, none⟩ = some (bv l[i]) by
    obtain ⟨b', o', e, hc⟩ := hcs i hi
    cases e
    exact hc)
  have HF := hid hf
  clear h hcs hf hc0
  go_enter Try.func62, Try.ntmps62
  go_wp2_with fail
  refine (within2 _ _ _ _ _ _ _ _ (heap_alloc2_new w _ _)).mono ?_
  rintro e w1 ⟨rfl, hB⟩
  have hv : w1.heap[w.heap.size]? = some (.cells #[.int .i64 0, .int .i64 0] 103) := by rw [hB.block _ (by simp; omega)]; exact heap_alloc2_old w _ _
  have hb1 : Below w.heap.size w w1 := (below_alloc2 w _ _).trans (hB.mono (by simp; omega))
  clear hB
  go_wp2
  clear hin
  go_loop [8, 10, 36] (fun n b' i => ∃ k : Nat, ∃ u : Value, k ≤ 7 ∧ i = .int .i64 k ∧ n = .int .i64 (vt l a k : Nat) ∧ b' = u) (fun _ _ i => 8 - (intOf i).toNat)
  case atStart => exact ⟨0, _, by omega, rfl, rfl, rfl⟩
  case round =>
    obtain ⟨k, u, hk, rfl, rfl, rfl⟩ := hrel
    by_cases hlt : k < 7
    · have hc := cell_kept hb1 (HC.out (a + k) (by omega))
      have E1 := hid (show vt l a (k + 1) = vt l a k * 256 + l[a + k]'(by omega) by rw [vt, getD_at])
      have b1 : vt l a k < 36028797018963968 := by
        by_cases e7 : k ≤ 6
        · exact vt_small l y a k e7
        · omega

      have b2 := y.at (a + k) (by omega)
      unfold bv at hc
      rw [show o + (a + k) = o + a + k by omega] at hc
      generalize l[a + k] = x at *
      generalize vt l a k = n at *
      have hi0 : (k : Int) < (a : Int) + 8 - (a : Int) := by omega
      clear HC hv hb1
      go_wp2
      exact ⟨⟨k + 1, _, by omega, by go_num, by rw [E1.out]; go_num, rfl⟩, by simp [intOf]; omega⟩
    · have hk8 : k = 7 := by omega
      subst hk8
      have hc := cell_kept hb1 (HC.out (a + 7) (by omega))
      unfold bv at hc
      rw [show o + (a + 7) = o + a + 7 by omega] at hc
      have b1 := (vt_seven l y a).2 HF.out
      have hx := y.at (a + 7) (by omega)
      generalize l[a + 7] = x at *
      have hb7 : vt l a 7 < 9223372036854775808 := vt_fits l y a 7 (by omega) (fun q => by omega)
      generalize vt l a 7 = n at *
      obtain ⟨f1, f2, f3, f4⟩ := var2_facts hv
      have hset := var2_set (x' := .int .i64 1) (y' := .int .i64 0) hv
      have hbel := below_set2 (x := .int .i64 1) (y := .int .i64 0) hb1 (Nat.le_refl _)
      clear hv hb1 HC
      go_wp2
      exact bodyPost_ret (v := .agg #[.int .i64 1, .int .i64 0]) (results_cell_row rfl _ _ w.heap.size 103 _ _ _ rfl hset Try.underlying103 rfl (by kernel_rfl)) rfl ⟨rfl, hbel⟩

set_option maxRecDepth 100000 in
theorem irw_bad (v : Value) (l : List Nat) (a s : Int) (w : World) (h : Rd w v l) (hr : rdOk l a s = false) (hm : l.length ≤ 1048576) :
    Calls Try.prog 62 #[v, .int .i64 a, .int .i64 s] w fun e w' => e = .returned (.agg #[.int .i64 3, .int .i64 0]) ∧ Below w.heap.size w w' := by
  obtain ⟨p, cap, rfl, _, _, _⟩ := h.parts
  simp only [rdOk, decide_eq_false_iff_not] at hr
  by_cases c1 : (1 ≤ s ∧ s ≤ 8) ∧ 0 ≤ a ∧ a ≤ (l.length : Int)
  · have hin : (inB s 1 8 && inB a 0 (l.length : Int)) = true := by unfold inB; rw [decide_eq_true c1.1, decide_eq_true c1.2]; rfl
    have c2 : (l.length : Int) - a < s := by omega
    have c3 := c1.2.1
    have c4 := c1.2.2
    clear hr h c1
    go_enter Try.func62, Try.ntmps62
    go_wp2_with fail
    refine (within2 _ _ _ _ _ _ _ _ (heap_alloc2_new w _ _)).mono ?_
    rintro e w1 ⟨rfl, hB⟩
    have hv : w1.heap[w.heap.size]? = some (.cells #[.int .i64 0, .int .i64 0] 103) := by rw [hB.block _ (by simp; omega)]; exact heap_alloc2_old w _ _
    have hb1 : Below w.heap.size w w1 := (below_alloc2 w _ _).trans (hB.mono (by simp; omega))
    obtain ⟨f1, f2, f3, f4⟩ := var2_facts hv
    have hset := var2_set (x' := .int .i64 3) (y' := .int .i64 0) hv
    have hbel := below_set2 (x := .int .i64 3) (y := .int .i64 0) hb1 (Nat.le_refl _)
    clear hB hv hb1
    go_wp2
    exact bodyPost_ret (v := .agg #[.int .i64 3, .int .i64 0]) (results_cell_row rfl _ _ w.heap.size 103 _ _ _ rfl hset Try.underlying103 rfl (by kernel_rfl)) rfl ⟨rfl, hbel⟩
  · have hin : (inB s 1 8 && inB a 0 (l.length : Int)) = false := by
      unfold inB
      by_cases h1 : 1 ≤ s ∧ s ≤ 8
      · rw [decide_eq_false (fun k : 0 ≤ a ∧ a ≤ (l.length : Int) => c1 ⟨h1, k⟩), Bool.and_false]
      · rw [decide_eq_false h1, Bool.false_and]
    clear h hr c1
    go_enter Try.func62, Try.ntmps62
    go_wp2_with fail
    refine (within2 _ _ _ _ _ _ _ _ (heap_alloc2_new w _ _)).mono ?_
    rintro e w1 ⟨rfl, hB⟩
    have hv : w1.heap[w.heap.size]? = some (.cells #[.int .i64 0, .int .i64 0] 103) := by rw [hB.block _ (by simp; omega)]; exact heap_alloc2_old w _ _
    have hb1 : Below w.heap.size w w1 := (below_alloc2 w _ _).trans (hB.mono (by simp; omega))
    obtain ⟨f1, f2, f3, f4⟩ := var2_facts hv
    have hset := var2_set (x' := .int .i64 3) (y' := .int .i64 0) hv
    have hbel := below_set2 (x := .int .i64 3) (y := .int .i64 0) hb1 (Nat.le_refl _)
    clear hB hv hb1
    go_wp2
    exact bodyPost_ret (v := .agg #[.int .i64 3, .int .i64 0]) (results_cell_row rfl _ _ w.heap.size 103 _ _ _ rfl hset Try.underlying103 rfl (by kernel_rfl)) rfl ⟨rfl, hbel⟩

end Go.Proofs.Ytckgjghpfjinfak.W

namespace Go.Proofs.Ytckgjghpfjinfak.W
open Go.ChangeShapes Go.WideShapes Go.ChangeAt Go.RowKit
open Go.Proofs.Ytckgjghpfjinfak.M

theorem mark_yes {s c : Int} (h : mOk s c) : (inB s 0 15 && inB c 0 1000000000) = true := by unfold mOk at h; unfold inB; simp; omega
theorem mark_no {s c : Int} (h : ¬ mOk s c) : (inB s 0 15 && inB c 0 1000000000) = false := by
  unfold mOk at h
  unfold inB
  by_cases h1 : 0 ≤ s ∧ s ≤ 15
  · rw [decide_eq_false (fun q : 0 ≤ c ∧ c ≤ 1000000000 => h ⟨h1, q⟩), Bool.and_false]
  · rw [decide_eq_false h1, Bool.false_and]

set_option maxRecDepth 100000 in
theorem imark (s c : Int) (w : World) :
    Calls Try.prog 40 #[.agg #[.int .i64 s, .int .i64 c]] w fun e w' => e = .returned (.bool (inB s 0 15 && inB c 0 1000000000)) ∧ Below w.heap.size w w' := by
  go_enter Try.func40, Try.ntmps40
  go_wp2_with fail
  refine (within2 _ _ _ _ _ _ _ _ (heap_alloc2_new w _ _)).mono ?_
  rintro e w1 ⟨rfl, hB⟩
  have hb1 := hid (show Below w.heap.size w w1 from (below_alloc2 w _ _).trans (hB.mono (by simp; omega)))
  clear hB
  obtain ⟨t, ht⟩ : ∃ t, t = (inB s 0 15 && inB c 0 1000000000) := ⟨_, rfl⟩
  rw [← ht]
  replace ht := hid ht
  go_wp2
  go_ret
  exact ⟨ret_b ht.out, hb1.out⟩

set_option maxRecDepth 100000 in
theorem iright (k s c : Int) (w : World) :
    Calls Try.prog 37 #[.agg #[.int .i64 s, .int .i64 c, .int .i64 k]] w fun e w' => ∃ t, e = .returned (.bool t) ∧ (hOk k s c → t = true) ∧ (¬ hOk k s c → t = false) ∧ Below w.heap.size w w' := by
  go_enter Try.func37, Try.ntmps37
  go_wp2_with fail
  refine (within1 _ _ _ _ _ (heap_alloc2_new w _ _)).mono ?_
  rintro e w1 ⟨rfl, hB⟩
  have V : w1.heap[w.heap.size]? = some (.cells #[.int .i64 s, .int .i64 c, .int .i64 k] 65) := by rw [hB.block _ (by simp; omega)]; exact heap_alloc2_old w _ _
  have c0 : w1.cell? ⟨w.heap.size, 0, none⟩ = some (.int .i64 s) := by rw [cell_of_row w1 w.heap.size 0 _ _ _ V]; rfl
  have c1 : w1.cell? ⟨w.heap.size, 1, none⟩ = some (.int .i64 c) := by rw [cell_of_row w1 w.heap.size 1 _ _ _ V]; rfl
  have c2 : w1.cell? ⟨w.heap.size, 2, none⟩ = some (.int .i64 k) := by rw [cell_of_row w1 w.heap.size 2 _ _ _ V]; rfl
  have hb1 := hid (show Below w.heap.size w w1 from (below_alloc2 w _ _).trans (hB.mono (by simp; omega)))
  clear hB V
  by_cases hk : 1 ≤ k ∧ k ≤ 255
  · rw [show inB k 1 255 = true by unfold inB; exact decide_eq_true hk]
    have HK := hid hk
    clear hk
    go_wp2_with fail
    refine (imark s c _).mono ?_
    rintro e w2 ⟨rfl, hB⟩
    have hb2 := hid (hb1.out.trans (hB.mono hb1.out.size))
    clear hB
    obtain ⟨t, ht⟩ : ∃ t, t = (inB s 0 15 && inB c 0 1000000000) := ⟨_, rfl⟩
    rw [← ht]
    replace ht := hid ht
    go_wp2
    go_ret
    exact ⟨t, rfl, fun h => ht.out.trans (mark_yes h.2), fun h => ht.out.trans (mark_no fun q => h ⟨HK.out, q⟩), hb2.out⟩
  · rw [show inB k 1 255 = false by unfold inB; exact decide_eq_false hk]
    have HK := hid hk
    clear hk
    go_wp2
    go_ret
    exact ⟨false, rfl, fun h => absurd h.1 HK.out, fun _ => rfl, hb1.out⟩
end Go.Proofs.Ytckgjghpfjinfak.W

namespace Go.Proofs.Ytckgjghpfjinfak.W
open Go.ChangeShapes Go.WideShapes Go.ChangeAt Go.RowKit
open Go.Proofs.Ytckgjghpfjinfak.M

theorem head_results {fn : Func} {p u : Tmp} (h : fn.results = #[.cell p 65, .tmp u]) (tmps : Array Value) (w : World) (g : Nat) {x y z : Value} (T : TypeId) (hg : w.heap[g]? = some (.cells #[x, y, z] T)) (hp : tmps.getD p undef = .pointer (some ⟨g, 0, none⟩)) :
    (results fn tmps).run Try.prog w = .ok (.tuple #[.agg #[x, y, z], tmps.getD u undef]) w := by
  rw [results_cell_tmp h, hp]
  have e := run_loadVar_row (P := Try.prog) w g T 65 #[x, y, z] (0, 0) _ hg Try.underlying65 rfl (by kernel_rfl)
  simp [asAddr, Result.andThen, e]
theorem wrap_bz (x : Nat) (h : x < 256) : IntKind.i64.wrap (x : Int) = (x : Int) := by rw [IntKind.wrap_i64]; omega
set_option maxRecDepth 100000 in
theorem irh_many (v : Value) (l : List Nat) (w : World) (h : Rd w v l) (hn : l.length < 11) :
    Calls Try.prog 46 #[v] w fun e w' => e = .returned (.tuple #[.agg #[.int .i64 0, .int .i64 0, .int .i64 0], .int .i64 2]) ∧ Below w.heap.size w w' := by
  obtain ⟨a, cap, rfl, -, -, -⟩ := h.parts
  clear h
  go_enter Try.func46, Try.ntmps46
  go_wp2
  try simp only [Exit.inBlock, Exit.then]
  refine bodyPost_ret (head_results rfl _ _ w.heap.size _ (heap_alloc_new w _) rfl) rfl ?_
  exact ⟨rfl, below_alloc1 w _⟩
set_option maxRecDepth 100000 in
theorem irh_form (v : Value) (l : List Nat) (w : World) (h : Rd w v l) (hn : 11 ≤ l.length) (h0 : l.getD 0 0 ≠ 1) :
    Calls Try.prog 46 #[v] w fun e w' => e = .returned (.tuple #[.agg #[.int .i64 0, .int .i64 0, .int .i64 0], .int .i64 1]) ∧ Below w.heap.size w w' := by
  obtain ⟨b, o, cap, rfl, -, c0, c1, c2, c3⟩ := rd_hd4 h hn
  clear h c1 c2 c3
  generalize l.getD 0 0 = x0 at *
  have ne : ((x0 : Int) != 1) = true := by rw [bne_iff_ne]; omega
  have C0 := fun x => cell_alloc c0 x
  replace h0 := hid h0
  clear c0
  go_enter Try.func46, Try.ntmps46
  go_wp2
  try simp only [Exit.inBlock, Exit.then]
  refine bodyPost_ret (head_results rfl _ _ w.heap.size _ (heap_alloc_new w _) rfl) rfl ?_
  exact ⟨rfl, below_alloc1 w _⟩
set_option maxHeartbeats 1000000 in
set_option maxRecDepth 100000 in
theorem irh_one (v : Value) (l : List Nat) (c rk rs rc : Int) (w : World) (h : Rd w v l) (y : Byt l) (hm : l.length ≤ 1048576) (hn : 11 ≤ l.length) (h0 : l.getD 0 0 = 1) (hR : rhIs l c rk rs rc) :
    Calls Try.prog 46 #[v] w fun e w' => e = .returned (.tuple #[.agg #[.int .i64 rs, .int .i64 rc, .int .i64 rk], .int .i64 c]) ∧ Below w.heap.size w w' := by
  have H := hid h
  have YY := hid y
  obtain ⟨b, o, cap, rfl, -, c0, c1, c2, c3⟩ := rd_hd4 h hn
  have HR := hid hR
  have H0 := hid h0
  rw [h0] at c0
  clear h h0 hR y
  obtain ⟨x1, e1⟩ : ∃ x, x = l.getD 1 0 := ⟨_, rfl⟩
  obtain ⟨x2, e2⟩ : ∃ x, x = l.getD 2 0 := ⟨_, rfl⟩
  rw [← e1] at c1
  rw [← e2] at c2
  replace e1 := hid e1
  replace e2 := hid e2
  have B1 := getD_lt l YY.out 1
  have B2 := getD_lt l YY.out 2
  rw [← e1.out] at B1
  rw [← e2.out] at B2
  have W1 := hid (wrap_bz x1 B1)
  have W2 := hid (wrap_bz x2 B2)
  have C0 := fun x => cell_alloc c0 x
  clear c3
  obtain ⟨cc, cv, RW, CV⟩ : ∃ cc cv : Int, Hid (∀ w : World, Rd w (.slice (some ⟨b, o, none⟩) l.length cap) l → Calls Try.prog 62 #[.slice (some ⟨b, o, none⟩) l.length cap, .int .i64 3, .int .i64 8] w fun e w' => e = .returned (.agg #[.int .i64 cc, .int .i64 cv]) ∧ Below w.heap.size w w') ∧ Hid ((127 < l.getD 3 0 ∧ cc = 1 ∧ cv = 0) ∨ (¬ 127 < l.getD 3 0 ∧ cc = 0 ∧ cv = (vt l 3 8 : Nat))) := by
    by_cases h3 : 127 < l.getD 3 0
    · exact ⟨1, 0, hid fun w h => irw_form _ l 3 w h YY.out (by omega) h3 hm, hid (.inl ⟨h3, rfl, rfl⟩)⟩
    · exact ⟨0, (vt l 3 8 : Nat), hid fun w h => irw_ok _ l 3 8 w h YY.out (by omega) (by omega) (by omega) (fun q => h3 q.2) hm, hid (.inr ⟨h3, rfl, rfl⟩)⟩
  go_enter Try.func46, Try.ntmps46
  go_wp2_with fail
  clear C0 c0
  have hA := below_alloc1 w (.cells #[.int .i64 0, .int .i64 0, .int .i64 0] 65)
  have VR := hid (heap_alloc_new w (.cells #[.int .i64 0, .int .i64 0, .int .i64 0] 65))
  replace c1 := cell_kept hA c1
  replace c2 := cell_kept hA c2
  replace H := hid (H.out.below hA)
  have BB := hid hA
  clear hA
  generalize w.alloc (.cells #[.int .i64 0, .int .i64 0, .int .i64 0] 65) = w0 at *
  obtain ⟨g, hg⟩ : ∃ g, g = w.heap.size := ⟨_, rfl⟩
  rw [← hg] at VR ⊢
  replace hg := hid hg
  refine (RW.out _ H.out).mono ?_
  rintro e w1 ⟨rfl, hB⟩
  replace c1 := cell_kept hB c1
  replace c2 := cell_kept hB c2
  replace VR := hid (var_below hB VR.out)
  replace BB := hid (BB.out.trans (hB.mono BB.out.size))
  clear hB RW H
  go_wp2_with fail
  have hA := below_alloc1 w1 (.cells #[.int .i64 cc, .int .i64 cv] 103)
  have VC := hid (heap_alloc_new w1 (.cells #[.int .i64 cc, .int .i64 cv] 103))
  replace c1 := cell_kept hA c1
  replace c2 := cell_kept hA c2
  replace VR := hid (var_below hA VR.out)
  replace BB := hid (BB.out.trans (hA.mono BB.out.size))
  clear hA
  generalize w1.alloc (.cells #[.int .i64 cc, .int .i64 cv] 103) = w2 at *
  obtain ⟨gc, hgc⟩ : ∃ g, g = w1.heap.size := ⟨_, rfl⟩
  rw [← hgc] at VC ⊢
  clear hgc
  obtain ⟨i0, i1, -, -⟩ := var2_facts VC.out
  have VR0 := VR
  refine wp_region_held_drew (S := fun w' => Below w2.heap.size w2 w') (by kernel_rfl) (Below.refl _ _).drew (fun hH => ?_)
  generalize w2.drew = x at hH ⊢
  refine wpAnyH_take (i := 0) (v := .slice (some ⟨b, o, none⟩) l.length cap) (by simp only [List.getElem?_toArray, List.getElem?_cons_zero]; rfl) (by kernel_rfl) (by kernel_rfl) (by kernel_rfl) (by intro _ _ _ h; exact h) (Or.inl ⟨by rfl, fun w hS => by go_simp⟩) hH ?_
  simp only [Act.put, List.setIfInBounds_toArray, List.set_cons_zero, List.set_cons_succ]
  refine wpAnyH_take (i := 1) (v := .pointer (some ⟨b, o + 2, none⟩)) (by simp only [List.getElem?_toArray, List.getElem?_cons_succ, List.getElem?_cons_zero]; rfl) (by kernel_rfl) (by kernel_rfl) (by kernel_rfl) (by intro _ _ _ h; exact h) (Or.inl ⟨by rfl, fun w hS => by (go_simp; try (intro hq; exact absurd hq (by omega)))⟩) hH ?_
  simp only [Act.put, List.setIfInBounds_toArray, List.set_cons_zero, List.set_cons_succ]
  refine wpAnyH_take (i := 2) (v := .int .u8 (x2 : Int)) (by simp only [List.getElem?_toArray, List.getElem?_cons_succ, List.getElem?_cons_zero]; rfl) (by kernel_rfl) (by kernel_rfl) (by kernel_rfl) (by intro _ _ _ h; exact h) (Or.inl ⟨by rfl, fun w hS => by (have y0 := cell_kept hS c2; go_simp)⟩) hH ?_
  simp only [Act.put, List.setIfInBounds_toArray, List.set_cons_zero, List.set_cons_succ]
  refine wpAnyH_take (i := 3) (v := .int .i64 (x2 : Int)) (by simp only [List.getElem?_toArray, List.getElem?_cons_succ, List.getElem?_cons_zero]; rfl) (by kernel_rfl) (by kernel_rfl) (by kernel_rfl) (by intro _ _ _ h; exact h) (Or.inl ⟨by rfl, fun w hS => by (have y := W2.out; go_simp)⟩) hH ?_
  simp only [Act.put, List.setIfInBounds_toArray, List.set_cons_zero, List.set_cons_succ]
  refine wpAnyH_take (i := 4) (v := .pointer (some ⟨gc, 1, none⟩)) (by simp only [List.getElem?_toArray, List.getElem?_cons_succ, List.getElem?_cons_zero]; rfl) (by kernel_rfl) (by kernel_rfl) (by kernel_rfl) (by intro _ _ _ h; exact h) (Or.inl ⟨by rfl, fun w hS => by go_simp⟩) hH ?_
  simp only [Act.put, List.setIfInBounds_toArray, List.set_cons_zero, List.set_cons_succ]
  refine wpAnyH_take (i := 5) (v := .int .i64 cv) (by simp only [List.getElem?_toArray, List.getElem?_cons_succ, List.getElem?_cons_zero]; rfl) (by kernel_rfl) (by kernel_rfl) (by kernel_rfl) (by intro _ _ _ h; exact h) (Or.inl ⟨by rfl, fun w hS => by (have y0 := cell_kept hS i1; go_simp)⟩) hH ?_
  simp only [Act.put, List.setIfInBounds_toArray, List.set_cons_zero, List.set_cons_succ]
  refine wpAnyH_take (i := 6) (v := .agg #[.int .i64 (x2 : Int), .int .i64 cv]) (by simp only [List.getElem?_toArray, List.getElem?_cons_succ, List.getElem?_cons_zero]; rfl) (by kernel_rfl) (by kernel_rfl) (by kernel_rfl) (by intro _ _ _ h; exact h) (Or.inl ⟨by rfl, fun w hS => by go_simp⟩) hH ?_
  simp only [Act.put, List.setIfInBounds_toArray, List.set_cons_zero, List.set_cons_succ]
  refine wpAnyH_take (i := 7) (v := .slice (some ⟨b, o, none⟩) l.length cap) (by simp only [List.getElem?_toArray, List.getElem?_cons_succ, List.getElem?_cons_zero]; rfl) (by kernel_rfl) (by kernel_rfl) (by kernel_rfl) (by intro _ _ _ h; exact h) (Or.inl ⟨by rfl, fun w hS => by go_simp⟩) hH ?_
  simp only [Act.put, List.setIfInBounds_toArray, List.set_cons_zero, List.set_cons_succ]
  refine wpAnyH_take (i := 8) (v := .pointer (some ⟨b, o + 1, none⟩)) (by simp only [List.getElem?_toArray, List.getElem?_cons_succ, List.getElem?_cons_zero]; rfl) (by kernel_rfl) (by kernel_rfl) (by kernel_rfl) (by intro _ _ _ h; exact h) (Or.inl ⟨by rfl, fun w hS => by (go_simp; try (intro hq; exact absurd hq (by omega)))⟩) hH ?_
  simp only [Act.put, List.setIfInBounds_toArray, List.set_cons_zero, List.set_cons_succ]
  refine wpAnyH_take (i := 9) (v := .int .u8 (x1 : Int)) (by simp only [List.getElem?_toArray, List.getElem?_cons_succ, List.getElem?_cons_zero]; rfl) (by kernel_rfl) (by kernel_rfl) (by kernel_rfl) (by intro _ _ _ h; exact h) (Or.inl ⟨by rfl, fun w hS => by (have y0 := cell_kept hS c1; go_simp)⟩) hH ?_
  simp only [Act.put, List.setIfInBounds_toArray, List.set_cons_zero, List.set_cons_succ]
  refine wpAnyH_take (i := 10) (v := .int .i64 (x1 : Int)) (by simp only [List.getElem?_toArray, List.getElem?_cons_succ, List.getElem?_cons_zero]; rfl) (by kernel_rfl) (by kernel_rfl) (by kernel_rfl) (by intro _ _ _ h; exact h) (Or.inl ⟨by rfl, fun w hS => by (have y := W1.out; go_simp)⟩) hH ?_
  simp only [Act.put, List.setIfInBounds_toArray, List.set_cons_zero, List.set_cons_succ]
  refine wpAnyH_take (i := 11) (v := .agg #[.int .i64 (x2 : Int), .int .i64 cv, .int .i64 (x1 : Int)]) (by simp only [List.getElem?_toArray, List.getElem?_cons_succ, List.getElem?_cons_zero]; rfl) (by kernel_rfl) (by kernel_rfl) (by kernel_rfl) (by intro _ _ _ h; exact h) (Or.inl ⟨by rfl, fun w hS => by go_simp⟩) hH ?_
  simp only [Act.put, List.setIfInBounds_toArray, List.set_cons_zero, List.set_cons_succ]
  refine wpAnyH_ready (rs := [12]) (by kernel_rfl) (by simp) ?_
  refine AllReadyH.cons (by simp only [List.getElem?_toArray, List.getElem?_cons_succ, List.getElem?_cons_zero]; rfl) (fun K hK => ?_) AllReadyH.nil
  go_simp
  have hM := below_alloc1 x (.cells #[.int .i64 0, .int .i64 0, .int .i64 0] 65)
  have SX := hid hH.size
  have VL := hid (heap_alloc_new x (.cells #[.int .i64 0, .int .i64 0, .int .i64 0] 65))
  refine hK.out _ _ (hH.alloc hH.size _) (fun hH => ?_)
  clear hK K hM
  generalize x.alloc (.cells #[.int .i64 0, .int .i64 0, .int .i64 0] 65) = x12 at *
  refine wpAnyH_ready (rs := [13]) (by kernel_rfl) (by simp) ?_
  refine AllReadyH.cons (by simp only [List.getElem?_toArray, List.getElem?_cons_succ, List.getElem?_cons_zero]; rfl) (fun K hK => ?_) AllReadyH.nil
  obtain ⟨⟨q0, q1, q2⟩, z0, z1, z2⟩ := var3_facts VL.out
  go_simp
  have V2 := hid (var3_set (x' := .int .i64 (x2 : Int)) (y' := .int .i64 cv) (z' := .int .i64 (x1 : Int)) VL.out)
  replace VL := V2
  clear V2
  refine hK.out _ _ (((hH.setCell (p := ⟨x.heap.size, 0, none⟩) SX.out (.int .i64 (x2 : Int))).setCell (p := ⟨x.heap.size, 1, none⟩) SX.out (.int .i64 cv)).setCell (p := ⟨x.heap.size, 2, none⟩) SX.out (.int .i64 (x1 : Int))) (fun hH => ?_)
  clear hK K q0 q1 q2 z0 z1 z2
  generalize (((x12.setCell ⟨x.heap.size, 0, none⟩ (.int .i64 (x2 : Int))).setCell ⟨x.heap.size, 1, none⟩ (.int .i64 cv)).setCell ⟨x.heap.size, 2, none⟩ (.int .i64 (x1 : Int))) = x13 at *
  refine wpAnyH_done (by kernel_rfl) ?_ _
  have hB := hH
  clear hH i0 i1 c1 c2
  replace VR := hid (var_below hB VR.out)
  replace VC := hid (var_below hB VC.out)
  have NG := hid (show g < x.heap.size from Nat.lt_of_lt_of_le (var_lt VR0.out) SX.out)
  replace BB := hid (BB.out.trans (hB.mono BB.out.size))
  clear hB VR0
  obtain ⟨gl, hgl⟩ : ∃ g, g = x.heap.size := ⟨_, rfl⟩
  rw [← hgl] at VL NG ⊢
  clear hgl SX
  obtain ⟨i0, i1, -, -⟩ := var2_facts VC.out
  obtain ⟨⟨d0, d1, d2⟩, z0, z1, z2⟩ := var3_facts VL.out
  obtain ⟨⟨r0, r1, r2⟩, y0, y1, y2⟩ := var3_facts VR.out
  rcases CV.out with ⟨h3, rfl, rfl⟩ | ⟨h3, rfl, hv⟩
  · have E := hid (rh_top HR.out hn H0.out h3)
    replace h3 := hid h3
    obtain ⟨rfl, rfl, rfl, rfl⟩ := E.out
    have hset := hid (var3_set (x' := .int .i64 0) (y' := .int .i64 0) (z' := .int .i64 0) VR.out)
    have hbel := hid (below_set3 (g := g) (x := .int .i64 0) (y := .int .i64 0) (z := .int .i64 0) BB.out (Nat.le_of_eq hg.out.symm))
    go_wp2
    try simp only [Exit.inBlock, Exit.then]
    refine bodyPost_ret (head_results rfl _ _ g _ hset.out rfl) rfl ?_
    exact ⟨rfl, hbel.out⟩
  · obtain ⟨n, hn9⟩ : ∃ n, n = vt l 3 8 := ⟨_, rfl⟩
    rw [← hn9] at hv
    subst hv
    replace hn9 := hid hn9
    replace h3 := hid h3
    clear CV
    go_wp2_with fail
    refine (iright _ _ _ _).mono ?_
    rintro e w5 ⟨t, rfl, hy, hno, hB⟩
    clear d0 d1 d2 z0 z1 z2 r0 r1 r2 y0 y1 y2 i0 i1
    replace VR := hid (var_below hB VR.out)
    replace VL := hid (var_below hB VL.out)
    replace BB := hid (BB.out.trans (hB.mono BB.out.size))
    clear hB
    obtain ⟨⟨d0, d1, d2⟩, z0, z1, z2⟩ := var3_facts VL.out
    obtain ⟨⟨r0, r1, r2⟩, y0, y1, y2⟩ := var3_facts VR.out
    by_cases h4 : hOk (x1 : Int) (x2 : Int) (n : Int)
    · obtain rfl := hy h4
      have E := hid (rh_yes HR.out hn H0.out h3.out (by rw [← e1.out, ← e2.out, ← hn9.out]; exact h4))
      rw [← e1.out, ← e2.out, ← hn9.out] at E
      replace h4 := hid h4
      clear hy hno
      obtain ⟨rfl, rfl, rfl, rfl⟩ := E.out
      have hset := hid (var3_set (x' := .int .i64 (x2 : Int)) (y' := .int .i64 (n : Int)) (z' := .int .i64 (x1 : Int)) VR.out)
      have hbel := hid (below_set3 (g := g) (x := .int .i64 (x2 : Int)) (y := .int .i64 (n : Int)) (z := .int .i64 (x1 : Int)) BB.out (Nat.le_of_eq hg.out.symm))
      go_wp2
      try simp only [Exit.inBlock, Exit.then]
      refine bodyPost_ret (head_results rfl _ _ g _ hset.out rfl) rfl ?_
      exact ⟨rfl, hbel.out⟩
    · obtain rfl := hno h4
      have E := hid (rh_no HR.out hn H0.out h3.out (by rw [← e1.out, ← e2.out, ← hn9.out]; exact h4))
      replace h4 := hid h4
      clear hy hno
      obtain ⟨rfl, rfl, rfl, rfl⟩ := E.out
      have hset := hid (var3_set (x' := .int .i64 0) (y' := .int .i64 0) (z' := .int .i64 0) VR.out)
      have hbel := hid (below_set3 (g := g) (x := .int .i64 0) (y := .int .i64 0) (z := .int .i64 0) BB.out (Nat.le_of_eq hg.out.symm))
      go_wp2
      try simp only [Exit.inBlock, Exit.then]
      refine bodyPost_ret (head_results rfl _ _ g _ hset.out rfl) rfl ?_
      exact ⟨rfl, hbel.out⟩
theorem irh (v : Value) (l : List Nat) (c rk rs rc : Int) (w : World) (h : Rd w v l) (y : Byt l) (hm : l.length ≤ 1048576) (hR : rhIs l c rk rs rc) :
    Calls Try.prog 46 #[v] w fun e w' => e = .returned (.tuple #[.agg #[.int .i64 rs, .int .i64 rc, .int .i64 rk], .int .i64 c]) ∧ Below w.heap.size w w' := by
  by_cases h1 : l.length < 11
  · obtain ⟨rfl, rfl, rfl, rfl⟩ := rh_many hR h1
    exact irh_many v l w h h1
  · by_cases h2 : l.getD 0 0 = 1
    · exact irh_one v l c rk rs rc w h y hm (by omega) h2 hR
    · obtain ⟨rfl, rfl, rfl, rfl⟩ := rh_form hR (by omega) h2
      exact irh_form v l w h (by omega) h2
end Go.Proofs.Ytckgjghpfjinfak.W

namespace Go.Proofs.Ytckgjghpfjinfak.W
open Go.ChangeShapes Go.WideShapes Go.ChangeAt Go.RowKit
open Go.Proofs.Ytckgjghpfjinfak.M

set_option maxRecDepth 100000 in
theorem iletter (k s c : Int) (a : Option Addr) (n cap : Nat) (w : World) :
    Calls Try.prog 47 #[.agg #[.int .i64 s, .int .i64 c, .int .i64 k], .slice a n cap] w fun e w' => e = .returned (.agg #[.int .i64 k, .int .i64 s, .int .i64 c, .slice a n cap]) ∧ Below w.heap.size w w' := by
  go_enter Try.func47, Try.ntmps47
  go_wp2
  exact bodyPost_ret (v := .agg #[.int .i64 k, .int .i64 s, .int .i64 c, .slice a n cap]) (results_cell_row rfl _ _ (w.heap.size + 1) 27 _ _ _ rfl (heap_alloc2_new w _ _) Try.underlying27 rfl (by kernel_rfl)) rfl ⟨rfl, below_alloc2 w _ _⟩
set_option maxHeartbeats 1000000 in
set_option maxRecDepth 100000 in
theorem irhd (v : Value) (l : List Nat) (c rk rs rc : Int) (w : World) (h : Rd w v l) (y : Byt l) (hm : l.length ≤ 1048576) (hR : rhIs l c rk rs rc) :
    Calls Try.prog 22 #[v] w fun e w' => e = .returned (.agg #[.int .i64 c, .int .i64 rk, .int .i64 rs, .int .i64 rc, .slice none 0 0]) ∧ Below w.heap.size w w' := by
  have H := hid h
  have YY := hid y
  have HR := hid hR
  obtain ⟨a, cap, rfl, -, -, -⟩ := h.parts
  clear h y hR
  go_enter Try.func22, Try.ntmps22
  go_wp2_with fail
  have hA := below_alloc1 w (.cells #[.int .i64 0, .int .i64 0, .int .i64 0, .int .i64 0, .slice none 0 0] 40)
  have VR := hid (heap_alloc_new w (.cells #[.int .i64 0, .int .i64 0, .int .i64 0, .int .i64 0, .slice none 0 0] 40))
  replace H := hid (H.out.below hA)
  have BB := hid hA
  clear hA
  generalize w.alloc (.cells #[.int .i64 0, .int .i64 0, .int .i64 0, .int .i64 0, .slice none 0 0] 40) = w0 at *
  obtain ⟨g, hg⟩ : ∃ g, g = w.heap.size := ⟨_, rfl⟩
  rw [← hg] at VR ⊢
  replace hg := hid hg
  refine (irh _ l c rk rs rc _ H.out YY.out hm HR.out).mono ?_
  rintro e w1 ⟨rfl, hB⟩
  replace VR := hid (var_below hB VR.out)
  replace BB := hid (BB.out.trans (hB.mono BB.out.size))
  clear hB
  have VH := hid (heap_alloc_new w1 (.cells #[.int .i64 rs, .int .i64 rc, .int .i64 rk] 65))
  have hA := below_alloc1 w1 (.cells #[.int .i64 rs, .int .i64 rc, .int .i64 rk] 65)
  replace VR := hid (var_below hA VR.out)
  replace BB := hid (BB.out.trans (hA.mono BB.out.size))
  clear hA
  obtain ⟨⟨r0, r1, r2, r3, r4⟩, y0, y1, y2, y3, y4⟩ := var5_facts VR.out
  by_cases hc : c = 0
  · subst hc
    go_wp2_with fail
    clear r0 r1 r2 r3 r4 y0 y1 y2 y3 y4
    generalize w1.alloc (.cells #[.int .i64 rs, .int .i64 rc, .int .i64 rk] 65) = w2 at *
    refine (iletter rk rs rc _ _ _ _).mono ?_
    rintro e w3 ⟨rfl, hB⟩
    replace VR := hid (var_below hB VR.out)
    replace BB := hid (BB.out.trans (hB.mono BB.out.size))
    clear hB
    obtain ⟨⟨r0, r1, r2, r3, r4⟩, y0, y1, y2, y3, y4⟩ := var5_facts VR.out
    have hset := hid (var5_set (v' := .int .i64 0) (x' := .int .i64 rk) (y' := .int .i64 rs) (z' := .int .i64 rc) (u' := .slice none 0 0) VR.out)
    have hbel := hid (below_set5 (g := g) (v := .int .i64 0) (x := .int .i64 rk) (y := .int .i64 rs) (z := .int .i64 rc) (u := .slice none 0 0) BB.out (Nat.le_of_eq hg.out.symm))
    go_wp2
    try simp only [Exit.inBlock, Exit.then]
    exact bodyPost_ret (v := .agg #[.int .i64 0, .int .i64 rk, .int .i64 rs, .int .i64 rc, .slice none 0 0]) (results_cell_row rfl _ _ g 40 _ _ _ rfl hset.out Try.underlying40 rfl (by kernel_rfl)) rfl ⟨rfl, hbel.out⟩
  · obtain ⟨rfl, rfl, rfl⟩ := rh_bad HR.out hc
    have ne : (c != 0) = true := by rw [bne_iff_ne]; exact hc
    replace hc := hid hc
    have hset := hid (var5_set (v' := .int .i64 c) (x' := .int .i64 0) (y' := .int .i64 0) (z' := .int .i64 0) (u' := .slice none 0 0) VR.out)
    have hbel := hid (below_set5 (g := g) (v := .int .i64 c) (x := .int .i64 0) (y := .int .i64 0) (z := .int .i64 0) (u := .slice none 0 0) BB.out (Nat.le_of_eq hg.out.symm))
    go_wp2
    try simp only [Exit.inBlock, Exit.then]
    exact bodyPost_ret (v := .agg #[.int .i64 c, .int .i64 0, .int .i64 0, .int .i64 0, .slice none 0 0]) (results_cell_row rfl _ _ g 40 _ _ _ rfl hset.out Try.underlying40 rfl (by kernel_rfl)) rfl ⟨rfl, hbel.out⟩
end Go.Proofs.Ytckgjghpfjinfak.W

namespace Go.Proofs.Ytckgjghpfjinfak.W
open Go.ChangeShapes Go.WideShapes Go.ChangeAt Go.RowKit
open Go.Proofs.Ytckgjghpfjinfak.M

theorem shift_no (n s : Nat) (h : n < 256 ^ s) : ((n : Int) / 2 ^ (8 * s) != 0) = false := by
  have e : ((n : Int) / 2 ^ (8 * s)) = ((n / 256 ^ s : Nat) : Int) := by rw [show (256 : Nat) ^ s = 2 ^ (8 * s) from (Nat.pow_mul 2 8 s).symm]; simp
  rw [e, Nat.div_eq_of_lt h]; rfl
theorem shift_yes (n s : Nat) (h : 256 ^ s ≤ n) : ((n : Int) / 2 ^ (8 * s) != 0) = true := by
  have e : ((n : Int) / 2 ^ (8 * s)) = ((n / 256 ^ s : Nat) : Int) := by rw [show (256 : Nat) ^ s = 2 ^ (8 * s) from (Nat.pow_mul 2 8 s).symm]; simp
  have h1 : 0 < n / 256 ^ s := Nat.div_pos h (Nat.pow_pos (by omega))
  rw [e, bne_iff_ne]; omega

set_option maxRecDepth 100000 in
theorem ipw_ok (n s : Nat) (w : World) (hs1 : 1 ≤ s) (hs : s ≤ 8) (hn : n < 9223372036854775808) (hp : n < 256 ^ s) :
    Calls Try.prog 61 #[.int .i64 (n : Int), .int .i64 (s : Int)] w fun e w' => ∃ v, e = .returned (.agg #[.int .i64 0, v]) ∧ Own w' w.heap.size v (packL n s) ∧ Below w.heap.size w w' := by
  have hin : (inB (s : Int) 1 8 && inB (n : Int) 0 9223372036854775807) = true := by unfold inB; simp; omega
  have hsh := shift_no n s hp
  obtain ⟨i0, hi, hz0, hz1, hz2⟩ := info_parts info8
  go_enter Try.func61, Try.ntmps61
  go_wp2_with fail
  refine (within2 _ _ _ _ _ _ _ _ (heap_alloc2_new w _ _)).mono ?_
  rintro e w1 ⟨rfl, hB⟩
  have hv : w1.heap[w.heap.size]? = some (.cells #[.int .i64 0, .slice none 0 0] 32) := by rw [hB.block _ (by simp; omega)]; exact heap_alloc2_old w _ _
  have hsz : w.heap.size < w1.heap.size := (Array.getElem?_eq_some_iff.1 hv).1
  have hb1 : Below w.heap.size w w1 := (below_alloc2 w _ _).trans (hB.mono (by simp; omega))
  clear hB
  go_wp2_with (at_make; refine wpList_make_full _ rfl _ _ 22 rfl w1.heap.size 5 i0 (.int .u8 0) 1 Try.underlying22 hi hz0 hz1 .i64 .i64 _ _ s rfl rfl rfl rfl (by rw [hz2]; omega) (by unfold maxLen; omega) (Nat.le_refl _) ?_; intro w0 hown0 hgrow0)
  have hown1 := own_made w1 w0 s hown0
  have hb0 := below_of_grown hgrow0 (Nat.le_refl _) (fun k hk => by simp at hk)
  clear hown0 hgrow0 hi hz0 hz1 hz2 hsh hin
  go_loopw [0, 6] (fun nn i wr => ∃ j : Nat, j ≤ s ∧ i = .int .i64 ((j : Int) - 1) ∧ nn = .int .i64 (n / 256 ^ (s - j) : Nat) ∧ Own wr w1.heap.size (.slice (some ⟨w1.heap.size, 0, none⟩) s s) (packed n s j) ∧ Below w1.heap.size w1 wr) (fun _ i _ => (intOf i + 1).toNat)
  case atStart => exact ⟨s, by omega, rfl, by simp, by rw [packed_all]; exact hown1, hb0⟩
  case round =>
    obtain ⟨j, hj, rfl, rfl, hown, hb⟩ := hrel
    by_cases hlt : 0 < j
    · obtain ⟨t, rfl⟩ : ∃ t, j = t + 1 := ⟨j - 1, by omega⟩
      have et : ((t + 1 : Nat) : Int) - 1 = (t : Int) := by omega
      rw [et]
      have hl1 := packed_len n s (t + 1) hj
      have hc2 : ∃ u, wr.cell? ⟨w1.heap.size, t, none⟩ = some u := ⟨_, hown.cell hl1 t (by omega)⟩
      obtain ⟨u, hc2⟩ := hc2
      have hf2 := hown.open hl1 t
      have hs2 := hown.stored hl1 t (n / 256 ^ (s - (t + 1)) % 256)
      rw [packed_set n s t (by omega)] at hs2
      have hb2 := hb.setCell (p := ⟨w1.heap.size, t, none⟩) (Nat.le_refl _) (bv (n / 256 ^ (s - (t + 1)) % 256))
      have hx : n / 256 ^ (s - (t + 1)) < 9223372036854775808 := Nat.lt_of_le_of_lt (Nat.div_le_self _ _) hn
      have Hq : Hid (n / 256 ^ (s - t) = n / 256 ^ (s - (t + 1)) / 256) := by unfold Hid; rw [quot_step, show s - (t + 1) + 1 = s - t by omega]
      generalize n / 256 ^ (s - (t + 1)) = x at *
      unfold bv at hs2 hb2
      have e : ((x % 256 : Nat) : Int) = (x : Int) % 256 := by omega
      rw [e] at hs2 hb2
      clear hown hb e et hv hb1 hown1 hb0
      go_wp2
      go_roundw
      case rel => exact ⟨t, by omega, rfl, by rw [Hq.out]; rfl, hs2.1, hb2⟩
      case measure => simp [intOf]
    · have hk8 : j = 0 := by omega
      subst hk8
      rw [packed_zero] at hown
      have hv2 : wr.heap[w.heap.size]? = some (.cells #[.int .i64 0, .slice none 0 0] 32) := by rw [hb.block _ hsz]; exact hv
      obtain ⟨f1, f2, f3, f4⟩ := var2_facts hv2
      have hset := var2_set (x' := .int .i64 0) (y' := .slice (some ⟨w1.heap.size, 0, none⟩) s s) hv2
      have hbel := below_set2 (x := .int .i64 0) (y := .slice (some ⟨w1.heap.size, 0, none⟩) s s) (hb1.trans (hb.mono (by omega))) (Nat.le_refl _)
      have hown2 := (hown.set2 (g := w.heap.size) (x := .int .i64 0) (y := .slice (some ⟨w1.heap.size, 0, none⟩) s s) hsz).mono (base' := w.heap.size) (by omega)
      clear hv hv2 hown hb hb1 hown1 hb0
      go_wp2
      exact bodyPost_ret (v := .agg #[.int .i64 0, .slice (some ⟨w1.heap.size, 0, none⟩) s s]) (results_cell_row rfl _ _ w.heap.size 32 _ _ _ rfl hset Try.underlying32 rfl (by kernel_rfl)) rfl ⟨_, rfl, hown2, hbel⟩
end Go.Proofs.Ytckgjghpfjinfak.W
