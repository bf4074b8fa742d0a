/-
  What was sealed is opened: the model's l3Open, OpenText.
-/
import Derived.Test.YtckgjghpfjinfaiL3gWalks
import Derived.Test.YtckgjghpfjinfaiAskWalks
import Derived.Test.YtckgjghpfjinfaiConvM
import Derived.Lib.Bytes
namespace Go.Proofs.Ytckgjghpfjinfai.W
open Go.ChangeShapes Go.WideShapes Go.ChangeAt Go.RowKit
open Go.Proofs.Ytckgjghpfjinfai.M

theorem str_one (a b : List Nat) (ha : Byt a) (hb : Byt b) (h : sameS a b = true) : a = b := by
  unfold sameS strOf at h
  rw [Go.Lib.strOfNums_toList, Go.Lib.strOfNums_toList, beq_iff_eq] at h
  unfold Go.Lib.bytesOf at h
  rw [List.map_map, List.map_map] at h
  have e : a.length = b.length := by simpa using congrArg List.length h
  apply List.ext_getElem e
  intro i h1 h2
  have q := congrArg (fun t => t[i]?) h
  simp only [List.getElem?_map, List.getElem?_eq_getElem h1, List.getElem?_eq_getElem h2, Option.map_some, Option.some.injEq, Function.comp, Int.toNat_natCast] at q
  have r := congrArg UInt8.toNat q
  simp only [UInt8.toNat_ofNat'] at r
  have x1 := ha.at i h1
  have x2 := hb.at i h2
  omega

theorem l3open_short (vk vn ve : Value) (p4 : Option Addr) (c4 l4 : Nat) (w : World) (h : l4 < 16) :
    Calls Try.prog 57 #[vk, vn, ve, .slice p4 l4 c4] w fun r w' => r = .returned (.tuple #[.slice none 0 0, .bool false]) ∧ w' = w := by
  have w1 : IntKind.i64.wrap ((l4 : Int) - 16) = (l4 : Int) - 16 := by rw [IntKind.wrap_i64]; omega
  have c1 : (l4 : Int) - 16 < 0 := by omega
  go_enter Try.func57, Try.ntmps57
  go_wp2
  exact bodyPost_ret (v := .tuple #[.slice none 0 0, .bool false]) (by simp [results, Try.results57, go_sem]) rfl ⟨rfl, rfl⟩

set_option maxHeartbeats 2000000 in
set_option maxRecDepth 100000 in
theorem l3open_yes (vk vn ve vs : Value) (k n e s : List Nat) (m : Nat) (w : World) (hk : Rd w vk k) (hn : Rd w vn n) (he : Rd w ve e) (hs : Rd w vs s) (yk : Byt k) (yn : Byt n) (ye : Byt e) (ys : Byt s) (nk : k.length = 16) (nn : n.length = 12) (ne : e.length ≤ 101) (ns : s.length = m + 16) (nm : m ≤ 700) (ho : tg (kf k) n e (s.take m) = s.drop m) :
    Calls Try.prog 57 #[vk, vn, ve, vs] w fun r w' => ∃ v, r = .returned (.tuple #[v, .bool true]) ∧ Own w' w.heap.size v (hid1 (kf k) n (s.take m)) ∧ Below w.heap.size w w' := by
  have hsq : (!((strOf (tg (kf k) n e (s.take m))).toList == (strOf (s.drop m)).toList)) = false := by rw [ho]; simp
  clear ho

  obtain ⟨p1, c1, rfl, -, -, -⟩ := hk.parts
  obtain ⟨p2, c2, rfl, -, -, -⟩ := hn.parts
  obtain ⟨p3, c3, rfl, -, -, -⟩ := he.parts
  obtain ⟨b4, o4, c4, rfl, hc4, -⟩ := hs.spot (by omega)
  rw [ns] at hs hc4 ⊢
  have PT := hid (rd_piece hs 0 m (by omega))
  rw [Nat.add_zero, Nat.sub_zero, sub_take] at PT
  have PD := hid (rd_piece hs m 16 (by omega))
  rw [sub_drop s m 16 (by omega)] at PD
  have HK := hid hk
  have HN := hid hn
  have HE := hid he
  have NK := hid nk
  have NN := hid nn
  have NE := hid ne
  have TLn := hid (show (s.take m).length = m by rw [List.length_take]; omega)
  have TY := hid (show Byt (s.take m) from fun x hx => ys x (List.mem_of_mem_take hx))
  have DY := hid (show Byt (s.drop m) from fun x hx => ys x (List.mem_of_mem_drop hx))
  have HF := hid (kf_lt k yk)
  have TGY := hid (tg_byt (kf k) HF.out n e (s.take m) yn)
  have RU := run_upto b4 o4 (m + 16) c4 m (by omega) (by omega)
  have RF := run_from b4 o4 (m + 16) c4 m (by omega) (by omega)
  rw [Nat.add_sub_cancel_left] at RF
  have w1 : IntKind.i64.wrap (((m + 16 : Nat) : Int) - 16) = (m : Int) := by rw [IntKind.wrap_i64]; omega
  have e1 : ((m + 16 : Nat) : Int) - 16 = (m : Int) := by omega
  have e2 : (m : Int) + 16 - 16 = (m : Int) := by omega
  have m0 : ¬ (m : Int) < 0 := by omega
  clear hk hn he hs nk nn ne ns
  go_enter Try.func57, Try.ntmps57
  go_wp2_with fail
  refine (l2keys _ k _ HK.out yk NK.out).mono ?_
  rintro r w1 ⟨rfl, K1, hM⟩
  have B1 := hid hM
  have K1 := hid K1
  clear hM
  go_wp2_with fail
  have KL := hid K1.out.lt
  have K2 : Ar w1.drew w.heap.size 5 (rowTo 176 (kf k) 176) := K1.out
  refine wp_region_held_drew (S := fun w' => Below w.heap.size w w') (by kernel_rfl) B1.out.drew (fun hH => ?_)
  refine wpAnyH_take (i := 0) (v := .slice (some ⟨w.heap.size, 0, none⟩) 176 176) (by simp only [List.getElem?_toArray, List.getElem?_cons_zero]; rfl) (by kernel_rfl) (by kernel_rfl) (by kernel_rfl) (by intro _ _ _ h; exact h) (Or.inl ⟨by rfl, fun w hS => by go_simp⟩) hH ?_
  simp only [Act.put, List.setIfInBounds_toArray, List.set_cons_zero, List.set_cons_succ]
  refine wpAnyH_take (i := 1) (v := .slice p2 n.length c2) (by simp only [List.getElem?_toArray, List.getElem?_cons_succ, List.getElem?_cons_zero]; rfl) (by kernel_rfl) (by kernel_rfl) (by kernel_rfl) (by intro _ _ _ h; exact h) (Or.inl ⟨by rfl, fun w hS => by go_simp⟩) hH ?_
  simp only [Act.put, List.setIfInBounds_toArray, List.set_cons_zero, List.set_cons_succ]
  refine wpAnyH_take (i := 2) (v := .slice p3 e.length c3) (by simp only [List.getElem?_toArray, List.getElem?_cons_succ, List.getElem?_cons_zero]; rfl) (by kernel_rfl) (by kernel_rfl) (by kernel_rfl) (by intro _ _ _ h; exact h) (Or.inl ⟨by rfl, fun w hS => by go_simp⟩) hH ?_
  simp only [Act.put, List.setIfInBounds_toArray, List.set_cons_zero, List.set_cons_succ]
  refine wpAnyH_take (i := 3) (v := .slice (some ⟨b4, o4, none⟩) (m + 16) c4) (by simp only [List.getElem?_toArray, List.getElem?_cons_succ, List.getElem?_cons_zero]; rfl) (by kernel_rfl) (by kernel_rfl) (by kernel_rfl) (by intro _ _ _ h; exact h) (Or.inl ⟨by rfl, fun w hS => by go_simp⟩) hH ?_
  simp only [Act.put, List.setIfInBounds_toArray, List.set_cons_zero, List.set_cons_succ]
  refine wpAnyH_take (i := 4) (v := .int .i64 (m : Int)) (by simp only [List.getElem?_toArray, List.getElem?_cons_succ, List.getElem?_cons_zero]; rfl) (by kernel_rfl) (by kernel_rfl) (by kernel_rfl) (by intro _ _ _ h; exact h) (Or.inl ⟨by rfl, fun w hS => by go_simp⟩) hH ?_
  simp only [Act.put, List.setIfInBounds_toArray, List.set_cons_zero, List.set_cons_succ]
  refine wpAnyH_take (i := 5) (v := .slice (some ⟨b4, o4, none⟩) m c4) (by simp only [List.getElem?_toArray, List.getElem?_cons_succ, List.getElem?_cons_zero]; rfl) (by kernel_rfl) (by kernel_rfl) (by kernel_rfl) (by intro _ _ _ h; exact h) (Or.inl ⟨by rfl, fun w hS => by go_simp⟩) hH ?_
  simp only [Act.put, List.setIfInBounds_toArray, List.set_cons_zero, List.set_cons_succ]
  refine wpAnyH_take (i := 8) (v := .slice (some ⟨b4, o4, none⟩) (m + 16) c4) (by simp only [List.getElem?_toArray, List.getElem?_cons_succ, List.getElem?_cons_zero]; rfl) (by kernel_rfl) (by kernel_rfl) (by kernel_rfl) (by intro _ _ _ h; exact h) (Or.inl ⟨by rfl, fun w hS => by go_simp⟩) hH ?_
  simp only [Act.put, List.setIfInBounds_toArray, List.set_cons_zero, List.set_cons_succ]
  refine wpAnyH_take (i := 9) (v := .int .i64 (m : Int)) (by simp only [List.getElem?_toArray, List.getElem?_cons_succ, List.getElem?_cons_zero]; rfl) (by kernel_rfl) (by kernel_rfl) (by kernel_rfl) (by intro _ _ _ h; exact h) (Or.inl ⟨by rfl, fun w hS => by go_simp⟩) hH ?_
  simp only [Act.put, List.setIfInBounds_toArray, List.set_cons_zero, List.set_cons_succ]
  refine wpAnyH_take (i := 10) (v := .slice (some ⟨b4, o4 + m, none⟩) 16 (c4 - m)) (by simp only [List.getElem?_toArray, List.getElem?_cons_succ, List.getElem?_cons_zero]; rfl) (by kernel_rfl) (by kernel_rfl) (by kernel_rfl) (by intro _ _ _ h; exact h) (Or.inl ⟨by rfl, fun w hS => by go_simp⟩) hH ?_
  simp only [Act.put, List.setIfInBounds_toArray, List.set_cons_zero, List.set_cons_succ]
  refine wpAnyH_take (i := 11) (v := .string (strOf (s.drop m))) (by simp only [List.getElem?_toArray, List.getElem?_cons_succ, List.getElem?_cons_zero]; rfl) (by kernel_rfl) (by kernel_rfl) (by kernel_rfl) (by intro _ _ _ h; exact h) (Or.inl ⟨by rfl, fun w hS => by have c := conv _ (s.drop m) w (PD.out.below hS); go_simp⟩) hH ?_
  simp only [Act.put, List.setIfInBounds_toArray, List.set_cons_zero, List.set_cons_succ]
  generalize w1.drew = x at hH K2 ⊢
  refine wpAnyH_ready (rs := [6]) (by kernel_rfl) (by simp) ?_
  refine AllReadyH.cons (by simp only [List.getElem?_toArray, List.getElem?_cons_succ, List.getElem?_cons_zero]; rfl) (fun K hK => ?_) AllReadyH.nil
  go_simp
  refine (l3tag _ (kf k) _ _ _ n e (s.take m) _ K2 HF.out (HN.out.below hH) (HE.out.below hH) (PT.out.below hH) yn ye TY.out NN.out NE.out (by rw [TLn.out]; exact nm)).mono ?_
  rintro r x6 ⟨v6, rfl, O6, hM⟩
  refine hK.out _ _ (hH.trans (hM.mono hH.size)) (fun hH => ?_)
  clear hK K
  replace K2 := K2.below hM
  clear hM
  have cv := conv _ _ _ O6.rd
  refine wpAnyH_ready (rs := [7]) (by kernel_rfl) (by simp) ?_
  refine AllReadyH.cons (by simp only [List.getElem?_toArray, List.getElem?_cons_succ, List.getElem?_cons_zero]; rfl) (fun K hK => ?_) AllReadyH.nil
  go_simp
  refine hK.out _ _ hH (fun hH => ?_)
  clear hK K
  refine wpAnyH_ready (rs := [12]) (by kernel_rfl) (by simp) ?_
  refine AllReadyH.cons (by simp only [List.getElem?_toArray, List.getElem?_cons_succ, List.getElem?_cons_zero]; rfl) (fun K hK => ?_) AllReadyH.nil
  go_simp
  refine hK.out _ _ hH (fun hH => ?_)
  clear hK K
  refine wpAnyH_done (by kernel_rfl) ?_ _
  clear cv O6
  replace hH := hid hH
  replace K2 := hid K2
  go_wp2_with fail
  have K3 : Ar x6.drew w.heap.size 5 (rowTo 176 (kf k) 176) := K2.out
  refine wp_region_held_drew (S := fun w' => Below w.heap.size w w') (by kernel_rfl) hH.out.drew (fun hH => ?_)
  refine wpAnyH_take (i := 0) (v := .slice (some ⟨w.heap.size, 0, none⟩) 176 176) (by simp only [List.getElem?_toArray, List.getElem?_cons_zero]; rfl) (by kernel_rfl) (by kernel_rfl) (by kernel_rfl) (by intro _ _ _ h; exact h) (Or.inl ⟨by rfl, fun w hS => by go_simp⟩) hH ?_
  simp only [Act.put, List.setIfInBounds_toArray, List.set_cons_zero, List.set_cons_succ]
  refine wpAnyH_take (i := 1) (v := .slice p2 n.length c2) (by simp only [List.getElem?_toArray, List.getElem?_cons_succ, List.getElem?_cons_zero]; rfl) (by kernel_rfl) (by kernel_rfl) (by kernel_rfl) (by intro _ _ _ h; exact h) (Or.inl ⟨by rfl, fun w hS => by go_simp⟩) hH ?_
  simp only [Act.put, List.setIfInBounds_toArray, List.set_cons_zero, List.set_cons_succ]
  refine wpAnyH_take (i := 4) (v := .slice (some ⟨b4, o4, none⟩) (m + 16) c4) (by simp only [List.getElem?_toArray, List.getElem?_cons_succ, List.getElem?_cons_zero]; rfl) (by kernel_rfl) (by kernel_rfl) (by kernel_rfl) (by intro _ _ _ h; exact h) (Or.inl ⟨by rfl, fun w hS => by go_simp⟩) hH ?_
  simp only [Act.put, List.setIfInBounds_toArray, List.set_cons_zero, List.set_cons_succ]
  refine wpAnyH_take (i := 5) (v := .int .i64 (m : Int)) (by simp only [List.getElem?_toArray, List.getElem?_cons_succ, List.getElem?_cons_zero]; rfl) (by kernel_rfl) (by kernel_rfl) (by kernel_rfl) (by intro _ _ _ h; exact h) (Or.inl ⟨by rfl, fun w hS => by go_simp⟩) hH ?_
  simp only [Act.put, List.setIfInBounds_toArray, List.set_cons_zero, List.set_cons_succ]
  refine wpAnyH_take (i := 6) (v := .slice (some ⟨b4, o4, none⟩) m c4) (by simp only [List.getElem?_toArray, List.getElem?_cons_succ, List.getElem?_cons_zero]; rfl) (by kernel_rfl) (by kernel_rfl) (by kernel_rfl) (by intro _ _ _ h; exact h) (Or.inl ⟨by rfl, fun w hS => by go_simp⟩) hH ?_
  simp only [Act.put, List.setIfInBounds_toArray, List.set_cons_zero, List.set_cons_succ]
  refine wpAnyH_ready (rs := [2]) (by kernel_rfl) (by simp) ?_
  refine AllReadyH.cons (by simp only [List.getElem?_toArray, List.getElem?_cons_succ, List.getElem?_cons_zero]; rfl) (fun K hK => ?_) AllReadyH.nil
  go_simp
  refine (l3first _ n _ (HN.out.below hH) (by rw [NN.out]; omega)).mono ?_
  rintro r x2 ⟨v2, rfl, O2, hM⟩
  refine hK.out _ _ (hH.trans (hM.mono hH.size)) (fun hH => ?_)
  clear hK K
  replace K3 := K3.below hM
  clear hM
  refine wpAnyH_ready (rs := [3]) (by kernel_rfl) (by simp) ?_
  refine AllReadyH.cons (by simp only [List.getElem?_toArray, List.getElem?_cons_succ, List.getElem?_cons_zero]; rfl) (fun K hK => ?_) AllReadyH.nil
  go_simp
  refine (l3count _ (jb n) _ O2.rd (jb_byt n yn) (jb_len n NN.out)).mono ?_
  rintro r x3 ⟨v3, rfl, O3, hM⟩
  refine hK.out _ _ (hH.trans (hM.mono hH.size)) (fun hH => ?_)
  clear hK K
  replace K3 := K3.below hM
  clear hM O2
  refine wpAnyH_ready (rs := [7]) (by kernel_rfl) (by simp) ?_
  refine AllReadyH.cons (by simp only [List.getElem?_toArray, List.getElem?_cons_succ, List.getElem?_cons_zero]; rfl) (fun K hK => ?_) AllReadyH.nil
  go_simp
  refine (l3stream _ (kf k) _ _ (cu (jb n)) (s.take m) _ K3 HF.out O3.rd (cu_len _ (jb_len n NN.out)) (cu_byt _ (jb_byt n yn)) (PT.out.below hH) TY.out (by rw [TLn.out]; omega)).mono ?_
  rintro r x7 ⟨v7, rfl, O7, hM⟩
  have O8 := hid (O7.mono (base' := w.heap.size) hH.size)
  refine hK.out _ _ (hH.trans (hM.mono hH.size)) (fun hH => ?_)
  clear hK K hM O7 O3
  refine wpAnyH_ready (rs := [8]) (by kernel_rfl) (by simp) ?_
  refine AllReadyH.cons (by simp only [List.getElem?_toArray, List.getElem?_cons_succ, List.getElem?_cons_zero]; rfl) (fun K hK => ?_) AllReadyH.nil
  go_simp
  refine hK.out _ _ hH (fun hH => ?_)
  clear hK K
  refine wpAnyH_ready (rs := [9]) (by kernel_rfl) (by simp) ?_
  refine AllReadyH.cons (by simp only [List.getElem?_toArray, List.getElem?_cons_succ, List.getElem?_cons_zero]; rfl) (fun K hK => ?_) AllReadyH.nil
  go_simp
  refine hK.out _ _ hH (fun hH => ?_)
  clear hK K
  refine wpAnyH_done (by kernel_rfl) ?_ _
  go_wp2_with fail
  exact bodyPost_ret (v := .tuple #[v7, .bool true]) (by simp [results, Try.results57, go_sem]) rfl ⟨_, rfl, O8.out, hH⟩

set_option maxHeartbeats 2000000 in
set_option maxRecDepth 100000 in
theorem l3open_no (vk vn ve vs : Value) (k n e s : List Nat) (m : Nat) (w : World) (hk : Rd w vk k) (hn : Rd w vn n) (he : Rd w ve e) (hs : Rd w vs s) (yk : Byt k) (yn : Byt n) (ye : Byt e) (ys : Byt s) (nk : k.length = 16) (nn : n.length = 12) (ne : e.length ≤ 101) (ns : s.length = m + 16) (nm : m ≤ 700) (ho : ¬ tg (kf k) n e (s.take m) = s.drop m) :
    Calls Try.prog 57 #[vk, vn, ve, vs] w fun r w' => ∃ v, r = .returned (.tuple #[v, .bool false]) ∧ Own w' w.heap.size v [] ∧ Below w.heap.size w w' := by
  have hsq : (!((strOf (tg (kf k) n e (s.take m))).toList == (strOf (s.drop m)).toList)) = true := by
    cases hq : ((strOf (tg (kf k) n e (s.take m))).toList == (strOf (s.drop m)).toList) with
    | false => rfl
    | true => exact absurd (str_one _ _ (tg_byt (kf k) (kf_lt k yk) n e (s.take m) yn) (fun x hx => ys x (List.mem_of_mem_drop hx)) hq) ho
  clear ho

  obtain ⟨p1, c1, rfl, -, -, -⟩ := hk.parts
  obtain ⟨p2, c2, rfl, -, -, -⟩ := hn.parts
  obtain ⟨p3, c3, rfl, -, -, -⟩ := he.parts
  obtain ⟨b4, o4, c4, rfl, hc4, -⟩ := hs.spot (by omega)
  rw [ns] at hs hc4 ⊢
  have PT := hid (rd_piece hs 0 m (by omega))
  rw [Nat.add_zero, Nat.sub_zero, sub_take] at PT
  have PD := hid (rd_piece hs m 16 (by omega))
  rw [sub_drop s m 16 (by omega)] at PD
  have HK := hid hk
  have HN := hid hn
  have HE := hid he
  have NK := hid nk
  have NN := hid nn
  have NE := hid ne
  have TLn := hid (show (s.take m).length = m by rw [List.length_take]; omega)
  have TY := hid (show Byt (s.take m) from fun x hx => ys x (List.mem_of_mem_take hx))
  have DY := hid (show Byt (s.drop m) from fun x hx => ys x (List.mem_of_mem_drop hx))
  have HF := hid (kf_lt k yk)
  have TGY := hid (tg_byt (kf k) HF.out n e (s.take m) yn)
  have RU := run_upto b4 o4 (m + 16) c4 m (by omega) (by omega)
  have RF := run_from b4 o4 (m + 16) c4 m (by omega) (by omega)
  rw [Nat.add_sub_cancel_left] at RF
  have w1 : IntKind.i64.wrap (((m + 16 : Nat) : Int) - 16) = (m : Int) := by rw [IntKind.wrap_i64]; omega
  have e1 : ((m + 16 : Nat) : Int) - 16 = (m : Int) := by omega
  have e2 : (m : Int) + 16 - 16 = (m : Int) := by omega
  have m0 : ¬ (m : Int) < 0 := by omega
  clear hk hn he hs nk nn ne ns
  go_enter Try.func57, Try.ntmps57
  go_wp2_with fail
  refine (l2keys _ k _ HK.out yk NK.out).mono ?_
  rintro r w1 ⟨rfl, K1, hM⟩
  have B1 := hid hM
  have K1 := hid K1
  clear hM
  go_wp2_with fail
  have KL := hid K1.out.lt
  have K2 : Ar w1.drew w.heap.size 5 (rowTo 176 (kf k) 176) := K1.out
  refine wp_region_held_drew (S := fun w' => Below w.heap.size w w') (by kernel_rfl) B1.out.drew (fun hH => ?_)
  refine wpAnyH_take (i := 0) (v := .slice (some ⟨w.heap.size, 0, none⟩) 176 176) (by simp only [List.getElem?_toArray, List.getElem?_cons_zero]; rfl) (by kernel_rfl) (by kernel_rfl) (by kernel_rfl) (by intro _ _ _ h; exact h) (Or.inl ⟨by rfl, fun w hS => by go_simp⟩) hH ?_
  simp only [Act.put, List.setIfInBounds_toArray, List.set_cons_zero, List.set_cons_succ]
  refine wpAnyH_take (i := 1) (v := .slice p2 n.length c2) (by simp only [List.getElem?_toArray, List.getElem?_cons_succ, List.getElem?_cons_zero]; rfl) (by kernel_rfl) (by kernel_rfl) (by kernel_rfl) (by intro _ _ _ h; exact h) (Or.inl ⟨by rfl, fun w hS => by go_simp⟩) hH ?_
  simp only [Act.put, List.setIfInBounds_toArray, List.set_cons_zero, List.set_cons_succ]
  refine wpAnyH_take (i := 2) (v := .slice p3 e.length c3) (by simp only [List.getElem?_toArray, List.getElem?_cons_succ, List.getElem?_cons_zero]; rfl) (by kernel_rfl) (by kernel_rfl) (by kernel_rfl) (by intro _ _ _ h; exact h) (Or.inl ⟨by rfl, fun w hS => by go_simp⟩) hH ?_
  simp only [Act.put, List.setIfInBounds_toArray, List.set_cons_zero, List.set_cons_succ]
  refine wpAnyH_take (i := 3) (v := .slice (some ⟨b4, o4, none⟩) (m + 16) c4) (by simp only [List.getElem?_toArray, List.getElem?_cons_succ, List.getElem?_cons_zero]; rfl) (by kernel_rfl) (by kernel_rfl) (by kernel_rfl) (by intro _ _ _ h; exact h) (Or.inl ⟨by rfl, fun w hS => by go_simp⟩) hH ?_
  simp only [Act.put, List.setIfInBounds_toArray, List.set_cons_zero, List.set_cons_succ]
  refine wpAnyH_take (i := 4) (v := .int .i64 (m : Int)) (by simp only [List.getElem?_toArray, List.getElem?_cons_succ, List.getElem?_cons_zero]; rfl) (by kernel_rfl) (by kernel_rfl) (by kernel_rfl) (by intro _ _ _ h; exact h) (Or.inl ⟨by rfl, fun w hS => by go_simp⟩) hH ?_
  simp only [Act.put, List.setIfInBounds_toArray, List.set_cons_zero, List.set_cons_succ]
  refine wpAnyH_take (i := 5) (v := .slice (some ⟨b4, o4, none⟩) m c4) (by simp only [List.getElem?_toArray, List.getElem?_cons_succ, List.getElem?_cons_zero]; rfl) (by kernel_rfl) (by kernel_rfl) (by kernel_rfl) (by intro _ _ _ h; exact h) (Or.inl ⟨by rfl, fun w hS => by go_simp⟩) hH ?_
  simp only [Act.put, List.setIfInBounds_toArray, List.set_cons_zero, List.set_cons_succ]
  refine wpAnyH_take (i := 8) (v := .slice (some ⟨b4, o4, none⟩) (m + 16) c4) (by simp only [List.getElem?_toArray, List.getElem?_cons_succ, List.getElem?_cons_zero]; rfl) (by kernel_rfl) (by kernel_rfl) (by kernel_rfl) (by intro _ _ _ h; exact h) (Or.inl ⟨by rfl, fun w hS => by go_simp⟩) hH ?_
  simp only [Act.put, List.setIfInBounds_toArray, List.set_cons_zero, List.set_cons_succ]
  refine wpAnyH_take (i := 9) (v := .int .i64 (m : Int)) (by simp only [List.getElem?_toArray, List.getElem?_cons_succ, List.getElem?_cons_zero]; rfl) (by kernel_rfl) (by kernel_rfl) (by kernel_rfl) (by intro _ _ _ h; exact h) (Or.inl ⟨by rfl, fun w hS => by go_simp⟩) hH ?_
  simp only [Act.put, List.setIfInBounds_toArray, List.set_cons_zero, List.set_cons_succ]
  refine wpAnyH_take (i := 10) (v := .slice (some ⟨b4, o4 + m, none⟩) 16 (c4 - m)) (by simp only [List.getElem?_toArray, List.getElem?_cons_succ, List.getElem?_cons_zero]; rfl) (by kernel_rfl) (by kernel_rfl) (by kernel_rfl) (by intro _ _ _ h; exact h) (Or.inl ⟨by rfl, fun w hS => by go_simp⟩) hH ?_
  simp only [Act.put, List.setIfInBounds_toArray, List.set_cons_zero, List.set_cons_succ]
  refine wpAnyH_take (i := 11) (v := .string (strOf (s.drop m))) (by simp only [List.getElem?_toArray, List.getElem?_cons_succ, List.getElem?_cons_zero]; rfl) (by kernel_rfl) (by kernel_rfl) (by kernel_rfl) (by intro _ _ _ h; exact h) (Or.inl ⟨by rfl, fun w hS => by have c := conv _ (s.drop m) w (PD.out.below hS); go_simp⟩) hH ?_
  simp only [Act.put, List.setIfInBounds_toArray, List.set_cons_zero, List.set_cons_succ]
  generalize w1.drew = x at hH K2 ⊢
  refine wpAnyH_ready (rs := [6]) (by kernel_rfl) (by simp) ?_
  refine AllReadyH.cons (by simp only [List.getElem?_toArray, List.getElem?_cons_succ, List.getElem?_cons_zero]; rfl) (fun K hK => ?_) AllReadyH.nil
  go_simp
  refine (l3tag _ (kf k) _ _ _ n e (s.take m) _ K2 HF.out (HN.out.below hH) (HE.out.below hH) (PT.out.below hH) yn ye TY.out NN.out NE.out (by rw [TLn.out]; exact nm)).mono ?_
  rintro r x6 ⟨v6, rfl, O6, hM⟩
  refine hK.out _ _ (hH.trans (hM.mono hH.size)) (fun hH => ?_)
  clear hK K
  replace K2 := K2.below hM
  clear hM
  have cv := conv _ _ _ O6.rd
  refine wpAnyH_ready (rs := [7]) (by kernel_rfl) (by simp) ?_
  refine AllReadyH.cons (by simp only [List.getElem?_toArray, List.getElem?_cons_succ, List.getElem?_cons_zero]; rfl) (fun K hK => ?_) AllReadyH.nil
  go_simp
  refine hK.out _ _ hH (fun hH => ?_)
  clear hK K
  refine wpAnyH_ready (rs := [12]) (by kernel_rfl) (by simp) ?_
  refine AllReadyH.cons (by simp only [List.getElem?_toArray, List.getElem?_cons_succ, List.getElem?_cons_zero]; rfl) (fun K hK => ?_) AllReadyH.nil
  go_simp
  refine hK.out _ _ hH (fun hH => ?_)
  clear hK K
  refine wpAnyH_done (by kernel_rfl) ?_ _
  clear cv O6
  replace hH := hid hH
  clear K2
  go_wp2_with fail
  exact bodyPost_ret (v := .tuple #[.slice none 0 0, .bool false]) (by simp [results, Try.results57, go_sem]) rfl ⟨_, rfl, Own.nil _ _, hH.out⟩

set_option maxRecDepth 100000 in
theorem sop_no (vk vn ve vp : Value) (k n e s : List Nat) (w : World) (hk : Rd w vk k) (hn : Rd w vn n) (he : Rd w ve e) (hp : Rd w vp s) (h : opOk k n e s = false) :
    Calls Try.prog 21 #[vk, vn, ve, vp] w fun r w' => r = .returned (.agg #[.int .i64 2, .slice none 0 0]) ∧ Below w.heap.size w w' := by
  obtain ⟨p1, c1, rfl, -, -, -⟩ := hk.parts
  obtain ⟨p2, c2, rfl, -, -, -⟩ := hn.parts
  obtain ⟨p3, c3, rfl, -, -, -⟩ := he.parts
  obtain ⟨p4, c4, rfl, -, -, -⟩ := hp.parts
  clear hk hn he hp
  by_cases ha : askd k n e = true
  · have A := hid ha
    have d4 : (616 : Int) < (s.length : Int) := by
      simp only [opOk, ha, Bool.true_and, decide_eq_false_iff_not] at h
      omega
    clear ha h
    go_enter Try.func21, Try.ntmps21
    go_wp2_with fail
    refine (l3asked _ _ _ _ _ _ k n e _).mono ?_
    rintro r w0 ⟨rfl, rfl⟩
    rw [A.out]
    go_wp2
    exact bodyPost_ret (v := .agg #[.int .i64 2, .slice none 0 0]) (by simp [results, Try.results21, go_sem]) rfl ⟨rfl, below_alloc1 w _⟩
  · have A := hid (show askd k n e = false by simpa using ha)
    clear ha h
    go_enter Try.func21, Try.ntmps21
    go_wp2_with fail
    refine (l3asked _ _ _ _ _ _ k n e _).mono ?_
    rintro r w0 ⟨rfl, rfl⟩
    rw [A.out]
    go_wp2
    exact bodyPost_ret (v := .agg #[.int .i64 2, .slice none 0 0]) (by simp [results, Try.results21, go_sem]) rfl ⟨rfl, below_alloc1 w _⟩

set_option maxRecDepth 100000 in
theorem sop_at (vk vn ve vp : Value) (k n e s l : List Nat) (c : Int) (b : Bool) (w : World) (hk : Rd w vk k) (hn : Rd w vn n) (he : Rd w ve e) (hp : Rd w vp s) (h : opOk k n e s = true) (hcb : (b = true ∧ c = 0) ∨ (b = false ∧ c = 9 ∧ l = []))
    (HC : Hid (∀ (w : World) (v0 v1 v2 v3 : Value), Rd w v0 k → Rd w v1 n → Rd w v2 e → Rd w v3 s → Calls Try.prog 57 #[v0, v1, v2, v3] w fun r w' => ∃ v, r = .returned (.tuple #[v, .bool b]) ∧ Own w' w.heap.size v l ∧ Below w.heap.size w w')) :
    Calls Try.prog 21 #[vk, vn, ve, vp] w fun r w' => ∃ v, r = .returned (.agg #[.int .i64 c, v]) ∧ Owx w' w.heap.size v l ∧ Below w.heap.size w w' := by
  obtain ⟨p1, c1, rfl, -, -, -⟩ := hk.parts
  obtain ⟨p2, c2, rfl, -, -, -⟩ := hn.parts
  obtain ⟨p3, c3, rfl, -, -, -⟩ := he.parts
  obtain ⟨p4, c4, rfl, -, -, -⟩ := hp.parts
  have Q := hid (opOk_parts h)
  have A := hid (show askd k n e = true by simp only [opOk, Bool.and_eq_true] at h; exact h.1)
  have d4 : ¬ (616 : Int) < (s.length : Int) := by have := Q.out.2; omega
  have b0 := below_alloc1 w (.cells #[.int .i64 0, .slice none 0 0] 24)
  have HK := hid (hk.below b0)
  have HN := hid (hn.below b0)
  have HE := hid (he.below b0)
  have HP := hid (hp.below b0)
  clear hk hn he hp h b0
  go_enter Try.func21, Try.ntmps21
  go_wp2_with fail
  refine (l3asked _ _ _ _ _ _ k n e _).mono ?_
  rintro r w0 ⟨rfl, rfl⟩
  rw [A.out]
  go_wp2_with fail
  refine (HC.out _ _ _ _ _ HK.out HN.out HE.out HP.out).mono ?_
  rintro r w1 ⟨v, rfl, O, B1⟩
  simp only [World.size_alloc] at O
  obtain ⟨q, cq, rfl, -, -, -⟩ := O.rd.parts
  have hv := var_below B1 (heap_alloc_new w (.cells #[.int .i64 0, .slice none 0 0] 24))
  have hB3 := (below_alloc1 w (.cells #[.int .i64 0, .slice none 0 0] 24)).trans (B1.mono (by simp))
  obtain ⟨f1, f2, f3, f4⟩ := var2_facts hv
  clear HK HN HE HP HC
  rcases hcb with ⟨rfl, rfl⟩ | ⟨rfl, rfl, rfl⟩
  · have hset := hid (var2_set (x' := .int .i64 0) (y' := .slice q l.length cq) hv)
    have hbel := hid (below_set2 (x := .int .i64 0) (y := .slice q l.length cq) hB3 (Nat.le_refl _))
    have hown := hid ((O.set2 (g := w.heap.size) (x := .int .i64 0) (y := .slice q l.length cq) (by omega)).mono (base' := w.heap.size) (by omega)).x
    clear hv O B1 hB3
    go_wp2
    exact bodyPost_ret (v := .agg #[.int .i64 0, .slice q l.length cq]) (results_cell_row rfl _ _ w.heap.size 24 _ _ _ rfl hset.out Try.underlying24 rfl (by kernel_rfl)) rfl ⟨_, rfl, hown.out, hbel.out⟩
  · have hset := hid (var2_set (x' := .int .i64 9) (y' := .slice none 0 0) hv)
    have hbel := hid (below_set2 (x := .int .i64 9) (y := .slice none 0 0) hB3 (Nat.le_refl _))
    clear hv O B1 hB3
    go_wp2
    exact bodyPost_ret (v := .agg #[.int .i64 9, .slice none 0 0]) (results_cell_row rfl _ _ w.heap.size 24 _ _ _ rfl hset.out Try.underlying24 rfl (by kernel_rfl)) rfl ⟨_, rfl, Owx.nil _ _, hbel.out⟩

theorem sop (vk vn ve vp : Value) (k n e s : List Nat) (w : World) (hk : Rd w vk k) (hn : Rd w vn n) (he : Rd w ve e) (hp : Rd w vp s) (yk : Byt k) (yn : Byt n) (ye : Byt e) (ys : Byt s) :
    Calls Try.prog 21 #[vk, vn, ve, vp] w fun r w' => ∃ v, r = .returned (.agg #[.int .i64 (opC k n e s), v]) ∧ Owx w' w.heap.size v (opB k n e s) ∧ Below w.heap.size w w' := by
  by_cases h : opOk k n e s = true
  · have Q := opOk_parts h
    by_cases ho : opens (kf k) n e s
    · obtain ⟨m, hm⟩ : ∃ m, s.length = m + 16 := ⟨s.length - 16, by have := ho.1; omega⟩
      have e1 : s.length - 16 = m := by omega
      rw [show opC k n e s = 0 by rw [opC, if_pos h, if_pos ho], show opB k n e s = hid1 (kf k) n (s.take m) by rw [opB, if_pos h, if_pos ho, e1]]
      have ho2 := ho.2
      rw [e1] at ho2
      exact sop_at vk vn ve vp k n e s _ 0 true w hk hn he hp h (.inl ⟨rfl, rfl⟩) (hid fun w v0 v1 v2 v3 r0 r1 r2 r3 => l3open_yes v0 v1 v2 v3 k n e s m w r0 r1 r2 r3 yk yn ye ys Q.1.1 Q.1.2.1 (by have := Q.1.2.2; omega) hm (by have := Q.2; omega) ho2)
    · rw [show opC k n e s = 9 by rw [opC, if_pos h, if_neg ho], show opB k n e s = [] by rw [opB, if_pos h, if_neg ho]]
      refine sop_at vk vn ve vp k n e s [] 9 false w hk hn he hp h (.inr ⟨rfl, rfl, rfl⟩) (hid fun w v0 v1 v2 v3 r0 r1 r2 r3 => ?_)
      by_cases hl : 16 ≤ s.length
      · obtain ⟨m, hm⟩ : ∃ m, s.length = m + 16 := ⟨s.length - 16, by omega⟩
        have e1 : s.length - 16 = m := by omega
        exact l3open_no v0 v1 v2 v3 k n e s m w r0 r1 r2 r3 yk yn ye ys Q.1.1 Q.1.2.1 (by have := Q.1.2.2; omega) hm (by have := Q.2; omega) (fun q => ho ⟨hl, by rw [e1]; exact q⟩)
      · obtain ⟨p4, c4, rfl, -, -, -⟩ := r3.parts
        exact (l3open_short v0 v1 v2 p4 c4 s.length w (by omega)).mono fun r w' ⟨h1, h2⟩ => ⟨_, h1, Own.nil _ _, by rw [h2]; exact Below.refl _ _⟩
  · rw [show opC k n e s = 2 by rw [opC, if_neg h], show opB k n e s = [] by rw [opB, if_neg h]]
    exact (sop_no vk vn ve vp k n e s w hk hn he hp (by simpa using h)).mono fun e w' ⟨he, hb⟩ => ⟨_, he, Owx.nil _ _, hb⟩
end Go.Proofs.Ytckgjghpfjinfai.W
