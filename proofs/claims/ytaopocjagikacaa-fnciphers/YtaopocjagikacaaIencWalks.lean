/-
  A block by a key: what the program's EncryptBlock answers.
-/
import Derived.Test.YtaopocjagikacaaEncWalks
import Derived.Test.YtaopocjagikacaaTellWalks
import Derived.Test.YtaopocjagikacaaEncC
namespace Go.Proofs.Ytaopocjagikacaa.W
open Go.ChangeShapes Go.WideShapes Go.ChangeAt Go.RowKit
open Go.Proofs.Ytaopocjagikacaa.M

theorem iskey (a : Option Addr) (n cap : Nat) (w : World) :
    Calls Try.prog 62 #[.slice a n cap] w fun e w' => e = .returned (.bool ((n : Int) == 16)) ∧ w' = w := by
  go_enter Try.func62, Try.ntmps62
  go_wp2
  go_ret
  exact ⟨rfl, rfl⟩
theorem iskey_yes (a : Option Addr) (cap : Nat) (w : World) :
    Calls Try.prog 62 #[.slice a 16 cap] w fun e w' => e = .returned (.bool true) ∧ w' = w := iskey a 16 cap w
theorem iskey_no (a : Option Addr) (n cap : Nat) (hn : n ≠ 16) (w : World) :
    Calls Try.prog 62 #[.slice a n cap] w fun e w' => e = .returned (.bool false) ∧ w' = w := by
  have h := iskey a n cap w
  rw [show ((n : Int) == 16) = false by simp; omega] at h
  exact h

set_option maxHeartbeats 2000000 in
set_option maxRecDepth 100000 in
theorem ienc_ok (vk vb : Value) (k l : List Nat) (w : World) (hk : Rd w vk k) (hb : Rd w vb l) (yk : Byt k) (yb : Byt l) (lk : k.length = 16) (lb : l.length = 16) :
    Calls Try.prog 45 #[vk, vb] w fun e w' => ∃ r, e = .returned (.agg #[.int .i64 0, r]) ∧ Owx w' w.heap.size r (enc (kf k) l) ∧ Below w.heap.size w w' := by
  obtain ⟨b1, o1, cap1, rfl, -, -⟩ := hk.spot (by omega)
  obtain ⟨b2, o2, cap2, rfl, -, -⟩ := hb.spot (by omega)
  have H1 := hid lk
  have H2 := hid lb
  rw [lk] at hk
  rw [lb] at hb
  rw [lk, lb]
  have A1 := hid hk
  have A2 := hid hb
  have Z1 := hid (key_size k lk)
  have Z2 := hid (blk_size l lb)
  have P1 := arr_at 73 5 16 Try.underlying73 (some ⟨b1, o1, none⟩) 16 cap1 (Nat.le_refl _)
  have P2 := arr_at 76 5 16 Try.underlying76 (some ⟨b2, o2, none⟩) 16 cap2 (Nat.le_refl _)
  have V0 := heap_alloc_new w (.cells #[.int .i64 0, .slice none 0 0] 33)
  have B0 := below_alloc1 w (.cells #[.int .i64 0, .slice none 0 0] 33)
  clear hk hb lk lb
  go_enter Try.func45, Try.ntmps45
  go_wp2_with fail
  refine (iskey_yes _ _ _).mono ?_
  rintro e w' ⟨rfl, rfl⟩
  go_wp2_with fail
  refine (isblk_yes _ _ _).mono ?_
  rintro e w' ⟨rfl, rfl⟩
  go_wp2_with fail
  have R1' := hid (rd_range A1.out)
  have R2' := hid (rd_range A2.out)
  generalize w.alloc (.cells #[.int .i64 0, .slice none 0 0] 33) = W at *
  refine wp_region_held_drew (S := fun w' => Below w.heap.size w w') (by kernel_rfl) B0.drew (fun hH => ?_)
  refine wpAnyH_take (i := 0) (v := .slice (some ⟨b1, o1, none⟩) 16 cap1) (by simp only [List.getElem?_toArray, List.getElem?_cons_zero]; rfl) (by kernel_rfl) (by kernel_rfl) (by kernel_rfl) (by intro _ _ _ h; exact h) (Or.inl ⟨by rfl, fun w _ => by go_simp⟩) hH ?_
  simp only [Act.put, List.setIfInBounds_toArray, List.set_cons_zero, List.set_cons_succ]
  refine wpAnyH_take (i := 1) (v := .pointer (some ⟨b1, o1, none⟩)) (by simp only [List.getElem?_toArray, List.getElem?_cons_succ, List.getElem?_cons_zero]; rfl) (by kernel_rfl) (by kernel_rfl) (by kernel_rfl) (by intro _ _ _ h; exact h) (Or.inl ⟨by rfl, fun w _ => by go_simp⟩) hH ?_
  simp only [Act.put, List.setIfInBounds_toArray, List.set_cons_zero, List.set_cons_succ]
  refine wpAnyH_take (i := 2) (v := .agg (arr k)) (by simp only [List.getElem?_toArray, List.getElem?_cons_succ, List.getElem?_cons_zero]; rfl) (by kernel_rfl) (by kernel_rfl) (by kernel_rfl) (by intro _ _ _ h; exact h) (yieldsIf_load_mid (by rfl) _ _ rfl b1 o1 rfl (k.map bv) _ (fun w hS => rangeAt.below R1'.out hS) Try.underlying73 rfl (by rw [List.length_map, ← arr_size]; exact Z1.out)) hH ?_
  simp only [Act.put, List.setIfInBounds_toArray, List.set_cons_zero, List.set_cons_succ]
  refine wpAnyH_take (i := 4) (v := .slice (some ⟨b2, o2, none⟩) 16 cap2) (by simp only [List.getElem?_toArray, List.getElem?_cons_succ, List.getElem?_cons_zero]; rfl) (by kernel_rfl) (by kernel_rfl) (by kernel_rfl) (by intro _ _ _ h; exact h) (Or.inl ⟨by rfl, fun w _ => by go_simp⟩) hH ?_
  simp only [Act.put, List.setIfInBounds_toArray, List.set_cons_zero, List.set_cons_succ]
  refine wpAnyH_take (i := 5) (v := .pointer (some ⟨b2, o2, none⟩)) (by simp only [List.getElem?_toArray, List.getElem?_cons_succ, List.getElem?_cons_zero]; rfl) (by kernel_rfl) (by kernel_rfl) (by kernel_rfl) (by intro _ _ _ h; exact h) (Or.inl ⟨by rfl, fun w _ => by go_simp⟩) hH ?_
  simp only [Act.put, List.setIfInBounds_toArray, List.set_cons_zero, List.set_cons_succ]
  refine wpAnyH_take (i := 6) (v := .agg (arr l)) (by simp only [List.getElem?_toArray, List.getElem?_cons_succ, List.getElem?_cons_zero]; rfl) (by kernel_rfl) (by kernel_rfl) (by kernel_rfl) (by intro _ _ _ h; exact h) (yieldsIf_load_mid (by rfl) _ _ rfl b2 o2 rfl (l.map bv) _ (fun w hS => rangeAt.below R2'.out hS) Try.underlying76 rfl (by rw [List.length_map, ← arr_size]; exact Z2.out)) hH ?_
  simp only [Act.put, List.setIfInBounds_toArray, List.set_cons_zero, List.set_cons_succ]
  have V1 : W.drew.heap[w.heap.size]? = some (.cells #[.int .i64 0, .slice none 0 0] 33) := V0
  have hz1 : w.heap.size < W.drew.heap.size := var_lt V1
  generalize W.drew = x1 at hH V1 hz1 ⊢
  refine wpAnyH_ready (rs := [3]) (by kernel_rfl) (by simp) ?_
  refine AllReadyH.cons (by simp only [List.getElem?_toArray, List.getElem?_cons_succ, List.getElem?_cons_zero]; rfl) (fun K hK => ?_) AllReadyH.nil
  go_simp
  refine (cipof k _ H1.out yk).mono ?_
  rintro e x2 ⟨g, rfl, C, hg, hM⟩
  refine hK.out _ _ (hH.trans (hM.mono hH.size)) (fun hH => ?_)
  clear hK K
  replace V1 := var_below hM V1
  clear hM
  refine wpAnyH_ready (rs := [7]) (by kernel_rfl) (by simp) ?_
  refine AllReadyH.cons (by simp only [List.getElem?_toArray, List.getElem?_cons_succ, List.getElem?_cons_zero]; rfl) (fun K hK => ?_) AllReadyH.nil
  go_simp
  refine (encr l (kf k) g _ H2.out yb (kf_lt k yk) C).mono ?_
  rintro e x3 ⟨rfl, hM⟩
  refine hK.out _ _ (hH.trans (hM.mono hH.size)) (fun hH => ?_)
  clear hK K
  replace V1 := var_below hM V1
  clear hM C
  refine wpAnyH_ready (rs := [8]) (by kernel_rfl) (by simp) ?_
  refine AllReadyH.cons (by simp only [List.getElem?_toArray, List.getElem?_cons_succ, List.getElem?_cons_zero]; rfl) (fun K hK => ?_) AllReadyH.nil
  go_simp
  have EL := hid (stt_len (kf k) l H2.out 10)
  refine (tellb (enc (kf k) l) _ EL.out).mono ?_
  rintro e x4 ⟨r, rfl, O, hM⟩
  obtain ⟨q, c, rfl, -, -, -⟩ := O.rd.parts
  refine hK.out _ _ (hH.trans (hM.mono hH.size)) (fun hH2 => ?_)
  clear hK K
  have hz3 := var_lt V1
  replace V1 := var_below hM V1
  obtain ⟨f1, f2, f3, f4⟩ := var2_facts V1
  have hset := hid (var2_set (x' := .int .i64 0) (y' := .slice q (enc (kf k) l).length c) V1)
  have hbel := hid (below_set2 (x := .int .i64 0) (y := .slice q (enc (kf k) l).length c) hH2 (Nat.le_refl _))
  have hown := hid ((O.set2 (g := w.heap.size) (x := .int .i64 0) (y := .slice q (enc (kf k) l).length c) hz3).mono (base' := w.heap.size) (by omega))
  clear V1 O hM
  refine wpAnyH_ready (rs := [9]) (by kernel_rfl) (by simp) ?_
  refine AllReadyH.cons (by simp only [List.getElem?_toArray, List.getElem?_cons_succ, List.getElem?_cons_zero]; rfl) (fun K hK => ?_) AllReadyH.nil
  go_simp
  refine hK.out _ _ hbel.out (fun _ => ?_)
  clear hK K
  refine wpAnyH_done (by kernel_rfl) ?_ _
  go_wp2
  exact bodyPost_ret (v := .agg #[.int .i64 0, .slice q (enc (kf k) l).length c]) (results_cell_row rfl _ _ w.heap.size 33 _ _ _ rfl hset.out Try.underlying33 rfl (by kernel_rfl)) rfl ⟨_, rfl, hown.out, hbel.out⟩

set_option maxRecDepth 100000 in
theorem ienc_no (vk vb : Value) (k l : List Nat) (w : World) (hk : Rd w vk k) (hb : Rd w vb l) (h : ¬ (k.length = 16 ∧ l.length = 16)) :
    Calls Try.prog 45 #[vk, vb] w fun e w' => e = .returned (.agg #[.int .i64 2, .slice none 0 0]) ∧ Below w.heap.size w w' := by
  obtain ⟨p1, cap1, rfl, -, -, -⟩ := hk.parts
  obtain ⟨p2, cap2, rfl, -, -, -⟩ := hb.parts
  clear hk hb
  by_cases h1 : k.length = 16
  · have h2 : l.length ≠ 16 := fun e => h ⟨h1, e⟩
    have H2 := hid h2
    rw [h1]
    clear h1 h h2
    go_enter Try.func45, Try.ntmps45
    go_wp2_with fail
    refine (iskey_yes _ _ _).mono ?_
    rintro e w' ⟨rfl, rfl⟩
    go_wp2_with fail
    refine (isblk_no _ _ _ H2.out _).mono ?_
    rintro e w' ⟨rfl, rfl⟩
    go_wp2
    exact bodyPost_ret (v := .agg #[.int .i64 2, .slice none 0 0]) (by simp [results, Try.results45, go_sem]) rfl ⟨rfl, below_alloc1 w _⟩
  · have H1 := hid h1
    clear h1 h
    go_enter Try.func45, Try.ntmps45
    go_wp2_with fail
    refine (iskey_no _ _ _ H1.out _).mono ?_
    rintro e w' ⟨rfl, rfl⟩
    go_wp2
    exact bodyPost_ret (v := .agg #[.int .i64 2, .slice none 0 0]) (by simp [results, Try.results45, go_sem]) rfl ⟨rfl, below_alloc1 w _⟩

theorem ienc (vk vb : Value) (k l : List Nat) (w : World) (hk : Rd w vk k) (hb : Rd w vb l) (yk : Byt k) (yb : Byt l) :
    Calls Try.prog 45 #[vk, vb] w fun e w' => ∃ r, e = .returned (.agg #[.int .i64 (encC k l), r]) ∧ Owx w' w.heap.size r (encB k l) ∧ Below w.heap.size w w' := by
  by_cases h : k.length = 16 ∧ l.length = 16
  · rw [show encC k l = 0 by rw [encC, if_pos h], show encB k l = enc (kf k) l by rw [encB, if_pos h]]
    exact ienc_ok vk vb k l w hk hb yk yb h.1 h.2
  · rw [show encC k l = 2 by rw [encC, if_neg h], show encB k l = [] by rw [encB, if_neg h]]
    exact (ienc_no vk vb k l w hk hb h).mono fun e w' ⟨he, hb⟩ => ⟨_, he, Owx.nil _ _, hb⟩
end Go.Proofs.Ytaopocjagikacaa.W
