/-
  A counter that is taken: what the model's l6Take answers where there is no code.
-/
import Derived.Test.YtalaolfcdaaaoaaL6W
import Derived.Test.YtalaolfcdaaaoaaAppZ
namespace Go.Proofs.Ytalaolfcdaaaoaa.W
open Go.ChangeShapes Go.WideShapes Go.ChangeAt Go.RowKit
open Go.Proofs.Ytalaolfcdaaaoaa.M

theorem cellS1z {w : World} {g : Nat} {x y y' : Value} {T : TypeId} (h : w.heap[g]? = some (.cells #[x, y] T)) : (w.setCell ⟨g, 1, none⟩ y').heap[g]? = some (.cells #[x, y'] T) := by
  have h1 := heap_setCell_same w g 1 _ T y' h
  simpa using h1
theorem var_otherZ {w : World} {g : Nat} {o : Obj} (h : w.heap[g]? = some o) (a : Addr) (x : Value) (hne : g ≠ a.block) : (w.setCell a x).heap[g]? = some o := by
  rw [Below.heap_setCell _ _ _ _ hne]; exact h
theorem size_setZ (w : World) (a : Addr) (x : Value) : (w.setCell a x).heap.size = w.heap.size := by simp
/-- What is made out so far, and what is to come. -/
def Dz (t n : Int) (done : Bool) (acc rest R : List Int) : Prop := acc ++ (if done = true then rest.filter (fun y => decide (t < y)) else insZ t n rest) = R
theorem Dz.first {t n : Int} {x : Int} {acc r R : List Int} (h : Dz t n false acc (x :: r) R) (hn : n < x) : Dz t n true (acc ++ [n]) (x :: r) R := by
  unfold Dz at *
  rw [if_neg (by simp)] at h
  rw [if_pos rfl, ← h, insZ, if_pos hn, List.append_assoc, List.singleton_append]
theorem Dz.next {t n : Int} {x : Int} {done : Bool} {acc r R : List Int} (h : Dz t n done acc (x :: r) R) (hd : done = true ∨ ¬ n < x) : Dz t n done (if t < x then acc ++ [x] else acc) r R := by
  unfold Dz at *
  cases done with
  | true =>
    simp only [if_true] at h ⊢
    rw [← h]
    by_cases q : t < x
    · rw [if_pos q, List.filter_cons_of_pos (by simpa using q), List.append_assoc, List.singleton_append]
    · rw [if_neg q, List.filter_cons_of_neg (by simpa using q)]
  | false =>
    simp only [Bool.false_eq_true, if_false] at h ⊢
    have hn : ¬ n < x := by simpa using hd
    rw [← h, insZ, if_neg hn]
    by_cases q : t < x
    · rw [if_pos q, if_pos q, List.append_assoc]
    · rw [if_neg q, if_neg q, List.nil_append]
set_option maxHeartbeats 8000000 in
set_option maxRecDepth 100000 in
theorem l6t_ok (g : Nat) (top n : Int) (v : Value) (l : List Int) (w : World) (hV : w.heap[g]? = some (.cells #[.int .i64 top, v] 69)) (h : RdZ w v l) (hr : -1 ≤ top ∧ top ≤ 1000000000) (hc : tkC top l n = 0) (hl : l.length ≤ 1048576) :
    Calls Try.prog 105 #[.pointer (some ⟨g, 0, none⟩), .int .i64 n] w fun e w' => ∃ u, e = .returned (.tuple #[.agg #[.int .i64 (tkT top n), u], .int .i64 0]) ∧ OwZ w' w.heap.size u (insZ (tkT top n - 16) n l) ∧ Below w.heap.size w w' := by
  have H := hid h
  have HV := hid hV
  obtain ⟨c1, c2, c3⟩ := tkC_zero hc
  have HT := hid (show -1 ≤ tkT top n ∧ tkT top n ≤ 1000000000 by unfold tkT; split <;> omega)
  obtain ⟨a, ca, rfl, -, -, -⟩ := h.parts
  have LG := hid (var_lt hV)
  clear h hV hc
  go_enter Try.func105, Try.ntmps105
  go_wp2_with fail
  have VZ := hid (heap_alloc_new w (.cells #[.int .i64 0, .slice none 0 0] 69))
  have BB := hid (below_alloc1 w (.cells #[.int .i64 0, .slice none 0 0] 69))
  replace HV := hid (var_below BB.out HV.out)
  replace H := hid (H.out.below BB.out)
  have S0 := hid (show w.heap.size < (w.alloc (.cells #[.int .i64 0, .slice none 0 0] 69)).heap.size by simp)
  generalize w.alloc (.cells #[.int .i64 0, .slice none 0 0] 69) = w0 at *
  obtain ⟨gz, hgz⟩ : ∃ g, g = w.heap.size := ⟨_, rfl⟩
  rw [← hgz] at VZ ⊢
  have GZ := hid hgz
  clear hgz
  refine (l1in _ _ _ _).mono ?_
  rintro e x ⟨rfl, rfl⟩
  rw [show inB n 0 1000000000 = true from decide_eq_true c1]
  obtain ⟨f0, f1, -, -⟩ := var2_facts HV.out
  go_wp2_with fail
  clear f0 f1
  refine (l1has _ l n _ H.out).mono ?_
  rintro e w1 ⟨rfl, hB⟩
  replace VZ := hid (var_below hB VZ.out)
  replace HV := hid (var_below hB HV.out)
  replace H := hid (H.out.below hB)
  replace BB := hid (BB.out.trans (hB.mono BB.out.size))
  have S1 := hid (Nat.lt_of_lt_of_le S0.out hB.size)
  clear hB S0
  rw [show l.contains n = false by simpa using c2]
  have hw := wrap16 hr
  have c4 : ¬ n ≤ top - 16 := by omega
  obtain ⟨f0, f1, -, -⟩ := var2_facts HV.out
  go_wp2_with fail
  clear f0 f1 hw
  refine (l1max _ _ _).mono ?_
  rintro e w1 ⟨rfl, rfl⟩
  obtain ⟨T, hT⟩ : ∃ T, T = tkT top n := ⟨_, rfl⟩
  rw [← hT]
  have ET := hid hT
  rw [← hT] at HT
  clear hT c1 c2 c3 c4 hr
  go_wp2_with fail
  have VO := hid (heap_alloc_new w1 (.cells #[.int .i64 T, .slice none 0 0] 69))
  have hA := below_alloc1 w1 (.cells #[.int .i64 T, .slice none 0 0] 69)
  have S2 := hid (show w1.heap.size < (w1.alloc (.cells #[.int .i64 T, .slice none 0 0] 69)).heap.size by simp)
  generalize w1.alloc (.cells #[.int .i64 T, .slice none 0 0] 69) = w2 at *
  obtain ⟨go, hgo⟩ : ∃ g, g = w1.heap.size := ⟨_, rfl⟩
  rw [← hgo] at VO S2 ⊢
  have BL0 := hid hA
  have ZG := hid (show gz < go by rw [hgo, GZ.out]; exact S1.out)
  have GL := hid (show g < go by rw [hgo]; exact Nat.lt_trans LG.out S1.out)
  have EG := hid hgo
  clear S1 hgo hA
  go_loopw [7, 8] (fun s7 s8 wr => ∃ (k : Nat) (done : Bool) (acc : List Int) (u : Value), k ≤ l.length ∧ s7 = .bool done ∧ s8 = .int .i64 k ∧ Hid (wr.heap[go]? = some (.cells #[.int .i64 T, u] 69)) ∧ Hid (OwZ wr (go + 1) u acc) ∧ Hid (acc.length ≤ 2 * k) ∧ Hid (Dz (T - 16) n done acc (l.drop k) (insZ (T - 16) n l)) ∧ Hid (Below w1.heap.size w1 wr) ∧ Hid (go + 1 ≤ wr.heap.size)) (fun _ s8 _ => l.length - (intOf s8).toNat)
  case atStart => exact ⟨0, false, [], .slice none 0 0, by omega, rfl, rfl, VO, hid (OwZ.nil _ _), hid (by simp), hid rfl, BL0, S2⟩
  case round =>
    obtain ⟨k, done, acc, u, hk, rfl, rfl, VO, OA, AL, DZ, BL, SG⟩ := hrel
    clear BL0 S2
    have HV2 := hid (var_below BL.out HV.out)
    have H2 := hid (H.out.below BL.out)
    have hT := wrap16 HT.out
    obtain ⟨f0, f1, -, -⟩ := var2_facts HV2.out
    obtain ⟨pu, cu, rfl, -, -, -⟩ := OA.out.rd.parts
    by_cases hlt : k < l.length
    · obtain ⟨a', ca', e', -, -, hc⟩ := H.out.parts
      obtain ⟨b, o, rfl, ck⟩ := hc k hlt
      cases e'
      clear hc
      have LB := hid (show b < go by rw [EG.out]; exact World.block_lt_of_cell? w1 _ ck)
      replace ck := cell_kept BL.out ck
      have DR := hid (List.drop_eq_getElem_cons hlt)
      cases done with
      | true =>
        have DN := hid (Dz.next (DR.out ▸ DZ.out) (.inl rfl))
        obtain ⟨o0, o1, o2, o3⟩ := var2_facts VO.out
        go_wp2
        go_quiet (fail)
        have hD : Below wr.heap.size wr (wr.drewN nq) := below_drewN (Below.refl _ _) _
        replace VO := hid (var_below hD VO.out)
        replace OA := hid (OA.out.below hD)
        replace BL := hid (BL.out.trans (hD.mono BL.out.size))
        replace SG := hid (Nat.le_trans SG.out hD.size)
        replace f1 := cell_kept hD f1
        replace ck := cell_kept hD ck
        clear hD o0 o1 o2 o3
        generalize wr.drewN nq = x0 at *
        by_cases ht : T - 16 < l[k]
        · rw [if_pos ht] at DN
          have LA := hid (show acc.length + 1 ≤ 4194304 by have := AL.out; omega)
          obtain ⟨ac3, h3⟩ : ∃ x, x = acc ++ [l[k]] := ⟨_, rfl⟩
          have HA3 := hid h3
          rw [← h3] at DN
          clear h3
          go_wp2
          refine wp_region_held_drew (S := fun w' => Below go x0 w') (by kernel_rfl) (Below.refl _ _).drew (fun hH => ?_)
          replace VO := hid (show x0.drew.heap[go]? = _ from VO.out)
          replace OA := hid (show OwZ x0.drew _ _ _ from OA.out)
          generalize x0.drew = x at hH VO OA ⊢
          refine wpAnyH_take (i := 0) (v := .pointer (some ⟨go, 1, none⟩)) (by simp only [List.getElem?_toArray, List.getElem?_cons_zero]; rfl) (by kernel_rfl) (by kernel_rfl) (by kernel_rfl) (by intro _ _ _ h; exact h) (Or.inl ⟨by rfl, fun w hS => by go_simp⟩) hH ?_
          simp only [Act.put, List.setIfInBounds_toArray, List.set_cons_zero, List.set_cons_succ]
          refine wpAnyH_take (i := 2) (v := .pointer (some ⟨g, 0, none⟩)) (by simp only [List.getElem?_toArray, List.getElem?_cons_succ, List.getElem?_cons_zero]; rfl) (by kernel_rfl) (by kernel_rfl) (by kernel_rfl) (by intro _ _ _ h; exact h) (Or.inl ⟨by rfl, fun w hS => by go_simp⟩) hH ?_
          simp only [Act.put, List.setIfInBounds_toArray, List.set_cons_zero, List.set_cons_succ]
          refine wpAnyH_take (i := 3) (v := .pointer (some ⟨g, 0, none⟩)) (by simp only [List.getElem?_toArray, List.getElem?_cons_succ, List.getElem?_cons_zero]; rfl) (by kernel_rfl) (by kernel_rfl) (by kernel_rfl) (by intro _ _ _ h; exact h) (Or.inl ⟨by rfl, fun w hS => by go_simp⟩) hH ?_
          simp only [Act.put, List.setIfInBounds_toArray, List.set_cons_zero, List.set_cons_succ]
          refine wpAnyH_take (i := 4) (v := .pointer (some ⟨g, 1, none⟩)) (by simp only [List.getElem?_toArray, List.getElem?_cons_succ, List.getElem?_cons_zero]; rfl) (by kernel_rfl) (by kernel_rfl) (by kernel_rfl) (by intro _ _ _ h; exact h) (Or.inl ⟨by rfl, fun w hS => by go_simp⟩) hH ?_
          simp only [Act.put, List.setIfInBounds_toArray, List.set_cons_zero, List.set_cons_succ]
          refine wpAnyH_take (i := 5) (v := .slice (some ⟨b, o, none⟩) l.length ca) (by simp only [List.getElem?_toArray, List.getElem?_cons_succ, List.getElem?_cons_zero]; rfl) (by kernel_rfl) (by kernel_rfl) (by kernel_rfl) (by intro _ _ _ h; exact h) (Or.inl ⟨by rfl, fun w hS => by (have y := cell_low hS f1 GL.out; go_simp)⟩) hH ?_
          simp only [Act.put, List.setIfInBounds_toArray, List.set_cons_zero, List.set_cons_succ]
          refine wpAnyH_take (i := 6) (v := .int .i64 (k : Int)) (by simp only [List.getElem?_toArray, List.getElem?_cons_succ, List.getElem?_cons_zero]; rfl) (by kernel_rfl) (by kernel_rfl) (by kernel_rfl) (by intro _ _ _ h; exact h) (Or.inl ⟨by rfl, fun w hS => by go_simp⟩) hH ?_
          simp only [Act.put, List.setIfInBounds_toArray, List.set_cons_zero, List.set_cons_succ]
          refine wpAnyH_take (i := 7) (v := .pointer (some ⟨b, o + k, none⟩)) (by simp only [List.getElem?_toArray, List.getElem?_cons_succ, List.getElem?_cons_zero]; rfl) (by kernel_rfl) (by kernel_rfl) (by kernel_rfl) (by intro _ _ _ h; exact h) (Or.inl ⟨by rfl, fun w hS => by go_simp⟩) hH ?_
          simp only [Act.put, List.setIfInBounds_toArray, List.set_cons_zero, List.set_cons_succ]
          refine wpAnyH_take (i := 8) (v := .int .i64 l[k]) (by simp only [List.getElem?_toArray, List.getElem?_cons_succ, List.getElem?_cons_zero]; rfl) (by kernel_rfl) (by kernel_rfl) (by kernel_rfl) (by intro _ _ _ h; exact h) (Or.inl ⟨by rfl, fun w hS => by (have y := cell_low hS ck LB.out; go_simp)⟩) hH ?_
          simp only [Act.put, List.setIfInBounds_toArray, List.set_cons_zero, List.set_cons_succ]
          refine wpAnyH_ready (rs := [1, 9]) (by kernel_rfl) (by simp) ?_
          refine AllReadyH.cons (by simp only [List.getElem?_toArray, List.getElem?_cons_succ, List.getElem?_cons_zero]; rfl) (fun K hK => ?_) ?_
          · obtain ⟨q_0, q_1, -, -⟩ := var2_facts VO.out
            go_simp
            refine hK.out _ _ hH (fun hH => ?_)
            clear hK K q_0 q_1
            try simp only [Act.put, List.setIfInBounds_toArray, List.set_cons_zero, List.set_cons_succ]
            refine wpAnyH_ready (rs := [9]) (by kernel_rfl) (by simp) ?_
            refine AllReadyH.cons (by simp only [List.getElem?_toArray, List.getElem?_cons_succ, List.getElem?_cons_zero]; rfl) (fun K hK => ?_) AllReadyH.nil
            go_simp
            have hM := below_alloc1 x (.cells #[.int .i64 l[k]] 2)
            replace VO := hid (var_below hM VO.out)
            replace OA := hid (OA.out.below hM)
            have RX := hid (rdZ_one x l[k] 2)
            refine hK.out _ _ (hH.alloc (Nat.le_trans (Nat.le_of_succ_le SG.out) hH.size) _) (fun hH => ?_)
            clear hK K hM
            generalize x.alloc (.cells #[.int .i64 l[k]] 2) = x9 at *
            refine wpAnyH_ready (rs := [10]) (by kernel_rfl) (by simp) ?_
            refine AllReadyH.cons (by simp only [List.getElem?_toArray, List.getElem?_cons_succ, List.getElem?_cons_zero]; rfl) (fun K hK => ?_) AllReadyH.nil
            refine step_appZ (by rfl) _ _ (by rfl) _ _ acc [l[k]] (go + 1) (by rfl) (by rfl) OA.out RX.out (by simpa using LA.out) (Nat.le_trans SG.out hH.size) ?_
            intro v2 x10 hO hG
            rw [← HA3.out] at hO
            obtain ⟨p2, c2, rfl, -, -, -⟩ := hO.rd.parts
            have OA2 := hid hO
            have VO2 := hid (var_grown hG VO.out (OA.out.ne (Nat.lt_succ_self _)))
            refine hK.out _ _ (hH.grown hG (Nat.le_trans (Nat.le_of_succ_le SG.out) hH.size) (OA.out.row (Nat.le_succ _))) (fun hH => ?_)
            clear hK K hO hG RX OA VO
            refine wpAnyH_take (i := 11) (v := .pointer (some ⟨go, 1, none⟩)) (by simp only [List.getElem?_toArray, List.getElem?_cons_succ, List.getElem?_cons_zero]; rfl) (by kernel_rfl) (by kernel_rfl) (by kernel_rfl) (by intro _ _ _ h; exact h) (Or.inl ⟨by rfl, fun w hS => by go_simp⟩) hH ?_
            simp only [Act.put, List.setIfInBounds_toArray, List.set_cons_zero, List.set_cons_succ]
            refine wpAnyH_ready (rs := [12]) (by kernel_rfl) (by simp) ?_
            refine AllReadyH.cons (by simp only [List.getElem?_toArray, List.getElem?_cons_succ, List.getElem?_cons_zero]; rfl) (fun K hK => ?_) AllReadyH.nil
            obtain ⟨e0, e1, e2, e3⟩ := var2_facts VO2.out
            go_simp
            have VO3 := hid (cellS1z (y' := .slice p2 ac3.length c2) VO2.out)
            have OA3 := hid (show OwZ _ _ _ _ from ownsRow_setCell_below OA2.out (a := ⟨go, 1, none⟩) (Nat.lt_succ_self go) (.slice p2 ac3.length c2))
            refine hK.out _ _ (hH.setCell (p := ⟨go, 1, none⟩) (Nat.le_refl _) _) (fun hH => ?_)
            clear hK K e0 e1 e2 e3 VO2 OA2
            refine wpAnyH_done (by kernel_rfl) ?_ _
            have BN := hid (BL.out.trans (show Below w1.heap.size x0 _ by rw [← EG.out]; exact hH))
            have SN := hid (Nat.le_trans SG.out hH.size)
            clear hH
            go_wp2
            go_roundw
            case rel => exact ⟨k + 1, true, ac3, _, hlt, rfl, by go_num, VO3, OA3, hid (by have := AL.out; rw [HA3.out]; simp only [List.length_append, List.length_singleton]; omega), DN, BN, SN⟩
            case measure => simp [intOf]; omega
          refine AllReadyH.cons (by simp only [List.getElem?_toArray, List.getElem?_cons_succ, List.getElem?_cons_zero]; rfl) (fun K hK => ?_) ?_
          · go_simp
            have hM := below_alloc1 x (.cells #[.int .i64 l[k]] 2)
            replace VO := hid (var_below hM VO.out)
            replace OA := hid (OA.out.below hM)
            have RX := hid (rdZ_one x l[k] 2)
            refine hK.out _ _ (hH.alloc (Nat.le_trans (Nat.le_of_succ_le SG.out) hH.size) _) (fun hH => ?_)
            clear hK K hM
            generalize x.alloc (.cells #[.int .i64 l[k]] 2) = x9 at *
            refine wpAnyH_ready (rs := [1]) (by kernel_rfl) (by simp) ?_
            refine AllReadyH.cons (by simp only [List.getElem?_toArray, List.getElem?_cons_succ, List.getElem?_cons_zero]; rfl) (fun K hK => ?_) AllReadyH.nil
            obtain ⟨q_0, q_1, -, -⟩ := var2_facts VO.out
            go_simp
            refine hK.out _ _ hH (fun hH => ?_)
            clear hK K q_0 q_1
            try simp only [Act.put, List.setIfInBounds_toArray, List.set_cons_zero, List.set_cons_succ]
            refine wpAnyH_ready (rs := [10]) (by kernel_rfl) (by simp) ?_
            refine AllReadyH.cons (by simp only [List.getElem?_toArray, List.getElem?_cons_succ, List.getElem?_cons_zero]; rfl) (fun K hK => ?_) AllReadyH.nil
            refine step_appZ (by rfl) _ _ (by rfl) _ _ acc [l[k]] (go + 1) (by rfl) (by rfl) OA.out RX.out (by simpa using LA.out) (Nat.le_trans SG.out hH.size) ?_
            intro v2 x10 hO hG
            rw [← HA3.out] at hO
            obtain ⟨p2, c2, rfl, -, -, -⟩ := hO.rd.parts
            have OA2 := hid hO
            have VO2 := hid (var_grown hG VO.out (OA.out.ne (Nat.lt_succ_self _)))
            refine hK.out _ _ (hH.grown hG (Nat.le_trans (Nat.le_of_succ_le SG.out) hH.size) (OA.out.row (Nat.le_succ _))) (fun hH => ?_)
            clear hK K hO hG RX OA VO
            refine wpAnyH_take (i := 11) (v := .pointer (some ⟨go, 1, none⟩)) (by simp only [List.getElem?_toArray, List.getElem?_cons_succ, List.getElem?_cons_zero]; rfl) (by kernel_rfl) (by kernel_rfl) (by kernel_rfl) (by intro _ _ _ h; exact h) (Or.inl ⟨by rfl, fun w hS => by go_simp⟩) hH ?_
            simp only [Act.put, List.setIfInBounds_toArray, List.set_cons_zero, List.set_cons_succ]
            refine wpAnyH_ready (rs := [12]) (by kernel_rfl) (by simp) ?_
            refine AllReadyH.cons (by simp only [List.getElem?_toArray, List.getElem?_cons_succ, List.getElem?_cons_zero]; rfl) (fun K hK => ?_) AllReadyH.nil
            obtain ⟨e0, e1, e2, e3⟩ := var2_facts VO2.out
            go_simp
            have VO3 := hid (cellS1z (y' := .slice p2 ac3.length c2) VO2.out)
            have OA3 := hid (show OwZ _ _ _ _ from ownsRow_setCell_below OA2.out (a := ⟨go, 1, none⟩) (Nat.lt_succ_self go) (.slice p2 ac3.length c2))
            refine hK.out _ _ (hH.setCell (p := ⟨go, 1, none⟩) (Nat.le_refl _) _) (fun hH => ?_)
            clear hK K e0 e1 e2 e3 VO2 OA2
            refine wpAnyH_done (by kernel_rfl) ?_ _
            have BN := hid (BL.out.trans (show Below w1.heap.size x0 _ by rw [← EG.out]; exact hH))
            have SN := hid (Nat.le_trans SG.out hH.size)
            clear hH
            go_wp2
            go_roundw
            case rel => exact ⟨k + 1, true, ac3, _, hlt, rfl, by go_num, VO3, OA3, hid (by have := AL.out; rw [HA3.out]; simp only [List.length_append, List.length_singleton]; omega), DN, BN, SN⟩
            case measure => simp [intOf]; omega
          exact AllReadyH.nil
        · rw [if_neg ht] at DN
          go_wp2
          go_roundw
          case rel => exact ⟨k + 1, true, acc, _, hlt, rfl, by go_num, VO, OA, hid (by have := AL.out; omega), DN, BL, SG⟩
          case measure => simp [intOf]; omega
      | false =>
        by_cases hn : n < l[k]
        · have DF := hid (Dz.first (DR.out ▸ DZ.out) hn)
          obtain ⟨o0, o1, o2, o3⟩ := var2_facts VO.out
          have hA := below_alloc1 wr (.cells #[.int .i64 n] 2)
          have VO1 := hid (var_below hA VO.out)
          have OA1 := hid (OA.out.below hA)
          have RN := hid (rdZ_one wr n 2)
          have BL1 := hid (BL.out.trans (hA.mono BL.out.size))
          have SG1 := hid (Nat.le_trans SG.out hA.size)
          have LA := hid (show acc.length + [n].length ≤ 4194304 by have := AL.out; simp; omega)
          clear hA
          obtain ⟨ac2, hac⟩ : ∃ x, x = acc ++ [n] := ⟨_, rfl⟩
          have HAC := hid hac
          clear hac
          go_wp2_with (at_builtin; refine list_appZ rfl _ _ rfl _ _ acc [n] (go + 1) rfl rfl OA1.out RN.out LA.out SG1.out ?_; intro v3 w3 hO hG; rw [← HAC.out] at hO; obtain ⟨pq, cq, rfl, -, -, -⟩ := hO.rd.parts; have V3 := var_grown hG VO1.out (OA1.out.ne (Nat.lt_succ_self _)); obtain ⟨p0, p1, p2, p3⟩ := var2_facts V3)
          have hG2 : (wr.alloc (.cells #[.int .i64 n] 2)).grownBy w3 (Value.slice pu acc.length cu).ownBlock := hG
          have VO4 := hid (cellS1z (y' := .slice pq ac2.length cq) V3)
          have OA4 := hid (show OwZ _ _ _ _ from ownsRow_setCell_below hO (a := ⟨go, 1, none⟩) (Nat.lt_succ_self go) (.slice pq ac2.length cq))
          have BW := ((below_alloc1 wr (.cells #[.int .i64 n] 2)).mono (Nat.le_of_succ_le SG.out)).trans (below_of_grown hG2 (Nat.le_of_succ_le SG1.out) (OA1.out.row (Nat.le_succ _)))
          have BW2 := BW.setCell (p := ⟨go, 1, none⟩) (Nat.le_refl _) (.slice pq ac2.length cq)
          replace BL := hid (BL.out.trans (show Below w1.heap.size wr _ by rw [← EG.out]; exact BW2))
          replace f1 := cell_low BW2 f1 GL.out
          replace ck := cell_low BW2 ck LB.out
          replace SG := hid (Nat.le_trans SG.out BW2.size)
          replace AL := hid (show ac2.length ≤ 2 * k + 1 by have := AL.out; rw [HAC.out]; simp only [List.length_append, List.length_singleton]; omega)
          rw [← HAC.out] at DF
          have DN := hid (Dz.next DF.out (.inl rfl))
          clear p0 p1 p2 p3 V3 hO hG hG2 BW BW2 VO OA o0 o1 o2 o3 VO1 OA1 RN BL1 SG1 LA f0 HV2 H2
          generalize w3.setCell ⟨go, 1, none⟩ (.slice pq ac2.length cq) = w4 at *
          have VO := VO4
          have OA := OA4
          clear VO4 OA4
          obtain ⟨o0, o1, o2, o3⟩ := var2_facts VO.out
          go_quiet (fail)
          have hD : Below w4.heap.size w4 (w4.drewN nq) := below_drewN (Below.refl _ _) _
          replace VO := hid (var_below hD VO.out)
          replace OA := hid (OA.out.below hD)
          replace BL := hid (BL.out.trans (hD.mono BL.out.size))
          replace SG := hid (Nat.le_trans SG.out hD.size)
          replace f1 := cell_kept hD f1
          replace ck := cell_kept hD ck
          clear hD o0 o1 o2 o3
          generalize w4.drewN nq = x0 at *
          by_cases ht : T - 16 < l[k]
          · rw [if_pos ht] at DN
            have LA := hid (show ac2.length + 1 ≤ 4194304 by have := AL.out; omega)
            obtain ⟨ac3, h3⟩ : ∃ x, x = ac2 ++ [l[k]] := ⟨_, rfl⟩
            have HA3 := hid h3
            rw [← h3] at DN
            clear h3
            go_wp2
            refine wp_region_held_drew (S := fun w' => Below go x0 w') (by kernel_rfl) (Below.refl _ _).drew (fun hH => ?_)
            replace VO := hid (show x0.drew.heap[go]? = _ from VO.out)
            replace OA := hid (show OwZ x0.drew _ _ _ from OA.out)
            generalize x0.drew = x at hH VO OA ⊢
            refine wpAnyH_take (i := 0) (v := .pointer (some ⟨go, 1, none⟩)) (by simp only [List.getElem?_toArray, List.getElem?_cons_zero]; rfl) (by kernel_rfl) (by kernel_rfl) (by kernel_rfl) (by intro _ _ _ h; exact h) (Or.inl ⟨by rfl, fun w hS => by go_simp⟩) hH ?_
            simp only [Act.put, List.setIfInBounds_toArray, List.set_cons_zero, List.set_cons_succ]
            refine wpAnyH_take (i := 2) (v := .pointer (some ⟨g, 0, none⟩)) (by simp only [List.getElem?_toArray, List.getElem?_cons_succ, List.getElem?_cons_zero]; rfl) (by kernel_rfl) (by kernel_rfl) (by kernel_rfl) (by intro _ _ _ h; exact h) (Or.inl ⟨by rfl, fun w hS => by go_simp⟩) hH ?_
            simp only [Act.put, List.setIfInBounds_toArray, List.set_cons_zero, List.set_cons_succ]
            refine wpAnyH_take (i := 3) (v := .pointer (some ⟨g, 0, none⟩)) (by simp only [List.getElem?_toArray, List.getElem?_cons_succ, List.getElem?_cons_zero]; rfl) (by kernel_rfl) (by kernel_rfl) (by kernel_rfl) (by intro _ _ _ h; exact h) (Or.inl ⟨by rfl, fun w hS => by go_simp⟩) hH ?_
            simp only [Act.put, List.setIfInBounds_toArray, List.set_cons_zero, List.set_cons_succ]
            refine wpAnyH_take (i := 4) (v := .pointer (some ⟨g, 1, none⟩)) (by simp only [List.getElem?_toArray, List.getElem?_cons_succ, List.getElem?_cons_zero]; rfl) (by kernel_rfl) (by kernel_rfl) (by kernel_rfl) (by intro _ _ _ h; exact h) (Or.inl ⟨by rfl, fun w hS => by go_simp⟩) hH ?_
            simp only [Act.put, List.setIfInBounds_toArray, List.set_cons_zero, List.set_cons_succ]
            refine wpAnyH_take (i := 5) (v := .slice (some ⟨b, o, none⟩) l.length ca) (by simp only [List.getElem?_toArray, List.getElem?_cons_succ, List.getElem?_cons_zero]; rfl) (by kernel_rfl) (by kernel_rfl) (by kernel_rfl) (by intro _ _ _ h; exact h) (Or.inl ⟨by rfl, fun w hS => by (have y := cell_low hS f1 GL.out; go_simp)⟩) hH ?_
            simp only [Act.put, List.setIfInBounds_toArray, List.set_cons_zero, List.set_cons_succ]
            refine wpAnyH_take (i := 6) (v := .int .i64 (k : Int)) (by simp only [List.getElem?_toArray, List.getElem?_cons_succ, List.getElem?_cons_zero]; rfl) (by kernel_rfl) (by kernel_rfl) (by kernel_rfl) (by intro _ _ _ h; exact h) (Or.inl ⟨by rfl, fun w hS => by go_simp⟩) hH ?_
            simp only [Act.put, List.setIfInBounds_toArray, List.set_cons_zero, List.set_cons_succ]
            refine wpAnyH_take (i := 7) (v := .pointer (some ⟨b, o + k, none⟩)) (by simp only [List.getElem?_toArray, List.getElem?_cons_succ, List.getElem?_cons_zero]; rfl) (by kernel_rfl) (by kernel_rfl) (by kernel_rfl) (by intro _ _ _ h; exact h) (Or.inl ⟨by rfl, fun w hS => by go_simp⟩) hH ?_
            simp only [Act.put, List.setIfInBounds_toArray, List.set_cons_zero, List.set_cons_succ]
            refine wpAnyH_take (i := 8) (v := .int .i64 l[k]) (by simp only [List.getElem?_toArray, List.getElem?_cons_succ, List.getElem?_cons_zero]; rfl) (by kernel_rfl) (by kernel_rfl) (by kernel_rfl) (by intro _ _ _ h; exact h) (Or.inl ⟨by rfl, fun w hS => by (have y := cell_low hS ck LB.out; go_simp)⟩) hH ?_
            simp only [Act.put, List.setIfInBounds_toArray, List.set_cons_zero, List.set_cons_succ]
            refine wpAnyH_ready (rs := [1, 9]) (by kernel_rfl) (by simp) ?_
            refine AllReadyH.cons (by simp only [List.getElem?_toArray, List.getElem?_cons_succ, List.getElem?_cons_zero]; rfl) (fun K hK => ?_) ?_
            · obtain ⟨q_0, q_1, -, -⟩ := var2_facts VO.out
              go_simp
              refine hK.out _ _ hH (fun hH => ?_)
              clear hK K q_0 q_1
              try simp only [Act.put, List.setIfInBounds_toArray, List.set_cons_zero, List.set_cons_succ]
              refine wpAnyH_ready (rs := [9]) (by kernel_rfl) (by simp) ?_
              refine AllReadyH.cons (by simp only [List.getElem?_toArray, List.getElem?_cons_succ, List.getElem?_cons_zero]; rfl) (fun K hK => ?_) AllReadyH.nil
              go_simp
              have hM := below_alloc1 x (.cells #[.int .i64 l[k]] 2)
              replace VO := hid (var_below hM VO.out)
              replace OA := hid (OA.out.below hM)
              have RX := hid (rdZ_one x l[k] 2)
              refine hK.out _ _ (hH.alloc (Nat.le_trans (Nat.le_of_succ_le SG.out) hH.size) _) (fun hH => ?_)
              clear hK K hM
              generalize x.alloc (.cells #[.int .i64 l[k]] 2) = x9 at *
              refine wpAnyH_ready (rs := [10]) (by kernel_rfl) (by simp) ?_
              refine AllReadyH.cons (by simp only [List.getElem?_toArray, List.getElem?_cons_succ, List.getElem?_cons_zero]; rfl) (fun K hK => ?_) AllReadyH.nil
              refine step_appZ (by rfl) _ _ (by rfl) _ _ ac2 [l[k]] (go + 1) (by rfl) (by rfl) OA.out RX.out (by simpa using LA.out) (Nat.le_trans SG.out hH.size) ?_
              intro v2 x10 hO hG
              rw [← HA3.out] at hO
              obtain ⟨p2, c2, rfl, -, -, -⟩ := hO.rd.parts
              have OA2 := hid hO
              have VO2 := hid (var_grown hG VO.out (OA.out.ne (Nat.lt_succ_self _)))
              refine hK.out _ _ (hH.grown hG (Nat.le_trans (Nat.le_of_succ_le SG.out) hH.size) (OA.out.row (Nat.le_succ _))) (fun hH => ?_)
              clear hK K hO hG RX OA VO
              refine wpAnyH_take (i := 11) (v := .pointer (some ⟨go, 1, none⟩)) (by simp only [List.getElem?_toArray, List.getElem?_cons_succ, List.getElem?_cons_zero]; rfl) (by kernel_rfl) (by kernel_rfl) (by kernel_rfl) (by intro _ _ _ h; exact h) (Or.inl ⟨by rfl, fun w hS => by go_simp⟩) hH ?_
              simp only [Act.put, List.setIfInBounds_toArray, List.set_cons_zero, List.set_cons_succ]
              refine wpAnyH_ready (rs := [12]) (by kernel_rfl) (by simp) ?_
              refine AllReadyH.cons (by simp only [List.getElem?_toArray, List.getElem?_cons_succ, List.getElem?_cons_zero]; rfl) (fun K hK => ?_) AllReadyH.nil
              obtain ⟨e0, e1, e2, e3⟩ := var2_facts VO2.out
              go_simp
              have VO3 := hid (cellS1z (y' := .slice p2 ac3.length c2) VO2.out)
              have OA3 := hid (show OwZ _ _ _ _ from ownsRow_setCell_below OA2.out (a := ⟨go, 1, none⟩) (Nat.lt_succ_self go) (.slice p2 ac3.length c2))
              refine hK.out _ _ (hH.setCell (p := ⟨go, 1, none⟩) (Nat.le_refl _) _) (fun hH => ?_)
              clear hK K e0 e1 e2 e3 VO2 OA2
              refine wpAnyH_done (by kernel_rfl) ?_ _
              have BN := hid (BL.out.trans (show Below w1.heap.size x0 _ by rw [← EG.out]; exact hH))
              have SN := hid (Nat.le_trans SG.out hH.size)
              clear hH
              go_wp2
              go_roundw
              case rel => exact ⟨k + 1, true, ac3, _, hlt, rfl, by go_num, VO3, OA3, hid (by have := AL.out; rw [HA3.out]; simp only [List.length_append, List.length_singleton]; omega), DN, BN, SN⟩
              case measure => simp [intOf]; omega
            refine AllReadyH.cons (by simp only [List.getElem?_toArray, List.getElem?_cons_succ, List.getElem?_cons_zero]; rfl) (fun K hK => ?_) ?_
            · go_simp
              have hM := below_alloc1 x (.cells #[.int .i64 l[k]] 2)
              replace VO := hid (var_below hM VO.out)
              replace OA := hid (OA.out.below hM)
              have RX := hid (rdZ_one x l[k] 2)
              refine hK.out _ _ (hH.alloc (Nat.le_trans (Nat.le_of_succ_le SG.out) hH.size) _) (fun hH => ?_)
              clear hK K hM
              generalize x.alloc (.cells #[.int .i64 l[k]] 2) = x9 at *
              refine wpAnyH_ready (rs := [1]) (by kernel_rfl) (by simp) ?_
              refine AllReadyH.cons (by simp only [List.getElem?_toArray, List.getElem?_cons_succ, List.getElem?_cons_zero]; rfl) (fun K hK => ?_) AllReadyH.nil
              obtain ⟨q_0, q_1, -, -⟩ := var2_facts VO.out
              go_simp
              refine hK.out _ _ hH (fun hH => ?_)
              clear hK K q_0 q_1
              try simp only [Act.put, List.setIfInBounds_toArray, List.set_cons_zero, List.set_cons_succ]
              refine wpAnyH_ready (rs := [10]) (by kernel_rfl) (by simp) ?_
              refine AllReadyH.cons (by simp only [List.getElem?_toArray, List.getElem?_cons_succ, List.getElem?_cons_zero]; rfl) (fun K hK => ?_) AllReadyH.nil
              refine step_appZ (by rfl) _ _ (by rfl) _ _ ac2 [l[k]] (go + 1) (by rfl) (by rfl) OA.out RX.out (by simpa using LA.out) (Nat.le_trans SG.out hH.size) ?_
              intro v2 x10 hO hG
              rw [← HA3.out] at hO
              obtain ⟨p2, c2, rfl, -, -, -⟩ := hO.rd.parts
              have OA2 := hid hO
              have VO2 := hid (var_grown hG VO.out (OA.out.ne (Nat.lt_succ_self _)))
              refine hK.out _ _ (hH.grown hG (Nat.le_trans (Nat.le_of_succ_le SG.out) hH.size) (OA.out.row (Nat.le_succ _))) (fun hH => ?_)
              clear hK K hO hG RX OA VO
              refine wpAnyH_take (i := 11) (v := .pointer (some ⟨go, 1, none⟩)) (by simp only [List.getElem?_toArray, List.getElem?_cons_succ, List.getElem?_cons_zero]; rfl) (by kernel_rfl) (by kernel_rfl) (by kernel_rfl) (by intro _ _ _ h; exact h) (Or.inl ⟨by rfl, fun w hS => by go_simp⟩) hH ?_
              simp only [Act.put, List.setIfInBounds_toArray, List.set_cons_zero, List.set_cons_succ]
              refine wpAnyH_ready (rs := [12]) (by kernel_rfl) (by simp) ?_
              refine AllReadyH.cons (by simp only [List.getElem?_toArray, List.getElem?_cons_succ, List.getElem?_cons_zero]; rfl) (fun K hK => ?_) AllReadyH.nil
              obtain ⟨e0, e1, e2, e3⟩ := var2_facts VO2.out
              go_simp
              have VO3 := hid (cellS1z (y' := .slice p2 ac3.length c2) VO2.out)
              have OA3 := hid (show OwZ _ _ _ _ from ownsRow_setCell_below OA2.out (a := ⟨go, 1, none⟩) (Nat.lt_succ_self go) (.slice p2 ac3.length c2))
              refine hK.out _ _ (hH.setCell (p := ⟨go, 1, none⟩) (Nat.le_refl _) _) (fun hH => ?_)
              clear hK K e0 e1 e2 e3 VO2 OA2
              refine wpAnyH_done (by kernel_rfl) ?_ _
              have BN := hid (BL.out.trans (show Below w1.heap.size x0 _ by rw [← EG.out]; exact hH))
              have SN := hid (Nat.le_trans SG.out hH.size)
              clear hH
              go_wp2
              go_roundw
              case rel => exact ⟨k + 1, true, ac3, _, hlt, rfl, by go_num, VO3, OA3, hid (by have := AL.out; rw [HA3.out]; simp only [List.length_append, List.length_singleton]; omega), DN, BN, SN⟩
              case measure => simp [intOf]; omega
            exact AllReadyH.nil
          · rw [if_neg ht] at DN
            go_wp2
            go_roundw
            case rel => exact ⟨k + 1, true, ac2, _, hlt, rfl, by go_num, VO, OA, hid (by have := AL.out; omega), DN, BL, SG⟩
            case measure => simp [intOf]; omega
        · have DN := hid (Dz.next (DR.out ▸ DZ.out) (.inr hn))
          obtain ⟨o0, o1, o2, o3⟩ := var2_facts VO.out
          go_wp2
          go_quiet (fail)
          have hD : Below wr.heap.size wr (wr.drewN nq) := below_drewN (Below.refl _ _) _
          replace VO := hid (var_below hD VO.out)
          replace OA := hid (OA.out.below hD)
          replace BL := hid (BL.out.trans (hD.mono BL.out.size))
          replace SG := hid (Nat.le_trans SG.out hD.size)
          replace f1 := cell_kept hD f1
          replace ck := cell_kept hD ck
          clear hD o0 o1 o2 o3
          generalize wr.drewN nq = x0 at *
          by_cases ht : T - 16 < l[k]
          · rw [if_pos ht] at DN
            have LA := hid (show acc.length + 1 ≤ 4194304 by have := AL.out; omega)
            obtain ⟨ac3, h3⟩ : ∃ x, x = acc ++ [l[k]] := ⟨_, rfl⟩
            have HA3 := hid h3
            rw [← h3] at DN
            clear h3
            go_wp2
            refine wp_region_held_drew (S := fun w' => Below go x0 w') (by kernel_rfl) (Below.refl _ _).drew (fun hH => ?_)
            replace VO := hid (show x0.drew.heap[go]? = _ from VO.out)
            replace OA := hid (show OwZ x0.drew _ _ _ from OA.out)
            generalize x0.drew = x at hH VO OA ⊢
            refine wpAnyH_take (i := 0) (v := .pointer (some ⟨go, 1, none⟩)) (by simp only [List.getElem?_toArray, List.getElem?_cons_zero]; rfl) (by kernel_rfl) (by kernel_rfl) (by kernel_rfl) (by intro _ _ _ h; exact h) (Or.inl ⟨by rfl, fun w hS => by go_simp⟩) hH ?_
            simp only [Act.put, List.setIfInBounds_toArray, List.set_cons_zero, List.set_cons_succ]
            refine wpAnyH_take (i := 2) (v := .pointer (some ⟨g, 0, none⟩)) (by simp only [List.getElem?_toArray, List.getElem?_cons_succ, List.getElem?_cons_zero]; rfl) (by kernel_rfl) (by kernel_rfl) (by kernel_rfl) (by intro _ _ _ h; exact h) (Or.inl ⟨by rfl, fun w hS => by go_simp⟩) hH ?_
            simp only [Act.put, List.setIfInBounds_toArray, List.set_cons_zero, List.set_cons_succ]
            refine wpAnyH_take (i := 3) (v := .pointer (some ⟨g, 0, none⟩)) (by simp only [List.getElem?_toArray, List.getElem?_cons_succ, List.getElem?_cons_zero]; rfl) (by kernel_rfl) (by kernel_rfl) (by kernel_rfl) (by intro _ _ _ h; exact h) (Or.inl ⟨by rfl, fun w hS => by go_simp⟩) hH ?_
            simp only [Act.put, List.setIfInBounds_toArray, List.set_cons_zero, List.set_cons_succ]
            refine wpAnyH_take (i := 4) (v := .pointer (some ⟨g, 1, none⟩)) (by simp only [List.getElem?_toArray, List.getElem?_cons_succ, List.getElem?_cons_zero]; rfl) (by kernel_rfl) (by kernel_rfl) (by kernel_rfl) (by intro _ _ _ h; exact h) (Or.inl ⟨by rfl, fun w hS => by go_simp⟩) hH ?_
            simp only [Act.put, List.setIfInBounds_toArray, List.set_cons_zero, List.set_cons_succ]
            refine wpAnyH_take (i := 5) (v := .slice (some ⟨b, o, none⟩) l.length ca) (by simp only [List.getElem?_toArray, List.getElem?_cons_succ, List.getElem?_cons_zero]; rfl) (by kernel_rfl) (by kernel_rfl) (by kernel_rfl) (by intro _ _ _ h; exact h) (Or.inl ⟨by rfl, fun w hS => by (have y := cell_low hS f1 GL.out; go_simp)⟩) hH ?_
            simp only [Act.put, List.setIfInBounds_toArray, List.set_cons_zero, List.set_cons_succ]
            refine wpAnyH_take (i := 6) (v := .int .i64 (k : Int)) (by simp only [List.getElem?_toArray, List.getElem?_cons_succ, List.getElem?_cons_zero]; rfl) (by kernel_rfl) (by kernel_rfl) (by kernel_rfl) (by intro _ _ _ h; exact h) (Or.inl ⟨by rfl, fun w hS => by go_simp⟩) hH ?_
            simp only [Act.put, List.setIfInBounds_toArray, List.set_cons_zero, List.set_cons_succ]
            refine wpAnyH_take (i := 7) (v := .pointer (some ⟨b, o + k, none⟩)) (by simp only [List.getElem?_toArray, List.getElem?_cons_succ, List.getElem?_cons_zero]; rfl) (by kernel_rfl) (by kernel_rfl) (by kernel_rfl) (by intro _ _ _ h; exact h) (Or.inl ⟨by rfl, fun w hS => by go_simp⟩) hH ?_
            simp only [Act.put, List.setIfInBounds_toArray, List.set_cons_zero, List.set_cons_succ]
            refine wpAnyH_take (i := 8) (v := .int .i64 l[k]) (by simp only [List.getElem?_toArray, List.getElem?_cons_succ, List.getElem?_cons_zero]; rfl) (by kernel_rfl) (by kernel_rfl) (by kernel_rfl) (by intro _ _ _ h; exact h) (Or.inl ⟨by rfl, fun w hS => by (have y := cell_low hS ck LB.out; go_simp)⟩) hH ?_
            simp only [Act.put, List.setIfInBounds_toArray, List.set_cons_zero, List.set_cons_succ]
            refine wpAnyH_ready (rs := [1, 9]) (by kernel_rfl) (by simp) ?_
            refine AllReadyH.cons (by simp only [List.getElem?_toArray, List.getElem?_cons_succ, List.getElem?_cons_zero]; rfl) (fun K hK => ?_) ?_
            · obtain ⟨q_0, q_1, -, -⟩ := var2_facts VO.out
              go_simp
              refine hK.out _ _ hH (fun hH => ?_)
              clear hK K q_0 q_1
              try simp only [Act.put, List.setIfInBounds_toArray, List.set_cons_zero, List.set_cons_succ]
              refine wpAnyH_ready (rs := [9]) (by kernel_rfl) (by simp) ?_
              refine AllReadyH.cons (by simp only [List.getElem?_toArray, List.getElem?_cons_succ, List.getElem?_cons_zero]; rfl) (fun K hK => ?_) AllReadyH.nil
              go_simp
              have hM := below_alloc1 x (.cells #[.int .i64 l[k]] 2)
              replace VO := hid (var_below hM VO.out)
              replace OA := hid (OA.out.below hM)
              have RX := hid (rdZ_one x l[k] 2)
              refine hK.out _ _ (hH.alloc (Nat.le_trans (Nat.le_of_succ_le SG.out) hH.size) _) (fun hH => ?_)
              clear hK K hM
              generalize x.alloc (.cells #[.int .i64 l[k]] 2) = x9 at *
              refine wpAnyH_ready (rs := [10]) (by kernel_rfl) (by simp) ?_
              refine AllReadyH.cons (by simp only [List.getElem?_toArray, List.getElem?_cons_succ, List.getElem?_cons_zero]; rfl) (fun K hK => ?_) AllReadyH.nil
              refine step_appZ (by rfl) _ _ (by rfl) _ _ acc [l[k]] (go + 1) (by rfl) (by rfl) OA.out RX.out (by simpa using LA.out) (Nat.le_trans SG.out hH.size) ?_
              intro v2 x10 hO hG
              rw [← HA3.out] at hO
              obtain ⟨p2, c2, rfl, -, -, -⟩ := hO.rd.parts
              have OA2 := hid hO
              have VO2 := hid (var_grown hG VO.out (OA.out.ne (Nat.lt_succ_self _)))
              refine hK.out _ _ (hH.grown hG (Nat.le_trans (Nat.le_of_succ_le SG.out) hH.size) (OA.out.row (Nat.le_succ _))) (fun hH => ?_)
              clear hK K hO hG RX OA VO
              refine wpAnyH_take (i := 11) (v := .pointer (some ⟨go, 1, none⟩)) (by simp only [List.getElem?_toArray, List.getElem?_cons_succ, List.getElem?_cons_zero]; rfl) (by kernel_rfl) (by kernel_rfl) (by kernel_rfl) (by intro _ _ _ h; exact h) (Or.inl ⟨by rfl, fun w hS => by go_simp⟩) hH ?_
              simp only [Act.put, List.setIfInBounds_toArray, List.set_cons_zero, List.set_cons_succ]
              refine wpAnyH_ready (rs := [12]) (by kernel_rfl) (by simp) ?_
              refine AllReadyH.cons (by simp only [List.getElem?_toArray, List.getElem?_cons_succ, List.getElem?_cons_zero]; rfl) (fun K hK => ?_) AllReadyH.nil
              obtain ⟨e0, e1, e2, e3⟩ := var2_facts VO2.out
              go_simp
              have VO3 := hid (cellS1z (y' := .slice p2 ac3.length c2) VO2.out)
              have OA3 := hid (show OwZ _ _ _ _ from ownsRow_setCell_below OA2.out (a := ⟨go, 1, none⟩) (Nat.lt_succ_self go) (.slice p2 ac3.length c2))
              refine hK.out _ _ (hH.setCell (p := ⟨go, 1, none⟩) (Nat.le_refl _) _) (fun hH => ?_)
              clear hK K e0 e1 e2 e3 VO2 OA2
              refine wpAnyH_done (by kernel_rfl) ?_ _
              have BN := hid (BL.out.trans (show Below w1.heap.size x0 _ by rw [← EG.out]; exact hH))
              have SN := hid (Nat.le_trans SG.out hH.size)
              clear hH
              go_wp2
              go_roundw
              case rel => exact ⟨k + 1, false, ac3, _, hlt, rfl, by go_num, VO3, OA3, hid (by have := AL.out; rw [HA3.out]; simp only [List.length_append, List.length_singleton]; omega), DN, BN, SN⟩
              case measure => simp [intOf]; omega
            refine AllReadyH.cons (by simp only [List.getElem?_toArray, List.getElem?_cons_succ, List.getElem?_cons_zero]; rfl) (fun K hK => ?_) ?_
            · go_simp
              have hM := below_alloc1 x (.cells #[.int .i64 l[k]] 2)
              replace VO := hid (var_below hM VO.out)
              replace OA := hid (OA.out.below hM)
              have RX := hid (rdZ_one x l[k] 2)
              refine hK.out _ _ (hH.alloc (Nat.le_trans (Nat.le_of_succ_le SG.out) hH.size) _) (fun hH => ?_)
              clear hK K hM
              generalize x.alloc (.cells #[.int .i64 l[k]] 2) = x9 at *
              refine wpAnyH_ready (rs := [1]) (by kernel_rfl) (by simp) ?_
              refine AllReadyH.cons (by simp only [List.getElem?_toArray, List.getElem?_cons_succ, List.getElem?_cons_zero]; rfl) (fun K hK => ?_) AllReadyH.nil
              obtain ⟨q_0, q_1, -, -⟩ := var2_facts VO.out
              go_simp
              refine hK.out _ _ hH (fun hH => ?_)
              clear hK K q_0 q_1
              try simp only [Act.put, List.setIfInBounds_toArray, List.set_cons_zero, List.set_cons_succ]
              refine wpAnyH_ready (rs := [10]) (by kernel_rfl) (by simp) ?_
              refine AllReadyH.cons (by simp only [List.getElem?_toArray, List.getElem?_cons_succ, List.getElem?_cons_zero]; rfl) (fun K hK => ?_) AllReadyH.nil
              refine step_appZ (by rfl) _ _ (by rfl) _ _ acc [l[k]] (go + 1) (by rfl) (by rfl) OA.out RX.out (by simpa using LA.out) (Nat.le_trans SG.out hH.size) ?_
              intro v2 x10 hO hG
              rw [← HA3.out] at hO
              obtain ⟨p2, c2, rfl, -, -, -⟩ := hO.rd.parts
              have OA2 := hid hO
              have VO2 := hid (var_grown hG VO.out (OA.out.ne (Nat.lt_succ_self _)))
              refine hK.out _ _ (hH.grown hG (Nat.le_trans (Nat.le_of_succ_le SG.out) hH.size) (OA.out.row (Nat.le_succ _))) (fun hH => ?_)
              clear hK K hO hG RX OA VO
              refine wpAnyH_take (i := 11) (v := .pointer (some ⟨go, 1, none⟩)) (by simp only [List.getElem?_toArray, List.getElem?_cons_succ, List.getElem?_cons_zero]; rfl) (by kernel_rfl) (by kernel_rfl) (by kernel_rfl) (by intro _ _ _ h; exact h) (Or.inl ⟨by rfl, fun w hS => by go_simp⟩) hH ?_
              simp only [Act.put, List.setIfInBounds_toArray, List.set_cons_zero, List.set_cons_succ]
              refine wpAnyH_ready (rs := [12]) (by kernel_rfl) (by simp) ?_
              refine AllReadyH.cons (by simp only [List.getElem?_toArray, List.getElem?_cons_succ, List.getElem?_cons_zero]; rfl) (fun K hK => ?_) AllReadyH.nil
              obtain ⟨e0, e1, e2, e3⟩ := var2_facts VO2.out
              go_simp
              have VO3 := hid (cellS1z (y' := .slice p2 ac3.length c2) VO2.out)
              have OA3 := hid (show OwZ _ _ _ _ from ownsRow_setCell_below OA2.out (a := ⟨go, 1, none⟩) (Nat.lt_succ_self go) (.slice p2 ac3.length c2))
              refine hK.out _ _ (hH.setCell (p := ⟨go, 1, none⟩) (Nat.le_refl _) _) (fun hH => ?_)
              clear hK K e0 e1 e2 e3 VO2 OA2
              refine wpAnyH_done (by kernel_rfl) ?_ _
              have BN := hid (BL.out.trans (show Below w1.heap.size x0 _ by rw [← EG.out]; exact hH))
              have SN := hid (Nat.le_trans SG.out hH.size)
              clear hH
              go_wp2
              go_roundw
              case rel => exact ⟨k + 1, false, ac3, _, hlt, rfl, by go_num, VO3, OA3, hid (by have := AL.out; rw [HA3.out]; simp only [List.length_append, List.length_singleton]; omega), DN, BN, SN⟩
              case measure => simp [intOf]; omega
            exact AllReadyH.nil
          · rw [if_neg ht] at DN
            go_wp2
            go_roundw
            case rel => exact ⟨k + 1, false, acc, _, hlt, rfl, by go_num, VO, OA, hid (by have := AL.out; omega), DN, BL, SG⟩
            case measure => simp [intOf]; omega
    · have hke : k = l.length := by omega
      subst hke
      have BE := hid (BB.out.trans (BL.out.mono BB.out.size))
      have VZ2 := hid (var_below BL.out VZ.out)
      have hnl : ¬ ((l.length : Int) < (l.length : Int)) := by omega
      rw [List.drop_length] at DZ
      cases done with
      | true =>
        have DE := hid (show acc = insZ (T - 16) n l by have q := DZ.out; unfold Dz at q; simpa using q)
        obtain ⟨o0, o1, o2, o3⟩ := var2_facts VO.out
        obtain ⟨z0, z1, z2, z3⟩ := var2_facts VZ2.out
        have HS := hid (var2_set (x' := .int .i64 T) (y' := .slice pu acc.length cu) VZ2.out)
        have HW := hid (below_set2 (x := .int .i64 T) (y := .slice pu acc.length cu) BE.out (Nat.le_of_eq GZ.out.symm))
        have HO := hid (show OwZ _ _ _ _ from ownsRow_setCell_below (ownsRow_setCell_below OA.out (a := ⟨gz, 0, none⟩) (Nat.lt_succ_of_lt ZG.out) (.int .i64 T)) (a := ⟨gz, 1, none⟩) (Nat.lt_succ_of_lt ZG.out) (.slice pu acc.length cu))
        go_wp2
        try simp only [Exit.inBlock, Exit.then]
        refine bodyPost_ret (results_ct rfl _ _ gz 69 _ _ _ rfl HS.out Try.underlying69 rfl (by kernel_rfl)) rfl ?_
        exact ⟨_, by rw [← ET.out]; rfl, by rw [← ET.out, ← DE.out]; exact HO.out.mono (by rw [← GZ.out]; exact Nat.le_of_lt (Nat.lt_succ_of_lt ZG.out)), HW.out⟩
      | false =>
        have DE := hid (show acc ++ [n] = insZ (T - 16) n l by have q := DZ.out; unfold Dz at q; simpa [insZ] using q)
        obtain ⟨o0, o1, o2, o3⟩ := var2_facts VO.out
        have hA := below_alloc1 wr (.cells #[.int .i64 n] 2)
        have VO1 := hid (var_below hA VO.out)
        have OA1 := hid (OA.out.below hA)
        have RN := hid (rdZ_one wr n 2)
        have BL1 := hid (BL.out.trans (hA.mono BL.out.size))
        have SG1 := hid (Nat.le_trans SG.out hA.size)
        have VZ3 := hid (var_below hA VZ2.out)
        have LA := hid (show acc.length + [n].length ≤ 4194304 by have := AL.out; simp; omega)
        clear hA
        obtain ⟨ac2, hac⟩ : ∃ x, x = acc ++ [n] := ⟨_, rfl⟩
        have HAC := hid hac
        clear hac
        go_wp2_with (at_builtin; refine list_appZ rfl _ _ rfl _ _ acc [n] (go + 1) rfl rfl OA1.out RN.out LA.out SG1.out ?_; intro v3 w3 hO hG; rw [← HAC.out] at hO; obtain ⟨pq, cq, rfl, -, -, -⟩ := hO.rd.parts; have V3 := var_grown hG VO1.out (OA1.out.ne (Nat.lt_succ_self _)); have V4 := cellS1z (y' := .slice pq ac2.length cq) V3; have Z4 := var_otherZ (var_grown hG VZ3.out (OA1.out.ne (Nat.lt_succ_of_lt ZG.out))) ⟨go, 1, none⟩ (.slice pq ac2.length cq) (Nat.ne_of_lt ZG.out); obtain ⟨p0, p1, p2, p3⟩ := var2_facts V3; obtain ⟨r0, r1, r2, r3⟩ := var2_facts V4; obtain ⟨z0, z1, z2, z3⟩ := var2_facts Z4)
        try simp only [Exit.inBlock, Exit.then]
        have hG2 : (wr.alloc (.cells #[.int .i64 n] 2)).grownBy w3 (Value.slice pu acc.length cu).ownBlock := hG
        have BW := BL1.out.trans (below_of_grown hG2 BL1.out.size (OA1.out.row (by rw [← EG.out]; exact Nat.le_succ _)))
        have BW2 := BW.setCell (p := ⟨go, 1, none⟩) (Nat.le_of_eq EG.out.symm) (.slice pq ac2.length cq)
        have HO := hid (show OwZ _ _ _ _ from ownsRow_setCell_below (ownsRow_setCell_below (ownsRow_setCell_below hO (a := ⟨go, 1, none⟩) (Nat.lt_succ_self go) (.slice pq ac2.length cq)) (a := ⟨gz, 0, none⟩) (Nat.lt_succ_of_lt ZG.out) (.int .i64 T)) (a := ⟨gz, 1, none⟩) (Nat.lt_succ_of_lt ZG.out) (.slice pq ac2.length cq))
        have HW := hid (below_set2 (x := .int .i64 T) (y := .slice pq ac2.length cq) (BB.out.trans (BW2.mono BB.out.size)) (Nat.le_of_eq GZ.out.symm))
        refine bodyPost_ret (results_ct rfl _ _ gz 69 _ _ _ rfl (var2_set (x' := .int .i64 T) (y' := .slice pq ac2.length cq) Z4) Try.underlying69 rfl (by kernel_rfl)) rfl ?_
        exact ⟨_, by rw [← ET.out]; rfl, by rw [← ET.out, ← DE.out, ← HAC.out]; exact HO.out.mono (by rw [← GZ.out]; exact Nat.le_of_lt (Nat.lt_succ_of_lt ZG.out)), HW.out⟩
end Go.Proofs.Ytalaolfcdaaaoaa.W
