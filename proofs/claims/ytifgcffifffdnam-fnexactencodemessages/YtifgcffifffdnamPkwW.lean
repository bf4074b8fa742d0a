/-
  Messages as bytes: what the program's packedWire answers.
-/
import Derived.Test.YtifgcffifffdnamSenW
import Derived.Test.YtifgcffifffdnamWofC
import Derived.Test.YtifgcffifffdnamIpkWalks
namespace Go.Proofs.Ytifgcffifffdnam.W
open Go.ChangeShapes Go.WideShapes Go.ChangeAt Go.RowKit
open Go.Proofs.Ytifgcffifffdnam.M

theorem fldM (a : Int) (x1 x2 x3 x4 x5 x6 x7 x8 x9 : Value) (w : World) : (Instr.field 45 (.agg #[.int .i64 a, x1, x2, x3, x4, x5, x6, x7, x8, x9]) 0).run Try.prog w = .ok (.int .i64 a) w := by kernel_rfl
theorem fldB (x : Int) (v : Value) (w : World) : (Instr.field 50 (.agg #[.int .i64 x, v]) 1).run Try.prog w = .ok v w := by kernel_rfl
/-- The first j numbers, packed. -/
def pkL (zs : List (Nat × Nat)) (j : Nat) : List Nat := (zs.take j).flatMap fun z => packL z.1 z.2
theorem pkL_zero (zs : List (Nat × Nat)) : pkL zs 0 = [] := by simp [pkL]
theorem pkL_succ (zs : List (Nat × Nat)) (j : Nat) (h : j < zs.length) : pkL zs (j + 1) = pkL zs j ++ packL (zs[j]).1 (zs[j]).2 := by
  unfold pkL
  rw [List.take_succ_eq_append_getElem h, List.flatMap_append]
  simp
theorem pkL_len (zs : List (Nat × Nat)) (hz : ∀ z ∈ zs, z.2 ≤ 8) (j : Nat) : (pkL zs j).length ≤ 8 * j := by
  induction j with
  | zero => simp [pkL]
  | succ j ih =>
    by_cases h : j < zs.length
    · rw [pkL_succ zs j h, List.length_append, packL_len]
      have := hz _ (List.getElem_mem h)
      omega
    · have e : pkL zs (j + 1) = pkL zs j := by unfold pkL; rw [List.take_of_length_le (by omega), List.take_of_length_le (by omega)]
      rw [e]; omega
/-- The numbers xs at the places ns are the pairs zs of a number and a size. -/
def Zs (ns : List Num) (xs : List Int) (zs : List (Nat × Nat)) : Prop := zs.length = ns.length ∧ ∀ j (h : j < ns.length) (h' : j < zs.length), xs.getD j 0 = ((zs[j]).1 : Int) ∧ (ns[j]).sz = ((zs[j]).2 : Int) ∧ 1 ≤ (zs[j]).2 ∧ (zs[j]).2 ≤ 8 ∧ (zs[j]).1 < 256 ^ (zs[j]).2 ∧ (zs[j]).1 < 9223372036854775808
theorem RdN.tag {w : World} {g n : Nat} {ns : List Num} (h : RdN w (.slice (some ⟨g, 0, none⟩) n n) ns) : ∃ C, w.heap[g]? = some (.cells C 101) := by
  obtain ⟨g', e, -, h, -⟩ := h
  cases e
  exact h
theorem tag_ne8 {w : World} {g base : Nat} {v : Value} {l : List Nat} {C : Array Value} (ho : Own w base v l) (hC : w.heap[g]? = some (.cells C 101)) : some g ≠ v.ownBlock := by
  rcases ho.2 with ⟨rfl, -⟩ | ⟨b, cap, cur, rfl, -, hb, -⟩
  · simp [Value.ownBlock]
  · intro e
    simp [Value.ownBlock] at e
    subst e
    rw [hb] at hC
    simp at hC
theorem RdN.grown {w w' : World} {g n base : Nat} {ns : List Num} {v : Value} {l : List Nat} (h : RdN w (.slice (some ⟨g, 0, none⟩) n n) ns) (ho : Own w base v l) (hG : w.grownBy w' v.ownBlock) : RdN w' (.slice (some ⟨g, 0, none⟩) n n) ns := by
  obtain ⟨C, hC⟩ := h.tag
  have ne := tag_ne8 ho hC
  obtain ⟨g', e, h4, ⟨C, hC⟩, h⟩ := h
  cases e
  have hh := var_grown hG hC ne
  have cc : ∀ i x, w.cell? ⟨g, i, none⟩ = some x → w'.cell? ⟨g, i, none⟩ = some x := fun i x q => by
    rw [← q]
    simp only [World.cell?, hC, hh]
  exact ⟨g, rfl, h4, ⟨C, hh⟩, fun i hi => ⟨cc _ _ (h i hi).1, cc _ _ (h i hi).2.1, cc _ _ (h i hi).2.2.1, cc _ _ (h i hi).2.2.2⟩⟩
set_option maxHeartbeats 4000000 in
set_option maxRecDepth 100000 in
theorem pkw1 (ns : List Num) (xs : List Int) (zs : List (Nat × Nat)) (w : World) (gw : Nat) (s n : Int) (hV : w.heap[gw]? = some (.cells #[.int .i64 s, .int .i64 n] 121))
    (hn : Hid (∀ w' : World, Below w.heap.size w w' → Calls Try.prog 70 #[.iface 119 (.pointer (some ⟨gw, 0, none⟩))] w' fun e w'' => ∃ v, e = .returned v ∧ RdN w'' v ns ∧ Below w'.heap.size w' w''))
    (hx : Kp w ns xs) (hz : Zs ns xs zs) :
    Calls Try.prog 57 #[.iface 119 (.pointer (some ⟨gw, 0, none⟩))] w fun e w' => ∃ v, e = .returned v ∧ Own w' w.heap.size v (([1] ++ pkL zs zs.length)) ∧ Below w.heap.size w w' := by
  have V := hid hV
  clear hV
  have na := nah1 gw
  have me := met1 gw
  have ta : ∀ w : World, (Instr.typeAssert (.iface 119 (.pointer (some ⟨gw, 0, none⟩))) 85 107 true).run Try.prog w = .ok (.tuple #[.pointer none, .bool false]) w := fun _ => by kernel_rfl
  have HX := hid hx
  have HZ := hid hz
  clear hx hz
  go_enter Try.func57, Try.ntmps57
  go_wp2_with fail
  refine (msg1 gw _ _ _ V.out).mono ?_
  rintro e w1 ⟨rfl, hB⟩
  have BB := hid hB
  clear hB
  have fm := fldM 1 (.int .i64 s) (.int .i64 n) (.int .i64 0) (.int .i64 0) (.int .i64 0) (.int .i64 0) (.int .i64 0) (.int .i64 0) (.slice none 0 0)
  go_wp2_with fail
  have OA := hid ((own_l1 w1 1).mono (base' := w.heap.size) BB.out.size)
  replace BB := hid (BB.out.trans ((below_alloc1 w1 (.cells #[.int .u8 1] 5)).mono BB.out.size))
  obtain ⟨va, hva⟩ : ∃ v : Value, v = .slice (some ⟨w1.heap.size, 0, none⟩) 1 1 := ⟨_, rfl⟩
  generalize w1.alloc (.cells #[.int .u8 1] 5) = w2 at *
  rw [← hva] at OA ⊢
  clear hva fm
  refine (hn.out _ BB.out).mono ?_
  rintro e w3 ⟨vn, rfl, hR, hB⟩
  replace OA := hid (OA.out.below hB)
  replace BB := hid (BB.out.trans (hB.mono BB.out.size))
  obtain ⟨gn, rfl, hl4, -, -⟩ := hR.parts
  have R := hid hR
  clear hB hR
  have hzl := HZ.out.1
  go_wp2_with fail

  go_loopw [3, 16] (fun acc i wr => ∃ j : Nat, j ≤ ns.length ∧ i = .int .i64 j ∧ Hid (Own wr w.heap.size acc ([1] ++ pkL zs j)) ∧ Hid (RdN wr (.slice (some ⟨gn, 0, none⟩) ns.length ns.length) ns) ∧ Hid (Below w.heap.size w wr)) (fun _ i _ => ns.length - (intOf i).toNat)
  case atStart => exact ⟨0, by omega, rfl, hid (by rw [pkL_zero]; exact OA.out), R, BB⟩
  case round =>
    clear OA R BB
    obtain ⟨j, hj, rfl, OA, R, BL⟩ := hrel
    by_cases hlt : j < ns.length
    · obtain ⟨g', e, -, -, hcs⟩ := R.out.parts
      cases e
      obtain ⟨q0, q1, q2, q3⟩ := hcs j hlt
      have hjz : j < zs.length := by omega
      have q4 := cell_kept BL.out (HX.out.2 j hlt)
      have q5 := HX.out.2 j hlt
      obtain ⟨z1, z2, z3, z4, z5, z6⟩ := HZ.out.2 j hlt hjz
      have PS := hid (pkL_succ zs j hjz)
      have PL := hid (pkL_len zs (fun z hz => by obtain ⟨i, hi, rfl⟩ := List.getElem_of_mem hz; exact (HZ.out.2 i (by omega) hi).2.2.2.1) j)
      have I1 := idx_nu gn ns.length j hlt
      have k0 : (0 : Int) ≤ (j : Int) := by omega
      have k1 : (j : Int) < (ns.length : Int) := by omega
      obtain ⟨N, hN⟩ : ∃ N, N = ns[j] := ⟨_, rfl⟩
      obtain ⟨A, hA⟩ : ∃ A, A = zs[j] := ⟨_, rfl⟩
      rw [← hN] at q0 q1 q2 q3 q4 q5 z2
      rw [← hA] at z1 z2 z3 z4 z5 z6 PS
      rw [z1] at q4 q5
      rw [z2] at q1
      obtain ⟨av, sv⟩ := A
      simp only at z1 z2 z3 z4 z5 z6 q1 q4 q5 PS
      replace q5 := hid q5
      replace z3 := hid z3
      replace z4 := hid z4
      replace z5 := hid z5
      replace z6 := hid z6
      clear hcs z1 z2 hN hA
      go_wp2_with fail
      have VN := hid (heap_alloc_new wr (.cells #[.pointer (some ⟨N.b, N.o, none⟩), .int .i64 (sv : Int), .int .i64 N.lo, .int .i64 N.hi] 101))
      have BA := below_alloc1 wr (.cells #[.pointer (some ⟨N.b, N.o, none⟩), .int .i64 (sv : Int), .int .i64 N.lo, .int .i64 N.hi] 101)
      replace q4 := cell_kept BA q4
      replace OA := hid (OA.out.below BA)
      replace R := hid (R.out.below BA)
      replace BL := hid (BL.out.trans (BA.mono BL.out.size))
      generalize wr.alloc (.cells #[.pointer (some ⟨N.b, N.o, none⟩), .int .i64 (sv : Int), .int .i64 N.lo, .int .i64 N.hi] 101) = w0 at *
      obtain ⟨ga, hga⟩ : ∃ ga, ga = wr.heap.size := ⟨_, rfl⟩
      rw [← hga] at VN ⊢
      clear q0 q1 q2 q3 BA hga I1
      obtain ⟨⟨f0, f1, f2, f3⟩, -⟩ := var4_facts VN.out
      go_wp2_with fail
      refine wp_region_held_drew (S := fun w' => Below w.heap.size w w' ∧ w'.heap[ga]? = some (.cells #[.pointer (some ⟨N.b, N.o, none⟩), .int .i64 (sv : Int), .int .i64 N.lo, .int .i64 N.hi] 101)) (by kernel_rfl) ⟨BL.out.drew, VN.out⟩ (fun hH => ?_)
      replace OA := hid (show Own w0.drew _ _ _ from OA.out.below (Below.refl _ _).drew)
      replace R := hid (show RdN w0.drew _ _ from R.out.below (Below.refl _ _).drew)
      generalize w0.drew = x at *
      refine wpAnyH_take (i := 0) (v := u3) (by simp only [List.getElem?_toArray, List.getElem?_cons_zero]; rfl) (by kernel_rfl) (by kernel_rfl) (by kernel_rfl) (by intro _ _ _ h; exact h) (Or.inl ⟨by rfl, fun w hS => by go_simp⟩) hH ?_
      simp only [Act.put, List.setIfInBounds_toArray, List.set_cons_zero, List.set_cons_succ]
      refine wpAnyH_take (i := 1) (v := .pointer (some ⟨ga, 0, none⟩)) (by simp only [List.getElem?_toArray, List.getElem?_cons_succ, List.getElem?_cons_zero]; rfl) (by kernel_rfl) (by kernel_rfl) (by kernel_rfl) (by intro _ _ _ h; exact h) (Or.inl ⟨by rfl, fun w hS => by go_simp⟩) hH ?_
      simp only [Act.put, List.setIfInBounds_toArray, List.set_cons_zero, List.set_cons_succ]
      refine wpAnyH_take (i := 2) (v := .pointer (some ⟨N.b, N.o, none⟩)) (by simp only [List.getElem?_toArray, List.getElem?_cons_succ, List.getElem?_cons_zero]; rfl) (by kernel_rfl) (by kernel_rfl) (by kernel_rfl) (by intro _ _ _ h; exact h) (Or.inl ⟨by rfl, fun w hS => by (obtain ⟨⟨f0, f1, f2, f3⟩, -⟩ := var4_facts hS.2; go_simp)⟩) hH ?_
      simp only [Act.put, List.setIfInBounds_toArray, List.set_cons_zero, List.set_cons_succ]
      refine wpAnyH_take (i := 3) (v := .pointer (some ⟨N.b, N.o, none⟩)) (by simp only [List.getElem?_toArray, List.getElem?_cons_succ, List.getElem?_cons_zero]; rfl) (by kernel_rfl) (by kernel_rfl) (by kernel_rfl) (by intro _ _ _ h; exact h) (Or.inl ⟨by rfl, fun w hS => by go_simp⟩) hH ?_
      simp only [Act.put, List.setIfInBounds_toArray, List.set_cons_zero, List.set_cons_succ]
      refine wpAnyH_take (i := 4) (v := .int .i64 (av : Int)) (by simp only [List.getElem?_toArray, List.getElem?_cons_succ, List.getElem?_cons_zero]; rfl) (by kernel_rfl) (by kernel_rfl) (by kernel_rfl) (by intro _ _ _ h; exact h) (Or.inl ⟨by rfl, fun w hS => by (have y0 := cell_kept hS.1 q5.out; go_simp)⟩) hH ?_
      simp only [Act.put, List.setIfInBounds_toArray, List.set_cons_zero, List.set_cons_succ]
      refine wpAnyH_take (i := 5) (v := .pointer (some ⟨ga, 1, none⟩)) (by simp only [List.getElem?_toArray, List.getElem?_cons_succ, List.getElem?_cons_zero]; rfl) (by kernel_rfl) (by kernel_rfl) (by kernel_rfl) (by intro _ _ _ h; exact h) (Or.inl ⟨by rfl, fun w hS => by go_simp⟩) hH ?_
      simp only [Act.put, List.setIfInBounds_toArray, List.set_cons_zero, List.set_cons_succ]
      refine wpAnyH_take (i := 6) (v := .int .i64 (sv : Int)) (by simp only [List.getElem?_toArray, List.getElem?_cons_succ, List.getElem?_cons_zero]; rfl) (by kernel_rfl) (by kernel_rfl) (by kernel_rfl) (by intro _ _ _ h; exact h) (Or.inl ⟨by rfl, fun w hS => by (obtain ⟨⟨f0, f1, f2, f3⟩, -⟩ := var4_facts hS.2; go_simp)⟩) hH ?_
      simp only [Act.put, List.setIfInBounds_toArray, List.set_cons_zero, List.set_cons_succ]
      refine wpAnyH_ready (rs := [7]) (by kernel_rfl) (by simp) ?_
      refine AllReadyH.cons (by simp only [List.getElem?_toArray, List.getElem?_cons_succ, List.getElem?_cons_zero]; rfl) (fun K hK => ?_) AllReadyH.nil
      go_simp
      refine (ipw_ok av sv _ z3.out z4.out z6.out z5.out).mono ?_
      rintro e xp ⟨vp, rfl, hO, hM⟩
      obtain ⟨pp, cp, rfl, -, -, -⟩ := hO.rd.parts
      refine hK.out _ _ ⟨hH.1.trans (hM.mono hH.1.size), var_below hM hH.2⟩ (fun hH => ?_)
      clear hK K
      replace OA := hid (OA.out.below hM)
      replace R := hid (R.out.below hM)
      have RP := hid hO.rd
      clear hO hM
      refine wpAnyH_take (i := 8) (v := .slice pp (packL av sv).length cp) (by simp only [List.getElem?_toArray, List.getElem?_cons_succ, List.getElem?_cons_zero]; rfl) (by kernel_rfl) (by kernel_rfl) (by kernel_rfl) (by intro _ _ _ h; exact h) (Or.inl ⟨by rfl, fun w hS => by (have hf1 := fldB; go_simp)⟩) hH ?_
      simp only [Act.put, List.setIfInBounds_toArray, List.set_cons_zero, List.set_cons_succ]
      refine wpAnyH_ready (rs := [9]) (by kernel_rfl) (by simp) ?_
      refine AllReadyH.cons (by simp only [List.getElem?_toArray, List.getElem?_cons_succ, List.getElem?_cons_zero]; rfl) (fun K hK => ?_) AllReadyH.nil
      refine step_app (by rfl) _ _ (by rfl) _ _ ([1] ++ pkL zs j) (packL av sv) w.heap.size (by rfl) (by rfl) OA.out RP.out (by rw [List.length_append, packL_len]; simp; have := PL.out; have := z4.out; omega) hH.1.size ?_
      intro vq xq hO hG
      refine hK.out _ _ ⟨hH.1.grown hG hH.1.size (OA.out.row (Nat.le_refl _)), var_grown hG hH.2 (tag_ne8 OA.out hH.2)⟩ (fun hH => ?_)
      replace R := hid (R.out.grown OA.out hG)
      clear hK K hG OA RP
      have OA := hid hO
      clear hO
      refine wpAnyH_take (i := 10) (v := vq) (by simp only [List.getElem?_toArray, List.getElem?_cons_succ, List.getElem?_cons_zero]; rfl) (by kernel_rfl) (by kernel_rfl) (by kernel_rfl) (by intro _ _ _ h; exact h) (Or.inl ⟨by rfl, fun w hS => by go_simp⟩) hH ?_
      simp only [Act.put, List.setIfInBounds_toArray, List.set_cons_zero, List.set_cons_succ]
      refine wpAnyH_done (by kernel_rfl) ?_ _
      replace BL := hid hH.1
      clear hH
      try clear f0 f1 f2 f3 q4
      rw [List.append_assoc, ← PS.out] at OA
      go_wp2
      go_roundw
      case rel => exact ⟨j + 1, hlt, by go_num, OA, R, BL⟩
      case measure => simp [intOf]; omega
    · have hje : j = ns.length := by omega
      subst hje
      rw [← hzl] at OA

      go_wp2
      go_ret
      exact ⟨_, rfl, OA.out, BL.out⟩
set_option maxHeartbeats 4000000 in
set_option maxRecDepth 100000 in
theorem pkw2 (ns : List Num) (xs : List Int) (zs : List (Nat × Nat)) (w : World) (gw : Nat) (s : Int) (hV : w.heap[gw]? = some (.cells #[.int .i64 s] 124))
    (hn : Hid (∀ w' : World, Below w.heap.size w w' → Calls Try.prog 70 #[.iface 122 (.pointer (some ⟨gw, 0, none⟩))] w' fun e w'' => ∃ v, e = .returned v ∧ RdN w'' v ns ∧ Below w'.heap.size w' w''))
    (hx : Kp w ns xs) (hz : Zs ns xs zs) :
    Calls Try.prog 57 #[.iface 122 (.pointer (some ⟨gw, 0, none⟩))] w fun e w' => ∃ v, e = .returned v ∧ Own w' w.heap.size v (([2] ++ pkL zs zs.length)) ∧ Below w.heap.size w w' := by
  have V := hid hV
  clear hV
  have na := nah2 gw
  have me := met2 gw
  have ta : ∀ w : World, (Instr.typeAssert (.iface 122 (.pointer (some ⟨gw, 0, none⟩))) 85 107 true).run Try.prog w = .ok (.tuple #[.pointer none, .bool false]) w := fun _ => by kernel_rfl
  have HX := hid hx
  have HZ := hid hz
  clear hx hz
  go_enter Try.func57, Try.ntmps57
  go_wp2_with fail
  refine (msg2 gw _ _ V.out).mono ?_
  rintro e w1 ⟨rfl, hB⟩
  have BB := hid hB
  clear hB
  have fm := fldM 2 (.int .i64 s) (.int .i64 0) (.int .i64 0) (.int .i64 0) (.int .i64 0) (.int .i64 0) (.int .i64 0) (.int .i64 0) (.slice none 0 0)
  go_wp2_with fail
  have OA := hid ((own_l1 w1 2).mono (base' := w.heap.size) BB.out.size)
  replace BB := hid (BB.out.trans ((below_alloc1 w1 (.cells #[.int .u8 2] 5)).mono BB.out.size))
  obtain ⟨va, hva⟩ : ∃ v : Value, v = .slice (some ⟨w1.heap.size, 0, none⟩) 1 1 := ⟨_, rfl⟩
  generalize w1.alloc (.cells #[.int .u8 2] 5) = w2 at *
  rw [← hva] at OA ⊢
  clear hva fm
  refine (hn.out _ BB.out).mono ?_
  rintro e w3 ⟨vn, rfl, hR, hB⟩
  replace OA := hid (OA.out.below hB)
  replace BB := hid (BB.out.trans (hB.mono BB.out.size))
  obtain ⟨gn, rfl, hl4, -, -⟩ := hR.parts
  have R := hid hR
  clear hB hR
  have hzl := HZ.out.1
  go_wp2_with fail

  go_loopw [3, 16] (fun acc i wr => ∃ j : Nat, j ≤ ns.length ∧ i = .int .i64 j ∧ Hid (Own wr w.heap.size acc ([2] ++ pkL zs j)) ∧ Hid (RdN wr (.slice (some ⟨gn, 0, none⟩) ns.length ns.length) ns) ∧ Hid (Below w.heap.size w wr)) (fun _ i _ => ns.length - (intOf i).toNat)
  case atStart => exact ⟨0, by omega, rfl, hid (by rw [pkL_zero]; exact OA.out), R, BB⟩
  case round =>
    clear OA R BB
    obtain ⟨j, hj, rfl, OA, R, BL⟩ := hrel
    by_cases hlt : j < ns.length
    · obtain ⟨g', e, -, -, hcs⟩ := R.out.parts
      cases e
      obtain ⟨q0, q1, q2, q3⟩ := hcs j hlt
      have hjz : j < zs.length := by omega
      have q4 := cell_kept BL.out (HX.out.2 j hlt)
      have q5 := HX.out.2 j hlt
      obtain ⟨z1, z2, z3, z4, z5, z6⟩ := HZ.out.2 j hlt hjz
      have PS := hid (pkL_succ zs j hjz)
      have PL := hid (pkL_len zs (fun z hz => by obtain ⟨i, hi, rfl⟩ := List.getElem_of_mem hz; exact (HZ.out.2 i (by omega) hi).2.2.2.1) j)
      have I1 := idx_nu gn ns.length j hlt
      have k0 : (0 : Int) ≤ (j : Int) := by omega
      have k1 : (j : Int) < (ns.length : Int) := by omega
      obtain ⟨N, hN⟩ : ∃ N, N = ns[j] := ⟨_, rfl⟩
      obtain ⟨A, hA⟩ : ∃ A, A = zs[j] := ⟨_, rfl⟩
      rw [← hN] at q0 q1 q2 q3 q4 q5 z2
      rw [← hA] at z1 z2 z3 z4 z5 z6 PS
      rw [z1] at q4 q5
      rw [z2] at q1
      obtain ⟨av, sv⟩ := A
      simp only at z1 z2 z3 z4 z5 z6 q1 q4 q5 PS
      replace q5 := hid q5
      replace z3 := hid z3
      replace z4 := hid z4
      replace z5 := hid z5
      replace z6 := hid z6
      clear hcs z1 z2 hN hA
      go_wp2_with fail
      have VN := hid (heap_alloc_new wr (.cells #[.pointer (some ⟨N.b, N.o, none⟩), .int .i64 (sv : Int), .int .i64 N.lo, .int .i64 N.hi] 101))
      have BA := below_alloc1 wr (.cells #[.pointer (some ⟨N.b, N.o, none⟩), .int .i64 (sv : Int), .int .i64 N.lo, .int .i64 N.hi] 101)
      replace q4 := cell_kept BA q4
      replace OA := hid (OA.out.below BA)
      replace R := hid (R.out.below BA)
      replace BL := hid (BL.out.trans (BA.mono BL.out.size))
      generalize wr.alloc (.cells #[.pointer (some ⟨N.b, N.o, none⟩), .int .i64 (sv : Int), .int .i64 N.lo, .int .i64 N.hi] 101) = w0 at *
      obtain ⟨ga, hga⟩ : ∃ ga, ga = wr.heap.size := ⟨_, rfl⟩
      rw [← hga] at VN ⊢
      clear q0 q1 q2 q3 BA hga I1
      obtain ⟨⟨f0, f1, f2, f3⟩, -⟩ := var4_facts VN.out
      go_wp2_with fail
      refine wp_region_held_drew (S := fun w' => Below w.heap.size w w' ∧ w'.heap[ga]? = some (.cells #[.pointer (some ⟨N.b, N.o, none⟩), .int .i64 (sv : Int), .int .i64 N.lo, .int .i64 N.hi] 101)) (by kernel_rfl) ⟨BL.out.drew, VN.out⟩ (fun hH => ?_)
      replace OA := hid (show Own w0.drew _ _ _ from OA.out.below (Below.refl _ _).drew)
      replace R := hid (show RdN w0.drew _ _ from R.out.below (Below.refl _ _).drew)
      generalize w0.drew = x at *
      refine wpAnyH_take (i := 0) (v := u3) (by simp only [List.getElem?_toArray, List.getElem?_cons_zero]; rfl) (by kernel_rfl) (by kernel_rfl) (by kernel_rfl) (by intro _ _ _ h; exact h) (Or.inl ⟨by rfl, fun w hS => by go_simp⟩) hH ?_
      simp only [Act.put, List.setIfInBounds_toArray, List.set_cons_zero, List.set_cons_succ]
      refine wpAnyH_take (i := 1) (v := .pointer (some ⟨ga, 0, none⟩)) (by simp only [List.getElem?_toArray, List.getElem?_cons_succ, List.getElem?_cons_zero]; rfl) (by kernel_rfl) (by kernel_rfl) (by kernel_rfl) (by intro _ _ _ h; exact h) (Or.inl ⟨by rfl, fun w hS => by go_simp⟩) hH ?_
      simp only [Act.put, List.setIfInBounds_toArray, List.set_cons_zero, List.set_cons_succ]
      refine wpAnyH_take (i := 2) (v := .pointer (some ⟨N.b, N.o, none⟩)) (by simp only [List.getElem?_toArray, List.getElem?_cons_succ, List.getElem?_cons_zero]; rfl) (by kernel_rfl) (by kernel_rfl) (by kernel_rfl) (by intro _ _ _ h; exact h) (Or.inl ⟨by rfl, fun w hS => by (obtain ⟨⟨f0, f1, f2, f3⟩, -⟩ := var4_facts hS.2; go_simp)⟩) hH ?_
      simp only [Act.put, List.setIfInBounds_toArray, List.set_cons_zero, List.set_cons_succ]
      refine wpAnyH_take (i := 3) (v := .pointer (some ⟨N.b, N.o, none⟩)) (by simp only [List.getElem?_toArray, List.getElem?_cons_succ, List.getElem?_cons_zero]; rfl) (by kernel_rfl) (by kernel_rfl) (by kernel_rfl) (by intro _ _ _ h; exact h) (Or.inl ⟨by rfl, fun w hS => by go_simp⟩) hH ?_
      simp only [Act.put, List.setIfInBounds_toArray, List.set_cons_zero, List.set_cons_succ]
      refine wpAnyH_take (i := 4) (v := .int .i64 (av : Int)) (by simp only [List.getElem?_toArray, List.getElem?_cons_succ, List.getElem?_cons_zero]; rfl) (by kernel_rfl) (by kernel_rfl) (by kernel_rfl) (by intro _ _ _ h; exact h) (Or.inl ⟨by rfl, fun w hS => by (have y0 := cell_kept hS.1 q5.out; go_simp)⟩) hH ?_
      simp only [Act.put, List.setIfInBounds_toArray, List.set_cons_zero, List.set_cons_succ]
      refine wpAnyH_take (i := 5) (v := .pointer (some ⟨ga, 1, none⟩)) (by simp only [List.getElem?_toArray, List.getElem?_cons_succ, List.getElem?_cons_zero]; rfl) (by kernel_rfl) (by kernel_rfl) (by kernel_rfl) (by intro _ _ _ h; exact h) (Or.inl ⟨by rfl, fun w hS => by go_simp⟩) hH ?_
      simp only [Act.put, List.setIfInBounds_toArray, List.set_cons_zero, List.set_cons_succ]
      refine wpAnyH_take (i := 6) (v := .int .i64 (sv : Int)) (by simp only [List.getElem?_toArray, List.getElem?_cons_succ, List.getElem?_cons_zero]; rfl) (by kernel_rfl) (by kernel_rfl) (by kernel_rfl) (by intro _ _ _ h; exact h) (Or.inl ⟨by rfl, fun w hS => by (obtain ⟨⟨f0, f1, f2, f3⟩, -⟩ := var4_facts hS.2; go_simp)⟩) hH ?_
      simp only [Act.put, List.setIfInBounds_toArray, List.set_cons_zero, List.set_cons_succ]
      refine wpAnyH_ready (rs := [7]) (by kernel_rfl) (by simp) ?_
      refine AllReadyH.cons (by simp only [List.getElem?_toArray, List.getElem?_cons_succ, List.getElem?_cons_zero]; rfl) (fun K hK => ?_) AllReadyH.nil
      go_simp
      refine (ipw_ok av sv _ z3.out z4.out z6.out z5.out).mono ?_
      rintro e xp ⟨vp, rfl, hO, hM⟩
      obtain ⟨pp, cp, rfl, -, -, -⟩ := hO.rd.parts
      refine hK.out _ _ ⟨hH.1.trans (hM.mono hH.1.size), var_below hM hH.2⟩ (fun hH => ?_)
      clear hK K
      replace OA := hid (OA.out.below hM)
      replace R := hid (R.out.below hM)
      have RP := hid hO.rd
      clear hO hM
      refine wpAnyH_take (i := 8) (v := .slice pp (packL av sv).length cp) (by simp only [List.getElem?_toArray, List.getElem?_cons_succ, List.getElem?_cons_zero]; rfl) (by kernel_rfl) (by kernel_rfl) (by kernel_rfl) (by intro _ _ _ h; exact h) (Or.inl ⟨by rfl, fun w hS => by (have hf1 := fldB; go_simp)⟩) hH ?_
      simp only [Act.put, List.setIfInBounds_toArray, List.set_cons_zero, List.set_cons_succ]
      refine wpAnyH_ready (rs := [9]) (by kernel_rfl) (by simp) ?_
      refine AllReadyH.cons (by simp only [List.getElem?_toArray, List.getElem?_cons_succ, List.getElem?_cons_zero]; rfl) (fun K hK => ?_) AllReadyH.nil
      refine step_app (by rfl) _ _ (by rfl) _ _ ([2] ++ pkL zs j) (packL av sv) w.heap.size (by rfl) (by rfl) OA.out RP.out (by rw [List.length_append, packL_len]; simp; have := PL.out; have := z4.out; omega) hH.1.size ?_
      intro vq xq hO hG
      refine hK.out _ _ ⟨hH.1.grown hG hH.1.size (OA.out.row (Nat.le_refl _)), var_grown hG hH.2 (tag_ne8 OA.out hH.2)⟩ (fun hH => ?_)
      replace R := hid (R.out.grown OA.out hG)
      clear hK K hG OA RP
      have OA := hid hO
      clear hO
      refine wpAnyH_take (i := 10) (v := vq) (by simp only [List.getElem?_toArray, List.getElem?_cons_succ, List.getElem?_cons_zero]; rfl) (by kernel_rfl) (by kernel_rfl) (by kernel_rfl) (by intro _ _ _ h; exact h) (Or.inl ⟨by rfl, fun w hS => by go_simp⟩) hH ?_
      simp only [Act.put, List.setIfInBounds_toArray, List.set_cons_zero, List.set_cons_succ]
      refine wpAnyH_done (by kernel_rfl) ?_ _
      replace BL := hid hH.1
      clear hH
      try clear f0 f1 f2 f3 q4
      rw [List.append_assoc, ← PS.out] at OA
      go_wp2
      go_roundw
      case rel => exact ⟨j + 1, hlt, by go_num, OA, R, BL⟩
      case measure => simp [intOf]; omega
    · have hje : j = ns.length := by omega
      subst hje
      rw [← hzl] at OA

      go_wp2
      go_ret
      exact ⟨_, rfl, OA.out, BL.out⟩
set_option maxHeartbeats 4000000 in
set_option maxRecDepth 100000 in
theorem pkw3 (ns : List Num) (xs : List Int) (zs : List (Nat × Nat)) (w : World) (gw : Nat) (s n : Int) (hV : w.heap[gw]? = some (.cells #[.int .i64 s, .int .i64 n] 126))
    (hn : Hid (∀ w' : World, Below w.heap.size w w' → Calls Try.prog 70 #[.iface 125 (.pointer (some ⟨gw, 0, none⟩))] w' fun e w'' => ∃ v, e = .returned v ∧ RdN w'' v ns ∧ Below w'.heap.size w' w''))
    (hx : Kp w ns xs) (hz : Zs ns xs zs) :
    Calls Try.prog 57 #[.iface 125 (.pointer (some ⟨gw, 0, none⟩))] w fun e w' => ∃ v, e = .returned v ∧ Own w' w.heap.size v (([3] ++ pkL zs zs.length)) ∧ Below w.heap.size w w' := by
  have V := hid hV
  clear hV
  have na := nah3 gw
  have me := met3 gw
  have ta : ∀ w : World, (Instr.typeAssert (.iface 125 (.pointer (some ⟨gw, 0, none⟩))) 85 107 true).run Try.prog w = .ok (.tuple #[.pointer none, .bool false]) w := fun _ => by kernel_rfl
  have HX := hid hx
  have HZ := hid hz
  clear hx hz
  go_enter Try.func57, Try.ntmps57
  go_wp2_with fail
  refine (msg3 gw _ _ _ V.out).mono ?_
  rintro e w1 ⟨rfl, hB⟩
  have BB := hid hB
  clear hB
  have fm := fldM 3 (.int .i64 s) (.int .i64 n) (.int .i64 0) (.int .i64 0) (.int .i64 0) (.int .i64 0) (.int .i64 0) (.int .i64 0) (.slice none 0 0)
  go_wp2_with fail
  have OA := hid ((own_l1 w1 3).mono (base' := w.heap.size) BB.out.size)
  replace BB := hid (BB.out.trans ((below_alloc1 w1 (.cells #[.int .u8 3] 5)).mono BB.out.size))
  obtain ⟨va, hva⟩ : ∃ v : Value, v = .slice (some ⟨w1.heap.size, 0, none⟩) 1 1 := ⟨_, rfl⟩
  generalize w1.alloc (.cells #[.int .u8 3] 5) = w2 at *
  rw [← hva] at OA ⊢
  clear hva fm
  refine (hn.out _ BB.out).mono ?_
  rintro e w3 ⟨vn, rfl, hR, hB⟩
  replace OA := hid (OA.out.below hB)
  replace BB := hid (BB.out.trans (hB.mono BB.out.size))
  obtain ⟨gn, rfl, hl4, -, -⟩ := hR.parts
  have R := hid hR
  clear hB hR
  have hzl := HZ.out.1
  go_wp2_with fail

  go_loopw [3, 16] (fun acc i wr => ∃ j : Nat, j ≤ ns.length ∧ i = .int .i64 j ∧ Hid (Own wr w.heap.size acc ([3] ++ pkL zs j)) ∧ Hid (RdN wr (.slice (some ⟨gn, 0, none⟩) ns.length ns.length) ns) ∧ Hid (Below w.heap.size w wr)) (fun _ i _ => ns.length - (intOf i).toNat)
  case atStart => exact ⟨0, by omega, rfl, hid (by rw [pkL_zero]; exact OA.out), R, BB⟩
  case round =>
    clear OA R BB
    obtain ⟨j, hj, rfl, OA, R, BL⟩ := hrel
    by_cases hlt : j < ns.length
    · obtain ⟨g', e, -, -, hcs⟩ := R.out.parts
      cases e
      obtain ⟨q0, q1, q2, q3⟩ := hcs j hlt
      have hjz : j < zs.length := by omega
      have q4 := cell_kept BL.out (HX.out.2 j hlt)
      have q5 := HX.out.2 j hlt
      obtain ⟨z1, z2, z3, z4, z5, z6⟩ := HZ.out.2 j hlt hjz
      have PS := hid (pkL_succ zs j hjz)
      have PL := hid (pkL_len zs (fun z hz => by obtain ⟨i, hi, rfl⟩ := List.getElem_of_mem hz; exact (HZ.out.2 i (by omega) hi).2.2.2.1) j)
      have I1 := idx_nu gn ns.length j hlt
      have k0 : (0 : Int) ≤ (j : Int) := by omega
      have k1 : (j : Int) < (ns.length : Int) := by omega
      obtain ⟨N, hN⟩ : ∃ N, N = ns[j] := ⟨_, rfl⟩
      obtain ⟨A, hA⟩ : ∃ A, A = zs[j] := ⟨_, rfl⟩
      rw [← hN] at q0 q1 q2 q3 q4 q5 z2
      rw [← hA] at z1 z2 z3 z4 z5 z6 PS
      rw [z1] at q4 q5
      rw [z2] at q1
      obtain ⟨av, sv⟩ := A
      simp only at z1 z2 z3 z4 z5 z6 q1 q4 q5 PS
      replace q5 := hid q5
      replace z3 := hid z3
      replace z4 := hid z4
      replace z5 := hid z5
      replace z6 := hid z6
      clear hcs z1 z2 hN hA
      go_wp2_with fail
      have VN := hid (heap_alloc_new wr (.cells #[.pointer (some ⟨N.b, N.o, none⟩), .int .i64 (sv : Int), .int .i64 N.lo, .int .i64 N.hi] 101))
      have BA := below_alloc1 wr (.cells #[.pointer (some ⟨N.b, N.o, none⟩), .int .i64 (sv : Int), .int .i64 N.lo, .int .i64 N.hi] 101)
      replace q4 := cell_kept BA q4
      replace OA := hid (OA.out.below BA)
      replace R := hid (R.out.below BA)
      replace BL := hid (BL.out.trans (BA.mono BL.out.size))
      generalize wr.alloc (.cells #[.pointer (some ⟨N.b, N.o, none⟩), .int .i64 (sv : Int), .int .i64 N.lo, .int .i64 N.hi] 101) = w0 at *
      obtain ⟨ga, hga⟩ : ∃ ga, ga = wr.heap.size := ⟨_, rfl⟩
      rw [← hga] at VN ⊢
      clear q0 q1 q2 q3 BA hga I1
      obtain ⟨⟨f0, f1, f2, f3⟩, -⟩ := var4_facts VN.out
      go_wp2_with fail
      refine wp_region_held_drew (S := fun w' => Below w.heap.size w w' ∧ w'.heap[ga]? = some (.cells #[.pointer (some ⟨N.b, N.o, none⟩), .int .i64 (sv : Int), .int .i64 N.lo, .int .i64 N.hi] 101)) (by kernel_rfl) ⟨BL.out.drew, VN.out⟩ (fun hH => ?_)
      replace OA := hid (show Own w0.drew _ _ _ from OA.out.below (Below.refl _ _).drew)
      replace R := hid (show RdN w0.drew _ _ from R.out.below (Below.refl _ _).drew)
      generalize w0.drew = x at *
      refine wpAnyH_take (i := 0) (v := u3) (by simp only [List.getElem?_toArray, List.getElem?_cons_zero]; rfl) (by kernel_rfl) (by kernel_rfl) (by kernel_rfl) (by intro _ _ _ h; exact h) (Or.inl ⟨by rfl, fun w hS => by go_simp⟩) hH ?_
      simp only [Act.put, List.setIfInBounds_toArray, List.set_cons_zero, List.set_cons_succ]
      refine wpAnyH_take (i := 1) (v := .pointer (some ⟨ga, 0, none⟩)) (by simp only [List.getElem?_toArray, List.getElem?_cons_succ, List.getElem?_cons_zero]; rfl) (by kernel_rfl) (by kernel_rfl) (by kernel_rfl) (by intro _ _ _ h; exact h) (Or.inl ⟨by rfl, fun w hS => by go_simp⟩) hH ?_
      simp only [Act.put, List.setIfInBounds_toArray, List.set_cons_zero, List.set_cons_succ]
      refine wpAnyH_take (i := 2) (v := .pointer (some ⟨N.b, N.o, none⟩)) (by simp only [List.getElem?_toArray, List.getElem?_cons_succ, List.getElem?_cons_zero]; rfl) (by kernel_rfl) (by kernel_rfl) (by kernel_rfl) (by intro _ _ _ h; exact h) (Or.inl ⟨by rfl, fun w hS => by (obtain ⟨⟨f0, f1, f2, f3⟩, -⟩ := var4_facts hS.2; go_simp)⟩) hH ?_
      simp only [Act.put, List.setIfInBounds_toArray, List.set_cons_zero, List.set_cons_succ]
      refine wpAnyH_take (i := 3) (v := .pointer (some ⟨N.b, N.o, none⟩)) (by simp only [List.getElem?_toArray, List.getElem?_cons_succ, List.getElem?_cons_zero]; rfl) (by kernel_rfl) (by kernel_rfl) (by kernel_rfl) (by intro _ _ _ h; exact h) (Or.inl ⟨by rfl, fun w hS => by go_simp⟩) hH ?_
      simp only [Act.put, List.setIfInBounds_toArray, List.set_cons_zero, List.set_cons_succ]
      refine wpAnyH_take (i := 4) (v := .int .i64 (av : Int)) (by simp only [List.getElem?_toArray, List.getElem?_cons_succ, List.getElem?_cons_zero]; rfl) (by kernel_rfl) (by kernel_rfl) (by kernel_rfl) (by intro _ _ _ h; exact h) (Or.inl ⟨by rfl, fun w hS => by (have y0 := cell_kept hS.1 q5.out; go_simp)⟩) hH ?_
      simp only [Act.put, List.setIfInBounds_toArray, List.set_cons_zero, List.set_cons_succ]
      refine wpAnyH_take (i := 5) (v := .pointer (some ⟨ga, 1, none⟩)) (by simp only [List.getElem?_toArray, List.getElem?_cons_succ, List.getElem?_cons_zero]; rfl) (by kernel_rfl) (by kernel_rfl) (by kernel_rfl) (by intro _ _ _ h; exact h) (Or.inl ⟨by rfl, fun w hS => by go_simp⟩) hH ?_
      simp only [Act.put, List.setIfInBounds_toArray, List.set_cons_zero, List.set_cons_succ]
      refine wpAnyH_take (i := 6) (v := .int .i64 (sv : Int)) (by simp only [List.getElem?_toArray, List.getElem?_cons_succ, List.getElem?_cons_zero]; rfl) (by kernel_rfl) (by kernel_rfl) (by kernel_rfl) (by intro _ _ _ h; exact h) (Or.inl ⟨by rfl, fun w hS => by (obtain ⟨⟨f0, f1, f2, f3⟩, -⟩ := var4_facts hS.2; go_simp)⟩) hH ?_
      simp only [Act.put, List.setIfInBounds_toArray, List.set_cons_zero, List.set_cons_succ]
      refine wpAnyH_ready (rs := [7]) (by kernel_rfl) (by simp) ?_
      refine AllReadyH.cons (by simp only [List.getElem?_toArray, List.getElem?_cons_succ, List.getElem?_cons_zero]; rfl) (fun K hK => ?_) AllReadyH.nil
      go_simp
      refine (ipw_ok av sv _ z3.out z4.out z6.out z5.out).mono ?_
      rintro e xp ⟨vp, rfl, hO, hM⟩
      obtain ⟨pp, cp, rfl, -, -, -⟩ := hO.rd.parts
      refine hK.out _ _ ⟨hH.1.trans (hM.mono hH.1.size), var_below hM hH.2⟩ (fun hH => ?_)
      clear hK K
      replace OA := hid (OA.out.below hM)
      replace R := hid (R.out.below hM)
      have RP := hid hO.rd
      clear hO hM
      refine wpAnyH_take (i := 8) (v := .slice pp (packL av sv).length cp) (by simp only [List.getElem?_toArray, List.getElem?_cons_succ, List.getElem?_cons_zero]; rfl) (by kernel_rfl) (by kernel_rfl) (by kernel_rfl) (by intro _ _ _ h; exact h) (Or.inl ⟨by rfl, fun w hS => by (have hf1 := fldB; go_simp)⟩) hH ?_
      simp only [Act.put, List.setIfInBounds_toArray, List.set_cons_zero, List.set_cons_succ]
      refine wpAnyH_ready (rs := [9]) (by kernel_rfl) (by simp) ?_
      refine AllReadyH.cons (by simp only [List.getElem?_toArray, List.getElem?_cons_succ, List.getElem?_cons_zero]; rfl) (fun K hK => ?_) AllReadyH.nil
      refine step_app (by rfl) _ _ (by rfl) _ _ ([3] ++ pkL zs j) (packL av sv) w.heap.size (by rfl) (by rfl) OA.out RP.out (by rw [List.length_append, packL_len]; simp; have := PL.out; have := z4.out; omega) hH.1.size ?_
      intro vq xq hO hG
      refine hK.out _ _ ⟨hH.1.grown hG hH.1.size (OA.out.row (Nat.le_refl _)), var_grown hG hH.2 (tag_ne8 OA.out hH.2)⟩ (fun hH => ?_)
      replace R := hid (R.out.grown OA.out hG)
      clear hK K hG OA RP
      have OA := hid hO
      clear hO
      refine wpAnyH_take (i := 10) (v := vq) (by simp only [List.getElem?_toArray, List.getElem?_cons_succ, List.getElem?_cons_zero]; rfl) (by kernel_rfl) (by kernel_rfl) (by kernel_rfl) (by intro _ _ _ h; exact h) (Or.inl ⟨by rfl, fun w hS => by go_simp⟩) hH ?_
      simp only [Act.put, List.setIfInBounds_toArray, List.set_cons_zero, List.set_cons_succ]
      refine wpAnyH_done (by kernel_rfl) ?_ _
      replace BL := hid hH.1
      clear hH
      try clear f0 f1 f2 f3 q4
      rw [List.append_assoc, ← PS.out] at OA
      go_wp2
      go_roundw
      case rel => exact ⟨j + 1, hlt, by go_num, OA, R, BL⟩
      case measure => simp [intOf]; omega
    · have hje : j = ns.length := by omega
      subst hje
      rw [← hzl] at OA

      go_wp2
      go_ret
      exact ⟨_, rfl, OA.out, BL.out⟩
set_option maxHeartbeats 4000000 in
set_option maxRecDepth 100000 in
theorem pkw4 (ns : List Num) (xs : List Int) (zs : List (Nat × Nat)) (w : World) (gw : Nat) (cn ci cs cm : Int) (hV : w.heap[gw]? = some (.cells #[.int .i64 cn, .int .i64 ci, .int .i64 cs, .int .i64 cm] 129))
    (hn : Hid (∀ w' : World, Below w.heap.size w w' → Calls Try.prog 70 #[.iface 127 (.pointer (some ⟨gw, 0, none⟩))] w' fun e w'' => ∃ v, e = .returned v ∧ RdN w'' v ns ∧ Below w'.heap.size w' w''))
    (hx : Kp w ns xs) (hz : Zs ns xs zs) :
    Calls Try.prog 57 #[.iface 127 (.pointer (some ⟨gw, 0, none⟩))] w fun e w' => ∃ v, e = .returned v ∧ Own w' w.heap.size v (([4] ++ pkL zs zs.length)) ∧ Below w.heap.size w w' := by
  have V := hid hV
  clear hV
  have na := nah4 gw
  have me := met4 gw
  have ta : ∀ w : World, (Instr.typeAssert (.iface 127 (.pointer (some ⟨gw, 0, none⟩))) 85 107 true).run Try.prog w = .ok (.tuple #[.pointer none, .bool false]) w := fun _ => by kernel_rfl
  have HX := hid hx
  have HZ := hid hz
  clear hx hz
  go_enter Try.func57, Try.ntmps57
  go_wp2_with fail
  refine (msg4 gw _ _ _ _ _ V.out).mono ?_
  rintro e w1 ⟨rfl, hB⟩
  have BB := hid hB
  clear hB
  have fm := fldM 4 (.int .i64 0) (.int .i64 0) (.int .i64 cn) (.int .i64 ci) (.int .i64 cs) (.int .i64 cm) (.int .i64 0) (.int .i64 0) (.slice none 0 0)
  go_wp2_with fail
  have OA := hid ((own_l1 w1 4).mono (base' := w.heap.size) BB.out.size)
  replace BB := hid (BB.out.trans ((below_alloc1 w1 (.cells #[.int .u8 4] 5)).mono BB.out.size))
  obtain ⟨va, hva⟩ : ∃ v : Value, v = .slice (some ⟨w1.heap.size, 0, none⟩) 1 1 := ⟨_, rfl⟩
  generalize w1.alloc (.cells #[.int .u8 4] 5) = w2 at *
  rw [← hva] at OA ⊢
  clear hva fm
  refine (hn.out _ BB.out).mono ?_
  rintro e w3 ⟨vn, rfl, hR, hB⟩
  replace OA := hid (OA.out.below hB)
  replace BB := hid (BB.out.trans (hB.mono BB.out.size))
  obtain ⟨gn, rfl, hl4, -, -⟩ := hR.parts
  have R := hid hR
  clear hB hR
  have hzl := HZ.out.1
  go_wp2_with fail

  go_loopw [3, 16] (fun acc i wr => ∃ j : Nat, j ≤ ns.length ∧ i = .int .i64 j ∧ Hid (Own wr w.heap.size acc ([4] ++ pkL zs j)) ∧ Hid (RdN wr (.slice (some ⟨gn, 0, none⟩) ns.length ns.length) ns) ∧ Hid (Below w.heap.size w wr)) (fun _ i _ => ns.length - (intOf i).toNat)
  case atStart => exact ⟨0, by omega, rfl, hid (by rw [pkL_zero]; exact OA.out), R, BB⟩
  case round =>
    clear OA R BB
    obtain ⟨j, hj, rfl, OA, R, BL⟩ := hrel
    by_cases hlt : j < ns.length
    · obtain ⟨g', e, -, -, hcs⟩ := R.out.parts
      cases e
      obtain ⟨q0, q1, q2, q3⟩ := hcs j hlt
      have hjz : j < zs.length := by omega
      have q4 := cell_kept BL.out (HX.out.2 j hlt)
      have q5 := HX.out.2 j hlt
      obtain ⟨z1, z2, z3, z4, z5, z6⟩ := HZ.out.2 j hlt hjz
      have PS := hid (pkL_succ zs j hjz)
      have PL := hid (pkL_len zs (fun z hz => by obtain ⟨i, hi, rfl⟩ := List.getElem_of_mem hz; exact (HZ.out.2 i (by omega) hi).2.2.2.1) j)
      have I1 := idx_nu gn ns.length j hlt
      have k0 : (0 : Int) ≤ (j : Int) := by omega
      have k1 : (j : Int) < (ns.length : Int) := by omega
      obtain ⟨N, hN⟩ : ∃ N, N = ns[j] := ⟨_, rfl⟩
      obtain ⟨A, hA⟩ : ∃ A, A = zs[j] := ⟨_, rfl⟩
      rw [← hN] at q0 q1 q2 q3 q4 q5 z2
      rw [← hA] at z1 z2 z3 z4 z5 z6 PS
      rw [z1] at q4 q5
      rw [z2] at q1
      obtain ⟨av, sv⟩ := A
      simp only at z1 z2 z3 z4 z5 z6 q1 q4 q5 PS
      replace q5 := hid q5
      replace z3 := hid z3
      replace z4 := hid z4
      replace z5 := hid z5
      replace z6 := hid z6
      clear hcs z1 z2 hN hA
      go_wp2_with fail
      have VN := hid (heap_alloc_new wr (.cells #[.pointer (some ⟨N.b, N.o, none⟩), .int .i64 (sv : Int), .int .i64 N.lo, .int .i64 N.hi] 101))
      have BA := below_alloc1 wr (.cells #[.pointer (some ⟨N.b, N.o, none⟩), .int .i64 (sv : Int), .int .i64 N.lo, .int .i64 N.hi] 101)
      replace q4 := cell_kept BA q4
      replace OA := hid (OA.out.below BA)
      replace R := hid (R.out.below BA)
      replace BL := hid (BL.out.trans (BA.mono BL.out.size))
      generalize wr.alloc (.cells #[.pointer (some ⟨N.b, N.o, none⟩), .int .i64 (sv : Int), .int .i64 N.lo, .int .i64 N.hi] 101) = w0 at *
      obtain ⟨ga, hga⟩ : ∃ ga, ga = wr.heap.size := ⟨_, rfl⟩
      rw [← hga] at VN ⊢
      clear q0 q1 q2 q3 BA hga I1
      obtain ⟨⟨f0, f1, f2, f3⟩, -⟩ := var4_facts VN.out
      go_wp2_with fail
      refine wp_region_held_drew (S := fun w' => Below w.heap.size w w' ∧ w'.heap[ga]? = some (.cells #[.pointer (some ⟨N.b, N.o, none⟩), .int .i64 (sv : Int), .int .i64 N.lo, .int .i64 N.hi] 101)) (by kernel_rfl) ⟨BL.out.drew, VN.out⟩ (fun hH => ?_)
      replace OA := hid (show Own w0.drew _ _ _ from OA.out.below (Below.refl _ _).drew)
      replace R := hid (show RdN w0.drew _ _ from R.out.below (Below.refl _ _).drew)
      generalize w0.drew = x at *
      refine wpAnyH_take (i := 0) (v := u3) (by simp only [List.getElem?_toArray, List.getElem?_cons_zero]; rfl) (by kernel_rfl) (by kernel_rfl) (by kernel_rfl) (by intro _ _ _ h; exact h) (Or.inl ⟨by rfl, fun w hS => by go_simp⟩) hH ?_
      simp only [Act.put, List.setIfInBounds_toArray, List.set_cons_zero, List.set_cons_succ]
      refine wpAnyH_take (i := 1) (v := .pointer (some ⟨ga, 0, none⟩)) (by simp only [List.getElem?_toArray, List.getElem?_cons_succ, List.getElem?_cons_zero]; rfl) (by kernel_rfl) (by kernel_rfl) (by kernel_rfl) (by intro _ _ _ h; exact h) (Or.inl ⟨by rfl, fun w hS => by go_simp⟩) hH ?_
      simp only [Act.put, List.setIfInBounds_toArray, List.set_cons_zero, List.set_cons_succ]
      refine wpAnyH_take (i := 2) (v := .pointer (some ⟨N.b, N.o, none⟩)) (by simp only [List.getElem?_toArray, List.getElem?_cons_succ, List.getElem?_cons_zero]; rfl) (by kernel_rfl) (by kernel_rfl) (by kernel_rfl) (by intro _ _ _ h; exact h) (Or.inl ⟨by rfl, fun w hS => by (obtain ⟨⟨f0, f1, f2, f3⟩, -⟩ := var4_facts hS.2; go_simp)⟩) hH ?_
      simp only [Act.put, List.setIfInBounds_toArray, List.set_cons_zero, List.set_cons_succ]
      refine wpAnyH_take (i := 3) (v := .pointer (some ⟨N.b, N.o, none⟩)) (by simp only [List.getElem?_toArray, List.getElem?_cons_succ, List.getElem?_cons_zero]; rfl) (by kernel_rfl) (by kernel_rfl) (by kernel_rfl) (by intro _ _ _ h; exact h) (Or.inl ⟨by rfl, fun w hS => by go_simp⟩) hH ?_
      simp only [Act.put, List.setIfInBounds_toArray, List.set_cons_zero, List.set_cons_succ]
      refine wpAnyH_take (i := 4) (v := .int .i64 (av : Int)) (by simp only [List.getElem?_toArray, List.getElem?_cons_succ, List.getElem?_cons_zero]; rfl) (by kernel_rfl) (by kernel_rfl) (by kernel_rfl) (by intro _ _ _ h; exact h) (Or.inl ⟨by rfl, fun w hS => by (have y0 := cell_kept hS.1 q5.out; go_simp)⟩) hH ?_
      simp only [Act.put, List.setIfInBounds_toArray, List.set_cons_zero, List.set_cons_succ]
      refine wpAnyH_take (i := 5) (v := .pointer (some ⟨ga, 1, none⟩)) (by simp only [List.getElem?_toArray, List.getElem?_cons_succ, List.getElem?_cons_zero]; rfl) (by kernel_rfl) (by kernel_rfl) (by kernel_rfl) (by intro _ _ _ h; exact h) (Or.inl ⟨by rfl, fun w hS => by go_simp⟩) hH ?_
      simp only [Act.put, List.setIfInBounds_toArray, List.set_cons_zero, List.set_cons_succ]
      refine wpAnyH_take (i := 6) (v := .int .i64 (sv : Int)) (by simp only [List.getElem?_toArray, List.getElem?_cons_succ, List.getElem?_cons_zero]; rfl) (by kernel_rfl) (by kernel_rfl) (by kernel_rfl) (by intro _ _ _ h; exact h) (Or.inl ⟨by rfl, fun w hS => by (obtain ⟨⟨f0, f1, f2, f3⟩, -⟩ := var4_facts hS.2; go_simp)⟩) hH ?_
      simp only [Act.put, List.setIfInBounds_toArray, List.set_cons_zero, List.set_cons_succ]
      refine wpAnyH_ready (rs := [7]) (by kernel_rfl) (by simp) ?_
      refine AllReadyH.cons (by simp only [List.getElem?_toArray, List.getElem?_cons_succ, List.getElem?_cons_zero]; rfl) (fun K hK => ?_) AllReadyH.nil
      go_simp
      refine (ipw_ok av sv _ z3.out z4.out z6.out z5.out).mono ?_
      rintro e xp ⟨vp, rfl, hO, hM⟩
      obtain ⟨pp, cp, rfl, -, -, -⟩ := hO.rd.parts
      refine hK.out _ _ ⟨hH.1.trans (hM.mono hH.1.size), var_below hM hH.2⟩ (fun hH => ?_)
      clear hK K
      replace OA := hid (OA.out.below hM)
      replace R := hid (R.out.below hM)
      have RP := hid hO.rd
      clear hO hM
      refine wpAnyH_take (i := 8) (v := .slice pp (packL av sv).length cp) (by simp only [List.getElem?_toArray, List.getElem?_cons_succ, List.getElem?_cons_zero]; rfl) (by kernel_rfl) (by kernel_rfl) (by kernel_rfl) (by intro _ _ _ h; exact h) (Or.inl ⟨by rfl, fun w hS => by (have hf1 := fldB; go_simp)⟩) hH ?_
      simp only [Act.put, List.setIfInBounds_toArray, List.set_cons_zero, List.set_cons_succ]
      refine wpAnyH_ready (rs := [9]) (by kernel_rfl) (by simp) ?_
      refine AllReadyH.cons (by simp only [List.getElem?_toArray, List.getElem?_cons_succ, List.getElem?_cons_zero]; rfl) (fun K hK => ?_) AllReadyH.nil
      refine step_app (by rfl) _ _ (by rfl) _ _ ([4] ++ pkL zs j) (packL av sv) w.heap.size (by rfl) (by rfl) OA.out RP.out (by rw [List.length_append, packL_len]; simp; have := PL.out; have := z4.out; omega) hH.1.size ?_
      intro vq xq hO hG
      refine hK.out _ _ ⟨hH.1.grown hG hH.1.size (OA.out.row (Nat.le_refl _)), var_grown hG hH.2 (tag_ne8 OA.out hH.2)⟩ (fun hH => ?_)
      replace R := hid (R.out.grown OA.out hG)
      clear hK K hG OA RP
      have OA := hid hO
      clear hO
      refine wpAnyH_take (i := 10) (v := vq) (by simp only [List.getElem?_toArray, List.getElem?_cons_succ, List.getElem?_cons_zero]; rfl) (by kernel_rfl) (by kernel_rfl) (by kernel_rfl) (by intro _ _ _ h; exact h) (Or.inl ⟨by rfl, fun w hS => by go_simp⟩) hH ?_
      simp only [Act.put, List.setIfInBounds_toArray, List.set_cons_zero, List.set_cons_succ]
      refine wpAnyH_done (by kernel_rfl) ?_ _
      replace BL := hid hH.1
      clear hH
      try clear f0 f1 f2 f3 q4
      rw [List.append_assoc, ← PS.out] at OA
      go_wp2
      go_roundw
      case rel => exact ⟨j + 1, hlt, by go_num, OA, R, BL⟩
      case measure => simp [intOf]; omega
    · have hje : j = ns.length := by omega
      subst hje
      rw [← hzl] at OA

      go_wp2
      go_ret
      exact ⟨_, rfl, OA.out, BL.out⟩
set_option maxHeartbeats 4000000 in
set_option maxRecDepth 100000 in
theorem pkw5 (ns : List Num) (xs : List Int) (zs : List (Nat × Nat)) (w : World) (gw : Nat) (op id' : Int) (a : Option Addr) (c : Nat) (l : List Nat) (hL : Rd w (.slice a l.length c) l) (hl : l.length ≤ 100) (hV : w.heap[gw]? = some (.cells #[.int .i64 op, .int .i64 id', .slice a l.length c] 110))
    (hn : Hid (∀ w' : World, Below w.heap.size w w' → Calls Try.prog 70 #[.iface 107 (.pointer (some ⟨gw, 0, none⟩))] w' fun e w'' => ∃ v, e = .returned v ∧ RdN w'' v ns ∧ Below w'.heap.size w' w''))
    (hx : Kp w ns xs) (hz : Zs ns xs zs) :
    Calls Try.prog 57 #[.iface 107 (.pointer (some ⟨gw, 0, none⟩))] w fun e w' => ∃ v, e = .returned v ∧ Own w' w.heap.size v (([5] ++ pkL zs zs.length) ++ l) ∧ Below w.heap.size w w' := by
  have V := hid hV
  clear hV
  have na := nah5 gw
  have me := met5 gw
  have HL := hid hL
  clear hL
  have ta : ∀ w : World, (Instr.typeAssert (.iface 107 (.pointer (some ⟨gw, 0, none⟩))) 85 107 true).run Try.prog w = .ok (.tuple #[.pointer (some ⟨gw, 0, none⟩), .bool true]) w := fun _ => by kernel_rfl
  have HX := hid hx
  have HZ := hid hz
  clear hx hz
  go_enter Try.func57, Try.ntmps57
  go_wp2_with fail
  refine (msg5 gw _ _ _ _ _ _ V.out).mono ?_
  rintro e w1 ⟨rfl, hB⟩
  have BB := hid hB
  clear hB
  have fm := fldM 5 (.int .i64 0) (.int .i64 0) (.int .i64 0) (.int .i64 0) (.int .i64 0) (.int .i64 0) (.int .i64 op) (.int .i64 id') (.slice a l.length c)
  go_wp2_with fail
  have OA := hid ((own_l1 w1 5).mono (base' := w.heap.size) BB.out.size)
  replace BB := hid (BB.out.trans ((below_alloc1 w1 (.cells #[.int .u8 5] 5)).mono BB.out.size))
  obtain ⟨va, hva⟩ : ∃ v : Value, v = .slice (some ⟨w1.heap.size, 0, none⟩) 1 1 := ⟨_, rfl⟩
  generalize w1.alloc (.cells #[.int .u8 5] 5) = w2 at *
  rw [← hva] at OA ⊢
  clear hva fm
  refine (hn.out _ BB.out).mono ?_
  rintro e w3 ⟨vn, rfl, hR, hB⟩
  replace OA := hid (OA.out.below hB)
  replace BB := hid (BB.out.trans (hB.mono BB.out.size))
  obtain ⟨gn, rfl, hl4, -, -⟩ := hR.parts
  have R := hid hR
  clear hB hR
  have hzl := HZ.out.1
  go_wp2_with fail

  go_loopw [3, 16] (fun acc i wr => ∃ j : Nat, j ≤ ns.length ∧ i = .int .i64 j ∧ Hid (Own wr w.heap.size acc ([5] ++ pkL zs j)) ∧ Hid (RdN wr (.slice (some ⟨gn, 0, none⟩) ns.length ns.length) ns) ∧ Hid (Below w.heap.size w wr)) (fun _ i _ => ns.length - (intOf i).toNat)
  case atStart => exact ⟨0, by omega, rfl, hid (by rw [pkL_zero]; exact OA.out), R, BB⟩
  case round =>
    clear OA R BB
    obtain ⟨j, hj, rfl, OA, R, BL⟩ := hrel
    by_cases hlt : j < ns.length
    · obtain ⟨g', e, -, -, hcs⟩ := R.out.parts
      cases e
      obtain ⟨q0, q1, q2, q3⟩ := hcs j hlt
      have hjz : j < zs.length := by omega
      have q4 := cell_kept BL.out (HX.out.2 j hlt)
      have q5 := HX.out.2 j hlt
      obtain ⟨z1, z2, z3, z4, z5, z6⟩ := HZ.out.2 j hlt hjz
      have PS := hid (pkL_succ zs j hjz)
      have PL := hid (pkL_len zs (fun z hz => by obtain ⟨i, hi, rfl⟩ := List.getElem_of_mem hz; exact (HZ.out.2 i (by omega) hi).2.2.2.1) j)
      have I1 := idx_nu gn ns.length j hlt
      have k0 : (0 : Int) ≤ (j : Int) := by omega
      have k1 : (j : Int) < (ns.length : Int) := by omega
      obtain ⟨N, hN⟩ : ∃ N, N = ns[j] := ⟨_, rfl⟩
      obtain ⟨A, hA⟩ : ∃ A, A = zs[j] := ⟨_, rfl⟩
      rw [← hN] at q0 q1 q2 q3 q4 q5 z2
      rw [← hA] at z1 z2 z3 z4 z5 z6 PS
      rw [z1] at q4 q5
      rw [z2] at q1
      obtain ⟨av, sv⟩ := A
      simp only at z1 z2 z3 z4 z5 z6 q1 q4 q5 PS
      replace q5 := hid q5
      replace z3 := hid z3
      replace z4 := hid z4
      replace z5 := hid z5
      replace z6 := hid z6
      clear hcs z1 z2 hN hA
      go_wp2_with fail
      have VN := hid (heap_alloc_new wr (.cells #[.pointer (some ⟨N.b, N.o, none⟩), .int .i64 (sv : Int), .int .i64 N.lo, .int .i64 N.hi] 101))
      have BA := below_alloc1 wr (.cells #[.pointer (some ⟨N.b, N.o, none⟩), .int .i64 (sv : Int), .int .i64 N.lo, .int .i64 N.hi] 101)
      replace q4 := cell_kept BA q4
      replace OA := hid (OA.out.below BA)
      replace R := hid (R.out.below BA)
      replace BL := hid (BL.out.trans (BA.mono BL.out.size))
      generalize wr.alloc (.cells #[.pointer (some ⟨N.b, N.o, none⟩), .int .i64 (sv : Int), .int .i64 N.lo, .int .i64 N.hi] 101) = w0 at *
      obtain ⟨ga, hga⟩ : ∃ ga, ga = wr.heap.size := ⟨_, rfl⟩
      rw [← hga] at VN ⊢
      clear q0 q1 q2 q3 BA hga I1
      obtain ⟨⟨f0, f1, f2, f3⟩, -⟩ := var4_facts VN.out
      go_wp2_with fail
      refine wp_region_held_drew (S := fun w' => Below w.heap.size w w' ∧ w'.heap[ga]? = some (.cells #[.pointer (some ⟨N.b, N.o, none⟩), .int .i64 (sv : Int), .int .i64 N.lo, .int .i64 N.hi] 101)) (by kernel_rfl) ⟨BL.out.drew, VN.out⟩ (fun hH => ?_)
      replace OA := hid (show Own w0.drew _ _ _ from OA.out.below (Below.refl _ _).drew)
      replace R := hid (show RdN w0.drew _ _ from R.out.below (Below.refl _ _).drew)
      generalize w0.drew = x at *
      refine wpAnyH_take (i := 0) (v := u3) (by simp only [List.getElem?_toArray, List.getElem?_cons_zero]; rfl) (by kernel_rfl) (by kernel_rfl) (by kernel_rfl) (by intro _ _ _ h; exact h) (Or.inl ⟨by rfl, fun w hS => by go_simp⟩) hH ?_
      simp only [Act.put, List.setIfInBounds_toArray, List.set_cons_zero, List.set_cons_succ]
      refine wpAnyH_take (i := 1) (v := .pointer (some ⟨ga, 0, none⟩)) (by simp only [List.getElem?_toArray, List.getElem?_cons_succ, List.getElem?_cons_zero]; rfl) (by kernel_rfl) (by kernel_rfl) (by kernel_rfl) (by intro _ _ _ h; exact h) (Or.inl ⟨by rfl, fun w hS => by go_simp⟩) hH ?_
      simp only [Act.put, List.setIfInBounds_toArray, List.set_cons_zero, List.set_cons_succ]
      refine wpAnyH_take (i := 2) (v := .pointer (some ⟨N.b, N.o, none⟩)) (by simp only [List.getElem?_toArray, List.getElem?_cons_succ, List.getElem?_cons_zero]; rfl) (by kernel_rfl) (by kernel_rfl) (by kernel_rfl) (by intro _ _ _ h; exact h) (Or.inl ⟨by rfl, fun w hS => by (obtain ⟨⟨f0, f1, f2, f3⟩, -⟩ := var4_facts hS.2; go_simp)⟩) hH ?_
      simp only [Act.put, List.setIfInBounds_toArray, List.set_cons_zero, List.set_cons_succ]
      refine wpAnyH_take (i := 3) (v := .pointer (some ⟨N.b, N.o, none⟩)) (by simp only [List.getElem?_toArray, List.getElem?_cons_succ, List.getElem?_cons_zero]; rfl) (by kernel_rfl) (by kernel_rfl) (by kernel_rfl) (by intro _ _ _ h; exact h) (Or.inl ⟨by rfl, fun w hS => by go_simp⟩) hH ?_
      simp only [Act.put, List.setIfInBounds_toArray, List.set_cons_zero, List.set_cons_succ]
      refine wpAnyH_take (i := 4) (v := .int .i64 (av : Int)) (by simp only [List.getElem?_toArray, List.getElem?_cons_succ, List.getElem?_cons_zero]; rfl) (by kernel_rfl) (by kernel_rfl) (by kernel_rfl) (by intro _ _ _ h; exact h) (Or.inl ⟨by rfl, fun w hS => by (have y0 := cell_kept hS.1 q5.out; go_simp)⟩) hH ?_
      simp only [Act.put, List.setIfInBounds_toArray, List.set_cons_zero, List.set_cons_succ]
      refine wpAnyH_take (i := 5) (v := .pointer (some ⟨ga, 1, none⟩)) (by simp only [List.getElem?_toArray, List.getElem?_cons_succ, List.getElem?_cons_zero]; rfl) (by kernel_rfl) (by kernel_rfl) (by kernel_rfl) (by intro _ _ _ h; exact h) (Or.inl ⟨by rfl, fun w hS => by go_simp⟩) hH ?_
      simp only [Act.put, List.setIfInBounds_toArray, List.set_cons_zero, List.set_cons_succ]
      refine wpAnyH_take (i := 6) (v := .int .i64 (sv : Int)) (by simp only [List.getElem?_toArray, List.getElem?_cons_succ, List.getElem?_cons_zero]; rfl) (by kernel_rfl) (by kernel_rfl) (by kernel_rfl) (by intro _ _ _ h; exact h) (Or.inl ⟨by rfl, fun w hS => by (obtain ⟨⟨f0, f1, f2, f3⟩, -⟩ := var4_facts hS.2; go_simp)⟩) hH ?_
      simp only [Act.put, List.setIfInBounds_toArray, List.set_cons_zero, List.set_cons_succ]
      refine wpAnyH_ready (rs := [7]) (by kernel_rfl) (by simp) ?_
      refine AllReadyH.cons (by simp only [List.getElem?_toArray, List.getElem?_cons_succ, List.getElem?_cons_zero]; rfl) (fun K hK => ?_) AllReadyH.nil
      go_simp
      refine (ipw_ok av sv _ z3.out z4.out z6.out z5.out).mono ?_
      rintro e xp ⟨vp, rfl, hO, hM⟩
      obtain ⟨pp, cp, rfl, -, -, -⟩ := hO.rd.parts
      refine hK.out _ _ ⟨hH.1.trans (hM.mono hH.1.size), var_below hM hH.2⟩ (fun hH => ?_)
      clear hK K
      replace OA := hid (OA.out.below hM)
      replace R := hid (R.out.below hM)
      have RP := hid hO.rd
      clear hO hM
      refine wpAnyH_take (i := 8) (v := .slice pp (packL av sv).length cp) (by simp only [List.getElem?_toArray, List.getElem?_cons_succ, List.getElem?_cons_zero]; rfl) (by kernel_rfl) (by kernel_rfl) (by kernel_rfl) (by intro _ _ _ h; exact h) (Or.inl ⟨by rfl, fun w hS => by (have hf1 := fldB; go_simp)⟩) hH ?_
      simp only [Act.put, List.setIfInBounds_toArray, List.set_cons_zero, List.set_cons_succ]
      refine wpAnyH_ready (rs := [9]) (by kernel_rfl) (by simp) ?_
      refine AllReadyH.cons (by simp only [List.getElem?_toArray, List.getElem?_cons_succ, List.getElem?_cons_zero]; rfl) (fun K hK => ?_) AllReadyH.nil
      refine step_app (by rfl) _ _ (by rfl) _ _ ([5] ++ pkL zs j) (packL av sv) w.heap.size (by rfl) (by rfl) OA.out RP.out (by rw [List.length_append, packL_len]; simp; have := PL.out; have := z4.out; omega) hH.1.size ?_
      intro vq xq hO hG
      refine hK.out _ _ ⟨hH.1.grown hG hH.1.size (OA.out.row (Nat.le_refl _)), var_grown hG hH.2 (tag_ne8 OA.out hH.2)⟩ (fun hH => ?_)
      replace R := hid (R.out.grown OA.out hG)
      clear hK K hG OA RP
      have OA := hid hO
      clear hO
      refine wpAnyH_take (i := 10) (v := vq) (by simp only [List.getElem?_toArray, List.getElem?_cons_succ, List.getElem?_cons_zero]; rfl) (by kernel_rfl) (by kernel_rfl) (by kernel_rfl) (by intro _ _ _ h; exact h) (Or.inl ⟨by rfl, fun w hS => by go_simp⟩) hH ?_
      simp only [Act.put, List.setIfInBounds_toArray, List.set_cons_zero, List.set_cons_succ]
      refine wpAnyH_done (by kernel_rfl) ?_ _
      replace BL := hid hH.1
      clear hH
      try clear f0 f1 f2 f3 q4
      rw [List.append_assoc, ← PS.out] at OA
      go_wp2
      go_roundw
      case rel => exact ⟨j + 1, hlt, by go_num, OA, R, BL⟩
      case measure => simp [intOf]; omega
    · have hje : j = ns.length := by omega
      subst hje
      rw [← hzl] at OA

      have v2 := cell_kept BL.out (show w.cell? ⟨gw, 2, none⟩ = some (.slice a l.length c) from (cell_of_row w gw 2 _ _ _ V.out).trans rfl)
      have PL2 := hid (pkL_len zs (fun z hz => by obtain ⟨i, hi, rfl⟩ := List.getElem_of_mem hz; exact (HZ.out.2 i (by omega) hi).2.2.2.1) zs.length)
      have BS := hid BL.out.size
      go_wp2_with (at_builtin; refine list_app rfl _ _ rfl _ _ ([5] ++ pkL zs zs.length) l w.heap.size rfl rfl OA.out (HL.out.below BL.out) (by rw [List.length_append]; simp; have := PL2.out; omega) BS.out ?_; intro v3 w3 O G)
      have B3 := hid (BL.out.grown G BL.out.size (OA.out.row (Nat.le_refl _)))
      replace O := hid O
      clear G
      go_wp2
      go_ret
      exact ⟨_, rfl, O.out, B3.out⟩
end Go.Proofs.Ytifgcffifffdnam.W
