/-
  How the exact laws measure, copy and compare slices of messages.
-/
import Derived.Test.YtifgcffifffdnamMlP
import Derived.Test.YtifgcffifffdnamMgL
namespace Go.Proofs.Ytifgcffifffdnam.W
open Go.ChangeShapes Go.WideShapes Go.ChangeAt Go.RowKit
open Go.Proofs.Ytifgcffifffdnam.M

theorem idx_ml (b o n c j : Nat) (hj : j < n) (w : World) : (Instr.indexAt 65 (.slice (some ⟨b, o, none⟩) n c) (.int .i64 (j : Int))).run Try.prog w = .ok (.pointer (some ⟨b, o + j * 10, none⟩)) w := by
  have hs : ∀ w : World, (sizeOf (Try.prog.elem 65)).run Try.prog w = .ok 10 w := fun _ => by kernel_rfl
  rw [run_indexAt_slice (P := Try.prog) w 65 _ n c .i64 (j : Int) (by kernel_rfl)]
  simp [hs, hj, Result.andThen, Addr.add_lit]
theorem idx_mi (b o n c j : Nat) (hj : j < n) (w : World) : (Instr.indexAt 55 (.slice (some ⟨b, o, none⟩) n c) (.int .i64 (j : Int))).run Try.prog w = .ok (.pointer (some ⟨b, o + j * 10, none⟩)) w := by
  have hs : ∀ w : World, (sizeOf (Try.prog.elem 55)).run Try.prog w = .ok 10 w := fun _ => by kernel_rfl
  rw [run_indexAt_slice (P := Try.prog) w 55 _ n c .i64 (j : Int) (by kernel_rfl)]
  simp [hs, hj, Result.andThen, Addr.add_lit]
/-- What is left of so much behind all that a slice of messages has; -1 where there is not so much. -/
def szQ (left : Int) (ms : List Msg) : Int := if left < ms.length + totM ms then -1 else left - (ms.length + totM ms)
set_option maxHeartbeats 1000000 in
set_option maxRecDepth 100000 in
theorem szMS (v : Value) (ms : List Msg) (left : Int) (w : World) (h : RdM w v ms) (h0 : 0 ≤ left) (h1 : left ≤ 1048576) :
    Calls Try.prog 36 #[v, .int .i64 left] w fun e w' => e = .returned (.int .i64 (szQ left ms)) ∧ Below w.heap.size w w' := by
  have H := hid h
  obtain ⟨a, cap, rfl, hc, hm, -⟩ := h.parts
  clear h
  unfold maxLen at hm
  by_cases hl : left - ms.length < 0
  · rw [show szQ left ms = -1 by rw [szQ, if_pos (by omega)]]
    go_enter Try.func36, Try.ntmps36
    go_wp2
    go_ret
    exact ⟨rfl, Below.refl _ _⟩
  · go_enter Try.func36, Try.ntmps36
    go_wp2_with fail
    go_loopw [1, 5] (fun s1 s4 ws => ∃ k : Nat, ∃ r : Int, k ≤ ms.length ∧ 0 ≤ r ∧ r ≤ left ∧ Hid (r = left - (ms.length + totM (ms.take k))) ∧ s1 = .int .i64 r ∧ s4 = .int .i64 k ∧ Hid (Below w.heap.size w ws)) (fun _ i _ => ms.length - (intOf i).toNat)
    case atStart => exact ⟨0, _, by omega, by omega, by omega, hid (by simp [totM]), rfl, rfl, hid (Below.refl _ _)⟩
    case round =>
      obtain ⟨k, r, hk, r0, r1, hr, rfl, rfl, BL⟩ := hrel
      by_cases hlt : k < ms.length
      · obtain ⟨a', cap', e, -, -, hcs⟩ := (H.out.below BL.out).parts
        cases e
        obtain ⟨b, o, u, rfl, q1, q3⟩ := hcs k hlt
        obtain ⟨pu, cu, rfl, hlu, hmu, -⟩ := q3.parts
        have T := hid (totM_take ms k hlt)
        have L := hid (totM_le ms (k + 1))
        have hn := show (ms[k]).l.length ≤ maxLen by omega
        obtain ⟨c0, c1, c2, c3, c4, c5, c6, c7, c8, c9⟩ := m_cells q1
        obtain ⟨n, en⟩ : ∃ n, n = (ms[k]).l.length := ⟨_, rfl⟩
        rw [← en] at c9 hn
        replace en := hid en
        have I1 := idx_ml b o ms.length cap k hlt
        have k0 : (0 : Int) ≤ (k : Int) := by omega
        have k1 : (k : Int) < (ms.length : Int) := by omega
        obtain ⟨M, hM⟩ : ∃ M, M = ms[k] := ⟨_, rfl⟩
        rw [← hM] at c0 c1 c2 c3 c4 c5 c6 c7 c8
        clear q1 q3 hcs hmu hlu hM
        go_wp2_with fail
        refine (szMg _ _ _ _ _ _ _ _ _ _ _ _ _ _ r0 (by omega) hn).mono ?_
        rintro e w' ⟨rfl, hB⟩
        replace BL := hid (BL.out.trans (hB.mono BL.out.size))
        clear hB c0 c1 c2 c3 c4 c5 c6 c7 c8 c9
        by_cases h : r - n < 0
        · have E := hid (show szN r n = -1 by rw [szN, if_pos h])
          have E2 : Hid (szQ left ms = -1) := by
            have h1 := hr.out
            have h2 := T.out
            have h3 := L.out
            have h4 := en.out
            show szQ left ms = -1
            rw [szQ, if_pos (by omega)]
          rw [E.out]
          go_wp2
          go_ret
          exact ⟨ret_cl E2.out.symm, BL.out⟩
        · have e : szN r n = r - n := by rw [szN, if_neg h]
          obtain ⟨r', hr'⟩ : ∃ r', r' = szN r n := ⟨_, rfl⟩
          have g : 0 ≤ r' := by rw [hr', e]; omega
          have g2 : r' ≤ left := by rw [hr', e]; omega
          have E : Hid (r' = left - (ms.length + totM (ms.take (k + 1)))) := by
            have h1 := hr.out
            have h2 := T.out
            have h4 := en.out
            show r' = _
            rw [hr', e]
            omega
          rw [← hr']
          clear e hr' h
          go_wp2
          go_roundw
          case rel => exact ⟨k + 1, r', hlt, g, g2, E, rfl, by go_num, BL⟩
          case measure => simp [intOf]; omega
      · have hke : k = ms.length := by omega
        subst hke
        have E : Hid (szQ left ms = r) := by
          have := hr.out
          rw [List.take_of_length_le (Nat.le_refl _)] at this
          show szQ left ms = r
          rw [szQ, if_neg (by omega), this]
        go_wp2
        go_ret
        exact ⟨ret_cl E.out.symm, BL.out⟩
/-- No message. -/
def zM : Msg := ⟨0, 0, 0, 0, 0, 0, 0, 0, 0, []⟩
/-- The first k are there. -/
def tkM (ms : List Msg) (k : Nat) : List Msg := ms.take k ++ List.replicate (ms.length - k) zM
theorem tkM_len (ms : List Msg) (k : Nat) (h : k ≤ ms.length) : (tkM ms k).length = ms.length := by simp [tkM]; omega
theorem tkM_set (ms : List Msg) (k : Nat) (h : k < ms.length) : (tkM ms k).set k ms[k] = tkM ms (k + 1) := by
  unfold tkM
  rw [List.take_succ_eq_append_getElem h, List.set_append_right _ _ (by simp; omega), List.length_take, show k - min k ms.length = 0 by omega, show ms.length - k = (ms.length - (k + 1)) + 1 by omega, List.replicate_succ, List.set_cons_zero, List.append_assoc]
  rfl
theorem tkM_end (ms : List Msg) : tkM ms ms.length = ms := by simp [tkM]
theorem made10 (n : Nat) : (madeCells (Value.agg #[.int .i64 0, .int .i64 0, .int .i64 0, .int .i64 0, .int .i64 0, .int .i64 0, .int .i64 0, .int .i64 0, .int .i64 0, .slice none 0 0]).cells (n * 10)).toList = rowL (List.replicate n zM) (List.replicate n (.slice none 0 0)) := by
  apply List.ext_getElem?
  intro i
  by_cases hi : i < n * 10
  · have h1 := rowL_get (List.replicate n zM) (List.replicate n (.slice none 0 0)) (by simp) (i / 10) (by simp; omega) (i % 10) (by omega)
    rw [show i / 10 * 10 + i % 10 = i by omega] at h1
    rw [h1]
    have h2 : ∀ t, t < 10 → some ((Value.agg #[.int .i64 0, .int .i64 0, .int .i64 0, .int .i64 0, .int .i64 0, .int .i64 0, .int .i64 0, .int .i64 0, .int .i64 0, .slice none 0 0]).cells[t]!) = (mrow zM (.slice none 0 0))[t]? := fun t ht => by
      match t, ht with
      | 0, _ => rfl
      | 1, _ => rfl
      | 2, _ => rfl
      | 3, _ => rfl
      | 4, _ => rfl
      | 5, _ => rfl
      | 6, _ => rfl
      | 7, _ => rfl
      | 8, _ => rfl
      | 9, _ => rfl
    have h3 := h2 (i % 10) (by omega)
    simp only [List.getElem_replicate]
    rw [← h3]
    simp [madeCells, hi, Value.cells]
  · rw [List.getElem?_eq_none (by simp [madeCells]; omega), List.getElem?_eq_none (by rw [rowL_len _ _ (by simp)]; simp; omega)]
theorem infoM : (Try.prog.info? 45).map (fun i => (i.zero, i.size, i.bytes)) = some (some (.agg #[.int .i64 0, .int .i64 0, .int .i64 0, .int .i64 0, .int .i64 0, .int .i64 0, .int .i64 0, .int .i64 0, .int .i64 0, .slice none 0 0]), 10, 96) := by kernel_rfl
theorem oms_made {w w0 : World} {n : Nat} (h : w0.ownsRow w.heap.size 45 10 (.slice (some ⟨w.heap.size, 0, none⟩) n n) n (madeCells (Value.agg #[.int .i64 0, .int .i64 0, .int .i64 0, .int .i64 0, .int .i64 0, .int .i64 0, .int .i64 0, .int .i64 0, .int .i64 0, .slice none 0 0]).cells (n * 10)).toList) :
    OMs w0 w.heap.size w0.heap.size (.slice (some ⟨w.heap.size, 0, none⟩) n n) (List.replicate n zM) := by
  rw [made10] at h
  refine ⟨List.replicate n (.slice none 0 0), by simp, by rw [List.length_replicate]; exact h, fun g e => (World.ownsRow.lt h g e).2, fun i hi hi' => ?_, fun i j hi hj a hij ea => ?_⟩
  · simp only [List.getElem_replicate]
    exact ⟨OB.nil _ _ _, fun b e => by cases e⟩
  · simp only [List.getElem_replicate] at ea
    cases ea
set_option maxHeartbeats 2000000 in
set_option maxRecDepth 100000 in
theorem toMS (v : Value) (ms : List Msg) (w : World) (h : RdM w v ms) (hl : ms.length + totM ms ≤ 1048576) :
    Calls Try.prog 38 #[v] w fun e w' => ∃ g, e = .returned (.slice (some ⟨g, 0, none⟩) ms.length ms.length) ∧ OMs w' w.heap.size w'.heap.size (.slice (some ⟨g, 0, none⟩) ms.length ms.length) ms ∧ Below w.heap.size w w' := by
  have H := hid h
  obtain ⟨a, cap, rfl, hc, hm, -⟩ := h.parts
  clear h
  obtain ⟨i0, hi, hz0, hz1, hz2⟩ := info_parts infoM
  go_enter Try.func38, Try.ntmps38
  go_wp2_with (at_make; refine wpList_make_full _ rfl _ _ 55 rfl w.heap.size 45 i0 (.agg #[.int .i64 0, .int .i64 0, .int .i64 0, .int .i64 0, .int .i64 0, .int .i64 0, .int .i64 0, .int .i64 0, .int .i64 0, .slice none 0 0]) 10 Try.underlying55 hi hz0 hz1 .i64 .i64 _ _ ms.length rfl rfl rfl rfl (by rw [hz2]; omega) (by unfold maxLen; omega) (Nat.le_refl _) ?_)
  intro w0 hown0 hgrow0
  have F0 : Hid (OMs w0 w.heap.size w0.heap.size (.slice (some ⟨w.heap.size, 0, none⟩) ms.length ms.length) (tkM ms 0)) := hid (by simpa [tkM] using oms_made hown0)
  have B0 := hid (below_of_grown hgrow0 (Nat.le_refl _) (fun k hk => by simp at hk))
  clear hown0 hgrow0 hi hz0 hz1 hz2
  go_wp2_with fail
  go_loopw [4] (fun i wr => ∃ k : Nat, k ≤ ms.length ∧ i = .int .i64 k ∧ Hid (OMs wr w.heap.size wr.heap.size (.slice (some ⟨w.heap.size, 0, none⟩) ms.length ms.length) (tkM ms k)) ∧ Hid (Below w.heap.size w wr)) (fun i _ => ms.length - (intOf i).toNat)
  case atStart => exact ⟨0, by omega, rfl, F0, B0⟩
  case round =>
    obtain ⟨k, hk, rfl, FL, BL⟩ := hrel
    clear F0 B0
    by_cases hlt : k < ms.length
    · obtain ⟨a', cap', e, -, -, hcs⟩ := (H.out.below BL.out).parts
      cases e
      obtain ⟨b, o, u, rfl, q1, q3⟩ := hcs k hlt
      obtain ⟨pu, cu, rfl, -, -, -⟩ := q3.parts
      have RU := hid q3
      have hn : (ms[k]).l.length ≤ 1048576 := by have := totM_at ms k hlt; omega
      obtain ⟨c0, c1, c2, c3, c4, c5, c6, c7, c8, c9⟩ := m_cells q1
      have I1 := idx_ml b o ms.length cap k hlt
      have I2 := idx_mi w.heap.size 0 ms.length ms.length k hlt
      rw [Nat.zero_add] at I2
      have k0 : (0 : Int) ≤ (k : Int) := by omega
      have k1 : (k : Int) < (ms.length : Int) := by omega
      have TS := hid (tkM_set ms k hlt)
      have TL := hid (tkM_len ms k hk)
      obtain ⟨M, hM⟩ : ∃ M, M = ms[k] := ⟨_, rfl⟩
      rw [← hM] at c0 c1 c2 c3 c4 c5 c6 c7 c8 c9 RU hn TS
      clear q1 q3 hcs hM
      go_wp2_with fail
      refine (toM _ _ _ _ _ _ _ _ _ _ _ _ RU.out hn).mono ?_
      rintro e w1 ⟨g', rfl, hO, hB⟩
      have FN := hid (FL.out.put TL.out k (by rw [TL.out]; exact hlt) M _ hB hO)
      rw [TS.out] at FN
      obtain ⟨u2, d, fz, -, -, -, -⟩ := (FL.out.below hB).open TL.out k (by rw [TL.out]; exact hlt)
      obtain ⟨d0, d1, d2, d3, d4, d5, d6, d7, d8, d9⟩ := m_cells d
      have z0 := fz (k * 10)
      have z1 := fz (k * 10 + 1)
      have z2 := fz (k * 10 + 2)
      have z3 := fz (k * 10 + 3)
      have z4 := fz (k * 10 + 4)
      have z5 := fz (k * 10 + 5)
      have z6 := fz (k * 10 + 6)
      have z7 := fz (k * 10 + 7)
      have z8 := fz (k * 10 + 8)
      have z9 := fz (k * 10 + 9)
      have BN := hid (show Below w.heap.size w ((st9 w1 w.heap.size (k * 10) M).setCell ⟨w.heap.size, k * 10 + 9, none⟩ (.slice (some ⟨g', 0, none⟩) M.l.length M.l.length)) from ((BL.out.trans (hB.mono BL.out.size)).grown (st9_grown w1 w.heap.size (k * 10) M) (BL.out.trans (hB.mono BL.out.size)).size (fun b e => by cases e; exact Nat.le_refl _)).setCell (p := ⟨w.heap.size, k * 10 + 9, none⟩) (Nat.le_refl _) _)
      unfold st9 at FN BN
      clear hO hB FL BL RU d fz c0 c1 c2 c3 c4 c5 c6 c7 c8 c9
      generalize M.l.length = n' at *
      go_wp2
      go_roundw
      case rel => exact ⟨k + 1, hlt, by go_num, FN, BN⟩
      case measure => simp [intOf]; omega
    · have hke : k = ms.length := by omega
      subst hke
      rw [tkM_end] at FL
      go_wp2
      go_ret
      exact ⟨_, rfl, FL.out, BL.out⟩
set_option maxHeartbeats 1000000 in
set_option maxRecDepth 100000 in
theorem eqMS (va vb : Value) (ms : List Msg) (w : World) (ha : RdM w va ms) (hb : RdM w vb ms) (hl : ms.length + totM ms ≤ 1048576) :
    Calls Try.prog 40 #[va, vb] w fun e w' => e = .returned (.bool true) ∧ Below w.heap.size w w' := by
  have HA := hid ha
  have HB := hid hb
  obtain ⟨a, ca, rfl, -, -, -⟩ := ha.parts
  obtain ⟨b, cb, rfl, -, -, -⟩ := hb.parts
  clear ha hb
  go_enter Try.func40, Try.ntmps40
  go_wp2_with fail
  go_loopw [5] (fun i wr => ∃ k : Nat, k ≤ ms.length ∧ i = .int .i64 k ∧ Hid (Below w.heap.size w wr)) (fun i _ => ms.length - (intOf i).toNat)
  case atStart => exact ⟨0, by omega, rfl, hid (Below.refl _ _)⟩
  case round =>
    obtain ⟨k, hk, rfl, BL⟩ := hrel
    by_cases hlt : k < ms.length
    · obtain ⟨a', ca', e, -, -, hcs⟩ := (HA.out.below BL.out).parts
      cases e
      obtain ⟨ba, oa, ua, rfl, q1, q3⟩ := hcs k hlt
      obtain ⟨pu, cu, rfl, -, -, -⟩ := q3.parts
      obtain ⟨b', cb', e, -, -, hcs2⟩ := (HB.out.below BL.out).parts
      cases e
      obtain ⟨bb, ob, ub, rfl, r1, r3⟩ := hcs2 k hlt
      obtain ⟨pv, cv, rfl, -, -, -⟩ := r3.parts
      have RA := hid q3
      have RB := hid r3
      have hn : (ms[k]).l.length ≤ 1048576 := by have := totM_at ms k hlt; omega
      obtain ⟨c0, c1, c2, c3, c4, c5, c6, c7, c8, c9⟩ := m_cells q1
      obtain ⟨d0, d1, d2, d3, d4, d5, d6, d7, d8, d9⟩ := m_cells r1
      have I1 := idx_mi ba oa ms.length ca k hlt
      have I2 := idx_mi bb ob ms.length cb k hlt
      have k0 : (0 : Int) ≤ (k : Int) := by omega
      have k1 : (k : Int) < (ms.length : Int) := by omega
      obtain ⟨M, hM⟩ : ∃ M, M = ms[k] := ⟨_, rfl⟩
      rw [← hM] at c0 c1 c2 c3 c4 c5 c6 c7 c8 c9 d0 d1 d2 d3 d4 d5 d6 d7 d8 d9 RA RB hn
      clear q1 q3 r1 r3 hcs hcs2 hM
      go_wp2_with fail
      refine wp_region_held_drew (S := fun w' => Below wr.heap.size wr w') (by kernel_rfl) (Below.refl _ _).drew (fun hH => ?_)
      refine wpAnyH_take (i := 0) (v := .slice (some ⟨ba, oa, none⟩) ms.length ca) (by simp only [List.getElem?_toArray, List.getElem?_cons_zero]; rfl) (by kernel_rfl) (by kernel_rfl) (by kernel_rfl) (by intro _ _ _ h; exact h) (Or.inl ⟨by rfl, fun w hS => by go_simp⟩) hH ?_
      simp only [Act.put, List.setIfInBounds_toArray, List.set_cons_zero, List.set_cons_succ]
      refine wpAnyH_take (i := 1) (v := .int .i64 (k : Int)) (by simp only [List.getElem?_toArray, List.getElem?_cons_succ, List.getElem?_cons_zero]; rfl) (by kernel_rfl) (by kernel_rfl) (by kernel_rfl) (by intro _ _ _ h; exact h) (Or.inl ⟨by rfl, fun w hS => by go_simp⟩) hH ?_
      simp only [Act.put, List.setIfInBounds_toArray, List.set_cons_zero, List.set_cons_succ]
      refine wpAnyH_take (i := 2) (v := .pointer (some ⟨ba, oa + k * 10, none⟩)) (by simp only [List.getElem?_toArray, List.getElem?_cons_succ, List.getElem?_cons_zero]; rfl) (by kernel_rfl) (by kernel_rfl) (by kernel_rfl) (by intro _ _ _ h; exact h) (Or.inl ⟨by rfl, fun w hS => by go_simp⟩) hH ?_
      simp only [Act.put, List.setIfInBounds_toArray, List.set_cons_zero, List.set_cons_succ]
      refine wpAnyH_take (i := 3) (v := .agg #[.int .i64 M.k, .int .i64 M.s, .int .i64 M.n, .int .i64 M.cn, .int .i64 M.ci, .int .i64 M.cs, .int .i64 M.cm, .int .i64 M.op, .int .i64 M.id, .slice pu M.l.length cu]) (by simp only [List.getElem?_toArray, List.getElem?_cons_succ, List.getElem?_cons_zero]; rfl) (by kernel_rfl) (by kernel_rfl) (by kernel_rfl) (by intro _ _ _ h; exact h) (Or.inl ⟨by rfl, fun w hS => by (have y0 := cell_kept hS c0; have y1 := cell_kept hS c1; have y2 := cell_kept hS c2; have y3 := cell_kept hS c3; have y4 := cell_kept hS c4; have y5 := cell_kept hS c5; have y6 := cell_kept hS c6; have y7 := cell_kept hS c7; have y8 := cell_kept hS c8; have y9 := cell_kept hS c9; go_simp)⟩) hH ?_
      simp only [Act.put, List.setIfInBounds_toArray, List.set_cons_zero, List.set_cons_succ]
      refine wpAnyH_take (i := 4) (v := .slice (some ⟨bb, ob, none⟩) ms.length cb) (by simp only [List.getElem?_toArray, List.getElem?_cons_succ, List.getElem?_cons_zero]; rfl) (by kernel_rfl) (by kernel_rfl) (by kernel_rfl) (by intro _ _ _ h; exact h) (Or.inl ⟨by rfl, fun w hS => by go_simp⟩) hH ?_
      simp only [Act.put, List.setIfInBounds_toArray, List.set_cons_zero, List.set_cons_succ]
      refine wpAnyH_take (i := 5) (v := .int .i64 (k : Int)) (by simp only [List.getElem?_toArray, List.getElem?_cons_succ, List.getElem?_cons_zero]; rfl) (by kernel_rfl) (by kernel_rfl) (by kernel_rfl) (by intro _ _ _ h; exact h) (Or.inl ⟨by rfl, fun w hS => by go_simp⟩) hH ?_
      simp only [Act.put, List.setIfInBounds_toArray, List.set_cons_zero, List.set_cons_succ]
      refine wpAnyH_take (i := 6) (v := .pointer (some ⟨bb, ob + k * 10, none⟩)) (by simp only [List.getElem?_toArray, List.getElem?_cons_succ, List.getElem?_cons_zero]; rfl) (by kernel_rfl) (by kernel_rfl) (by kernel_rfl) (by intro _ _ _ h; exact h) (Or.inl ⟨by rfl, fun w hS => by go_simp⟩) hH ?_
      simp only [Act.put, List.setIfInBounds_toArray, List.set_cons_zero, List.set_cons_succ]
      refine wpAnyH_take (i := 7) (v := .agg #[.int .i64 M.k, .int .i64 M.s, .int .i64 M.n, .int .i64 M.cn, .int .i64 M.ci, .int .i64 M.cs, .int .i64 M.cm, .int .i64 M.op, .int .i64 M.id, .slice pv M.l.length cv]) (by simp only [List.getElem?_toArray, List.getElem?_cons_succ, List.getElem?_cons_zero]; rfl) (by kernel_rfl) (by kernel_rfl) (by kernel_rfl) (by intro _ _ _ h; exact h) (Or.inl ⟨by rfl, fun w hS => by (have y0 := cell_kept hS d0; have y1 := cell_kept hS d1; have y2 := cell_kept hS d2; have y3 := cell_kept hS d3; have y4 := cell_kept hS d4; have y5 := cell_kept hS d5; have y6 := cell_kept hS d6; have y7 := cell_kept hS d7; have y8 := cell_kept hS d8; have y9 := cell_kept hS d9; go_simp)⟩) hH ?_
      simp only [Act.put, List.setIfInBounds_toArray, List.set_cons_zero, List.set_cons_succ]
      refine wpAnyH_ready (rs := [8]) (by kernel_rfl) (by simp) ?_
      refine AllReadyH.cons (by simp only [List.getElem?_toArray, List.getElem?_cons_succ, List.getElem?_cons_zero]; rfl) (fun K hK => ?_) AllReadyH.nil
      go_simp
      refine (eqM _ _ _ _ _ _ _ _ _ _ _ M.l _ (RA.out.below hH) (RB.out.below hH) hn).mono ?_
      rintro e x8 ⟨rfl, hM⟩
      refine hK.out _ _ (hH.trans (hM.mono hH.size)) (fun hH => ?_)
      clear hK K
      clear hM
      refine wpAnyH_take (i := 9) (v := .bool false) (by simp only [List.getElem?_toArray, List.getElem?_cons_succ, List.getElem?_cons_zero]; rfl) (by kernel_rfl) (by kernel_rfl) (by kernel_rfl) (by intro _ _ _ h; exact h) (Or.inl ⟨by rfl, fun w hS => by go_simp⟩) hH ?_
      simp only [Act.put, List.setIfInBounds_toArray, List.set_cons_zero, List.set_cons_succ]
      refine wpAnyH_done (by kernel_rfl) ?_ _
      replace BL := hid (BL.out.trans (hH.mono BL.out.size))
      clear hH c0 d0 c1 d1 c2 d2 c3 d3 c4 d4 c5 d5 c6 d6 c7 d7 c8 d8 c9 d9
      go_wp2
      go_roundw
      case rel => exact ⟨k + 1, hlt, by go_num, BL⟩
      case measure => simp [intOf]; omega
    · have hke : k = ms.length := by omega
      subst hke
      go_wp2
      go_ret
      exact ⟨rfl, BL.out⟩
end Go.Proofs.Ytifgcffifffdnam.W
