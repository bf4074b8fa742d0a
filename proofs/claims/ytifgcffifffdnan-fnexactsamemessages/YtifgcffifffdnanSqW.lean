/-
  Slices of messages that are the same: what SameMessages of the program and of the model answers. Generated text.
-/
import Derived.Test.YtifgcffifffdnanSmmW
import Derived.Test.YtifgcffifffdnanMsL
import Derived.Test.YtifgcffifffdnanSqF
namespace Go.Proofs.Ytifgcffifffdnan.W
open Go.ChangeShapes Go.WideShapes Go.ChangeAt Go.RowKit
open Go.Proofs.Ytifgcffifffdnan.M

theorem ret_sq {a b : Bool} (h : a = b) : Ending.returned (.bool a) = .returned (.bool b) := by rw [h]
set_option maxHeartbeats 2000000 in
set_option maxRecDepth 100000 in
theorem eqfM (va vb : Value) (ks ms : List Msg) (w : World) (ha : RdM w va ks) (hb : RdM w vb ms) (hl : ks.length ≤ 1048576) :
    Calls Try.prog 26 #[va, vb, .func (.func 27) #[] #[]] w fun e w' => e = .returned (.bool (smA ks ms)) ∧ Below w.heap.size w w' := by
  have HA := hid ha
  have HB := hid hb
  obtain ⟨a, ca, rfl, -, -, -⟩ := ha.parts
  obtain ⟨b, cb, rfl, -, -, -⟩ := hb.parts
  clear ha hb
  by_cases el : ms.length = ks.length
  · have E := hid (show smA ks ms = smTo ks ms ks.length by rw [smA, el]; simp)
    rw [el]
    replace el := hid el
    go_enter Try.func26, Try.ntmps26
    go_wp2_with fail
    go_loopw [7, 8, 9, 17] (fun s7 s8 s9 i wr => ∃ k : Nat, ∃ u7 u8 u9 : Value, k ≤ ks.length ∧ i = .int .i64 k ∧ s7 = u7 ∧ s8 = u8 ∧ s9 = u9 ∧ Hid (smTo ks ms k = true) ∧ Hid (Below w.heap.size w wr)) (fun _ _ _ i _ => ks.length - (intOf i).toNat)
    case atStart => exact ⟨0, _, _, _, by omega, rfl, rfl, rfl, rfl, hid (by simp [smTo]), hid (Below.refl _ _)⟩
    case round =>
      obtain ⟨k, v7, v8, v9, hk, rfl, rfl, rfl, rfl, T, BL⟩ := hrel
      by_cases hlt : k < ks.length
      · obtain ⟨a', ca', e, -, -, hcs⟩ := (HA.out.below BL.out).parts
        cases e
        obtain ⟨ba, oa, ua, rfl, q1, q3⟩ := hcs k hlt
        obtain ⟨pu, cu, rfl, -, -, -⟩ := q3.parts
        have hlm : k < ms.length := by rw [el.out]; exact hlt
        obtain ⟨b', cb', e, -, -, hcs'⟩ := (HB.out.below BL.out).parts
        rw [el.out] at e
        cases e
        obtain ⟨bb, ob, ub, rfl, t1, t3⟩ := hcs' k hlm
        obtain ⟨pv, cv, rfl, -, -, -⟩ := t3.parts
        have RU := hid q3
        have RV := hid t3
        have TS := hid (smTo_succ ks ms k hlt hlm)
        have I1 := idx_mi ba oa ks.length ca k hlt
        have I2 := idx_mi bb ob ks.length cb k hlt
        have k0 : (0 : Int) ≤ (k : Int) := by omega
        have k1 : (k : Int) < (ks.length : Int) := by omega
        obtain ⟨A, hA⟩ : ∃ M, M = ks[k] := ⟨_, rfl⟩
        obtain ⟨B, hB'⟩ : ∃ M, M = ms[k] := ⟨_, rfl⟩
        rw [← hA] at q1 RU TS
        rw [← hB'] at t1 RV TS
        obtain ⟨c0, c1, c2, c3, c4, c5, c6, c7, c8, c9⟩ := m_cells q1
        obtain ⟨d0, d1, d2, d3, d4, d5, d6, d7, d8, d9⟩ := m_cells t1
        have e0 := fun x => cell_alloc c0 x
        have g0 := fun x => cell_alloc d0 x
        have e1 := fun x => cell_alloc c1 x
        have g1 := fun x => cell_alloc d1 x
        have e2 := fun x => cell_alloc c2 x
        have g2 := fun x => cell_alloc d2 x
        have e3 := fun x => cell_alloc c3 x
        have g3 := fun x => cell_alloc d3 x
        have e4 := fun x => cell_alloc c4 x
        have g4 := fun x => cell_alloc d4 x
        have e5 := fun x => cell_alloc c5 x
        have g5 := fun x => cell_alloc d5 x
        have e6 := fun x => cell_alloc c6 x
        have g6 := fun x => cell_alloc d6 x
        have e7 := fun x => cell_alloc c7 x
        have g7 := fun x => cell_alloc d7 x
        have e8 := fun x => cell_alloc c8 x
        have g8 := fun x => cell_alloc d8 x
        have e9 := fun x => cell_alloc c9 x
        have g9 := fun x => cell_alloc d9 x
        clear q1 q3 hcs t1 t3 hcs' hA hB'
        go_wp2_with fail
        refine (smm _ _ _ _ _ _ _ _ _ _ _ _ _ _ _ _ _ _ _ _ A.l B.l _ (RU.out.below (below_alloc2 wr _ _)) (RV.out.below (below_alloc2 wr _ _)) _ (smB_q A B)).mono ?_
        rintro e w' ⟨rfl, hB⟩
        have BB := hid (BL.out.trans (((below_alloc2 wr _ _).trans (hB.mono (by simp; omega))).mono BL.out.size))
        clear hB c0 d0 e0 g0 c1 d1 e1 g1 c2 d2 e2 g2 c3 d3 e3 g3 c4 d4 e4 g4 c5 d5 e5 g5 c6 d6 e6 g6 c7 d7 e7 g7 c8 d8 e8 g8 c9 d9 e9 g9
        obtain ⟨t, ht⟩ : ∃ t, t = smB A B := ⟨_, rfl⟩
        rw [← ht] at TS ⊢
        replace ht := hid ht
        cases t
        · have E2 := hid (show smA ks ms = false by rw [E.out]; exact smTo_no ks ms k _ hlt (by rw [TS.out]; simp))
          go_wp2
          go_ret
          exact ⟨ret_sq E2.out.symm, BB.out⟩
        · have T2 := hid (show smTo ks ms (k + 1) = true by rw [TS.out, T.out]; rfl)
          go_wp2
          go_roundw
          case rel => exact ⟨k + 1, _, _, _, hlt, by go_num, rfl, rfl, rfl, T2, BB⟩
          case measure => simp [intOf]; omega
      · have hke : k = ks.length := by omega
        subst hke
        have E2 := hid (show smA ks ms = true by rw [E.out]; exact T.out)
        go_wp2
        go_ret
        exact ⟨ret_sq E2.out.symm, BL.out⟩
  · have E := hid (show smA ks ms = false by rw [smA, beq_eq_false_iff_ne.2 (fun h => el h.symm)]; rfl)
    have ne : ((ks.length : Int) != (ms.length : Int)) = true := by rw [bne_iff_ne]; omega
    replace el := hid el
    go_enter Try.func26, Try.ntmps26
    go_wp2
    go_ret
    exact ⟨ret_sq E.out.symm, Below.refl _ _⟩
set_option maxRecDepth 100000 in
theorem isq (va vb : Value) (ks ms : List Msg) (w : World) (ha : RdM w va ks) (hb : RdM w vb ms) (hl : ks.length ≤ 1048576) :
    Calls Try.prog 16 #[va, vb] w fun e w' => e = .returned (.bool (smA ks ms)) ∧ Below w.heap.size w w' := by
  have HA := hid ha
  have HB := hid hb
  obtain ⟨a, ca, rfl, -, -, -⟩ := ha.parts
  obtain ⟨b, cb, rfl, -, -, -⟩ := hb.parts
  clear ha hb
  go_enter Try.func16, Try.ntmps16
  go_wp2_with fail
  refine (eqfM _ _ ks ms _ HA.out HB.out hl).mono ?_
  rintro e w' ⟨rfl, hB⟩
  have BB := hid hB
  clear hB
  obtain ⟨t, ht⟩ : ∃ t, t = smA ks ms := ⟨_, rfl⟩
  rw [← ht]
  replace ht := hid ht
  go_wp2
  go_ret
  exact ⟨ret_sq ht.out, BB.out⟩
end Go.Proofs.Ytifgcffifffdnan.W
