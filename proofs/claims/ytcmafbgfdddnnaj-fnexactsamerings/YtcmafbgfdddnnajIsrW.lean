/-
  Rings that are the same: what the program's SameRings answers.
-/
import Derived.Test.YtcmafbgfdddnnajSrsW
namespace Go.Proofs.Ytcmafbgfdddnnaj.W
open Go.ChangeShapes Go.WideShapes Go.ChangeAt Go.RowKit
open Go.Proofs.Ytcmafbgfdddnnaj.M

theorem idx_kr (b o n c j : Nat) (hj : j < n) (w : World) : (Instr.indexAt 32 (.slice (some ⟨b, o, none⟩) n c) (.int .i64 (j : Int))).run Try.prog w = .ok (.pointer (some ⟨b, o + j * 2, none⟩)) w := by
  have hs : ∀ w : World, (sizeOf (Try.prog.elem 32)).run Try.prog w = .ok 2 w := fun _ => by kernel_rfl
  rw [run_indexAt_slice (P := Try.prog) w 32 _ n c .i64 (j : Int) (by kernel_rfl)]
  simp [hs, hj, Result.andThen, Addr.add_lit]
set_option maxRecDepth 100000 in
theorem isk (ia ib : Int) (va vb : Value) (la lb : List Nat) (w : World) (ha : Rd w va la) (hb : Rd w vb lb) :
    Calls Try.prog 64 #[.agg #[.int .i64 ia, va], .agg #[.int .i64 ib, vb]] w fun e w' => e = .returned (.bool (sm1 (ia, la) (ib, lb))) ∧ Below w.heap.size w w' := by
  have RA := hid ha
  have RB := hid hb
  obtain ⟨a, ca, rfl, -, -, -⟩ := ha.parts
  obtain ⟨b, cb, rfl, -, -, -⟩ := hb.parts
  clear ha hb
  by_cases e : ia = ib
  · subst e
    have E := hid (show sm1 (ia, la) (ia, lb) = sameS la lb by simp [sm1])
    go_enter Try.func64, Try.ntmps64
    go_wp2_with fail
    refine (samei _ _ la lb _ (RA.out.below (below_alloc2 w _ _)) (RB.out.below (below_alloc2 w _ _))).mono ?_
    rintro e w' ⟨rfl, rfl⟩
    go_wp2
    go_ret
    exact ⟨congrArg (fun z => Ending.returned (.bool z)) E.out.symm, below_alloc2 w _ _⟩
  · have E := hid (show sm1 (ia, la) (ib, lb) = false by simp [sm1, e])
    have ne : (ia == ib) = false := beq_eq_false_iff_ne.2 e
    replace e := hid e
    go_enter Try.func64, Try.ntmps64
    go_wp2
    go_ret
    exact ⟨congrArg (fun z => Ending.returned (.bool z)) E.out.symm, below_alloc2 w _ _⟩
set_option maxHeartbeats 2000000 in
set_option maxRecDepth 100000 in
theorem eqf (va vb : Value) (ks ms : List (Int × List Nat)) (w : World) (ha : RdK w va ks) (hb : RdK w vb ms) (hl : ks.length ≤ 1048576) :
    Calls Try.prog 63 #[va, vb, .func (.func 64) #[] #[]] w fun e w' => e = .returned (.bool (ks.length == ms.length && smTo ks ms ks.length)) ∧ Below w.heap.size w w' := by
  have HA := hid ha
  have HB := hid hb
  obtain ⟨a, ca, rfl, -, -, -⟩ := ha.parts
  obtain ⟨b, cb, rfl, -, -, -⟩ := hb.parts
  clear ha hb
  by_cases el : ms.length = ks.length
  · have E := hid (show (ks.length == ks.length && smTo ks ms ks.length) = smTo ks ms ks.length by simp)
    rw [el]
    replace el := hid el
    go_enter Try.func63, Try.ntmps63
    go_wp2_with fail
    go_loopw [7, 8, 9, 17] (fun s7 s8 s9 i wr => ∃ k : Nat, ∃ u7 u8 u9 : Value, k ≤ ks.length ∧ i = .int .i64 k ∧ s7 = u7 ∧ s8 = u8 ∧ s9 = u9 ∧ Hid (smTo ks ms k = true) ∧ Hid (Below w.heap.size w wr)) (fun _ _ _ i _ => ks.length - (intOf i).toNat)
    case atStart => exact ⟨0, _, _, _, by omega, rfl, rfl, rfl, rfl, hid (by simp [smTo]), hid (Below.refl _ _)⟩
    case round =>
      obtain ⟨k, v7, v8, v9, hk, rfl, rfl, rfl, rfl, T, BL⟩ := hrel
      by_cases hlt : k < ks.length
      · obtain ⟨a', ca', e, -, -, hcs⟩ := (HA.out.below BL.out).parts
        cases e
        obtain ⟨ba, oa, ua, rfl, q1, q2, q3⟩ := hcs k hlt
        obtain ⟨pu, cu, rfl, -, -, -⟩ := q3.parts
        have hlm : k < ms.length := by rw [el.out]; exact hlt
        obtain ⟨b', cb', e, -, -, hcs'⟩ := (HB.out.below BL.out).parts
        rw [el.out] at e
        cases e
        obtain ⟨bb, ob, ub, rfl, t1, t2, t3⟩ := hcs' k hlm
        obtain ⟨pv, cv, rfl, -, -, -⟩ := t3.parts
        have RU := hid q3
        have RV := hid t3
        have TS := hid (smTo_succ ks ms k hlt hlm)
        have I1 := idx_kr ba oa ks.length ca k hlt
        have I2 := idx_kr bb ob ks.length cb k hlt
        have k0 : (0 : Int) ≤ (k : Int) := by omega
        have k1 : (k : Int) < (ks.length : Int) := by omega
        have T1 := fun x => cell_alloc t1 x
        have T2 := fun x => cell_alloc t2 x
        clear q3 hcs t3 hcs'
        go_wp2_with fail
        refine (isk _ _ _ _ _ _ _ (RU.out.below (below_alloc2 wr _ _)) (RV.out.below (below_alloc2 wr _ _))).mono ?_
        rintro e w' ⟨rfl, hB⟩
        have BB := hid (BL.out.trans (((below_alloc2 wr _ _).trans (hB.mono (by simp; omega))).mono BL.out.size))
        have EB : sm1 ((ks[k]).1, (ks[k]).2) ((ms[k]).1, (ms[k]).2) = sm1 ks[k] ms[k] := rfl
        rw [EB]
        clear EB hB t1 t2 q1 q2 T1 T2
        cases hs : sm1 ks[k] ms[k]
        · have E2 := hid (show (ks.length == ks.length && smTo ks ms ks.length) = false by rw [E.out]; exact smTo_no ks ms k _ hlt (by rw [TS.out, hs]; simp))
          go_wp2
          go_ret
          exact ⟨congrArg (fun z => Ending.returned (.bool z)) E2.out.symm, BB.out⟩
        · have T2 := hid (show smTo ks ms (k + 1) = true by rw [TS.out, hs, T.out]; rfl)
          go_wp2
          go_roundw
          case rel => exact ⟨k + 1, _, _, _, hlt, by go_num, rfl, rfl, rfl, T2, BB⟩
          case measure => simp [intOf]; omega
      · have hke : k = ks.length := by omega
        subst hke
        have E2 := hid (show (ks.length == ks.length && smTo ks ms ks.length) = true by rw [E.out]; exact T.out)
        go_wp2
        go_ret
        exact ⟨congrArg (fun z => Ending.returned (.bool z)) E2.out.symm, BL.out⟩
  · have E := hid (show (ks.length == ms.length && smTo ks ms ks.length) = false by rw [beq_eq_false_iff_ne.2 (fun h => el h.symm)]; rfl)
    have ne : ((ks.length : Int) != (ms.length : Int)) = true := by rw [bne_iff_ne]; omega
    replace el := hid el
    go_enter Try.func63, Try.ntmps63
    go_wp2
    go_ret
    exact ⟨congrArg (fun z => Ending.returned (.bool z)) E.out.symm, Below.refl _ _⟩
set_option maxRecDepth 100000 in
theorem isr (p q : Int) (va vb : Value) (ks ms : List (Int × List Nat)) (w : World) (ha : RdK w va ks) (hb : RdK w vb ms) (hl : ks.length ≤ 1048576) :
    Calls Try.prog 34 #[.agg #[.int .i64 p, va], .agg #[.int .i64 q, vb]] w fun e w' => e = .returned (.bool (smR p q ks ms)) ∧ Below w.heap.size w w' := by
  have HA := hid ha
  have HB := hid hb
  obtain ⟨a, ca, rfl, -, -, -⟩ := ha.parts
  obtain ⟨b, cb, rfl, -, -, -⟩ := hb.parts
  clear ha hb
  by_cases e : p = q
  · subst e
    go_enter Try.func34, Try.ntmps34
    go_wp2_with fail
    refine (eqf _ _ ks ms _ (HA.out.below (below_alloc2 w _ _)) (HB.out.below (below_alloc2 w _ _)) hl).mono ?_
    rintro e w' ⟨rfl, hB⟩
    have BB := hid ((below_alloc2 w _ _).trans (hB.mono (by simp; omega)))
    have E := hid (show smR p p ks ms = (ks.length == ms.length && smTo ks ms ks.length) by simp [smR])
    clear hB
    generalize (ks.length == ms.length && smTo ks ms ks.length) = t at *
    go_wp2
    go_ret
    exact ⟨congrArg (fun z => Ending.returned (.bool z)) E.out.symm, BB.out⟩
  · have E := hid (show smR p q ks ms = false by simp [smR, e])
    have ne : (p == q) = false := beq_eq_false_iff_ne.2 e
    replace e := hid e
    go_enter Try.func34, Try.ntmps34
    go_wp2
    go_ret
    exact ⟨congrArg (fun z => Ending.returned (.bool z)) E.out.symm, below_alloc2 w _ _⟩
end Go.Proofs.Ytcmafbgfdddnnaj.W
