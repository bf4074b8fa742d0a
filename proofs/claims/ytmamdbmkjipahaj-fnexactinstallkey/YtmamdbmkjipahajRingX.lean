/-
  How the exact laws compare, mark and hold what is told of a ring.
-/
import Derived.Test.YtmamdbmkjipahajEqR
import Derived.Test.YtmamdbmkjipahajMkR
import Derived.Test.YtmamdbmkjipahajToR
namespace Go.Proofs.Ytmamdbmkjipahaj.W
open Go.ChangeShapes Go.WideShapes Go.ChangeAt Go.RowKit
open Go.Proofs.Ytmamdbmkjipahaj.M

set_option maxHeartbeats 1000000 in
set_option maxRecDepth 100000 in
theorem heldKS (v : Value) (ks : List (Int × List Nat)) (k : Nat) (w : World) (h : RdK w v (mkTo k ks ks.length)) (hl : ks.length + tot ks ≤ 1048576) (hk : k ≤ 8388608) :
    Calls Try.prog 72 #[v, .int .i64 (k : Int)] w fun e w' => e = .returned (.int .i64 ((k + (ks.length + tot ks) : Nat) : Int)) ∧ Below w.heap.size w w' := by
  have H := hid h
  have EL := hid (mkTo_len k ks ks.length (Nat.le_refl _))
  obtain ⟨a, cap, e, -, -, -⟩ := h.parts
  rw [EL.out] at e
  subst e
  clear h
  go_enter Try.func72, Try.ntmps72
  go_wp2
  go_loopw [1, 5] (fun kk i wr => ∃ j : Nat, j ≤ ks.length ∧ i = .int .i64 j ∧ kk = .int .i64 (kAt k ks j : Nat) ∧ Hid (Below w.heap.size w wr)) (fun _ i _ => ks.length - (intOf i).toNat)
  case atStart => exact ⟨0, by omega, rfl, by simp [kAt, tot], hid (Below.refl _ _)⟩
  case round =>
    obtain ⟨j, hj, rfl, rfl, BL⟩ := hrel
    by_cases hlt : j < ks.length
    · obtain ⟨a', ca', e, -, -, hcs⟩ := (H.out.below BL.out).parts
      rw [EL.out] at e
      cases e
      have hj' : j < (mkTo k ks ks.length).length := by rw [EL.out]; exact hlt
      obtain ⟨b, o, u, rfl, q1, q2, q3⟩ := hcs j hj'
      have ML := mkTo_low k ks ks.length j hj' hlt
      rw [mkAt_get k ks j hlt] at ML
      rw [ML] at q1 q3
      have KB := hid (kAt_le k ks j hj)
      have KS := hid (kAt_succ k ks j hlt)
      have HN := hid (tot_at ks j hlt)
      obtain ⟨q, hq⟩ : ∃ q, q = kAt k ks j := ⟨_, rfl⟩
      rw [← hq] at q1 q3 ⊢
      have Q := hid hq
      clear hq ML hcs
      have qb : q ≤ 16777215 := by have := KB.out; have := Q.out; omega
      have nl : (ks[j]).2.length ≤ 1048576 := by have := HN.out; omega
      have RU := hid q3
      obtain ⟨pu, cu, e, -, -, -⟩ := q3.parts
      simp only [marks_len] at e
      subst e
      have I2 := idx_km b o ks.length cap j hlt
      have k0 : (0 : Int) ≤ (j : Int) := by omega
      have k1 : (j : Int) < (ks.length : Int) := by omega
      clear q3
      go_wp2_with fail
      have QC : ((q : Int) + 1) = ((q + 1 : Nat) : Int) := by omega
      rw [QC]
      clear QC
      refine (heldB _ (ks[j]).2.length (q + 1) _ RU.out nl (by omega)).mono ?_
      rintro e w2 ⟨rfl, rfl⟩
      have K2 := hid (show q + 1 + (ks[j]).2.length = kAt k ks (j + 1) by rw [KS.out, Q.out])
      obtain ⟨q2', hq2⟩ : ∃ m : Nat, m = q + 1 + (ks[j]).2.length := ⟨_, rfl⟩
      rw [← hq2]
      rw [← hq2] at K2
      clear hq2
      have h0 : decide ((q2' : Int) < 0) = false := decide_eq_false (by omega)
      clear q1 q2
      go_wp2
      go_roundw
      case rel => exact ⟨j + 1, hlt, by go_num, by rw [K2.out], BL⟩
      case measure => simp [intOf]; omega
    · have hk8 : j = ks.length := by omega
      subst hk8
      have E := hid (kAt_end k ks)
      obtain ⟨q, hq⟩ : ∃ q, q = kAt k ks ks.length := ⟨_, rfl⟩
      rw [← hq]
      have Q := hid hq
      clear hq
      go_wp2
      go_ret
      exact ⟨congrArg (fun z : Nat => Ending.returned (.int .i64 (z : Int))) (Q.out.trans E.out), BL.out⟩
set_option maxRecDepth 100000 in
theorem heldRo (p : Int) (v : Value) (l : List (Int × List Nat)) (k : Nat) (z : Int) (hz : z = (k : Int)) (w : World) (h : RdK w v (mkTo k l l.length)) (hl : (l.length + tot l) ≤ 1048576) (hk : k ≤ 8388608) :
    Calls Try.prog 54 #[.agg #[.int .i64 p, v], .int .i64 z] w fun e w' => e = .returned (.int .i64 ((k + (l.length + tot l) : Nat) : Int)) ∧ Below w.heap.size w w' := by
  have H := hid h
  obtain ⟨a, ca, e, -, -, -⟩ := h.parts
  rw [mkTo_len _ _ _ (Nat.le_refl _)] at e
  subst e
  subst hz
  clear h
  go_enter Try.func54, Try.ntmps54
  go_wp2_with fail
  refine (heldKS _ l k _ (H.out.below (below_alloc1 w _)) hl hk).mono ?_
  rintro e w' ⟨rfl, hB⟩
  have BB := hid ((below_alloc1 w _).trans (hB.mono (by simp)))
  clear hB
  obtain ⟨m, hm⟩ : ∃ m : Nat, m = k + (l.length + tot l) := ⟨_, rfl⟩
  rw [← hm]
  replace hm := hid hm
  have h0 : decide ((m : Int) < 0) = false := decide_eq_false (by omega)
  go_wp2
  go_ret
  exact ⟨congrArg (fun z : Nat => Ending.returned (.int .i64 (z : Int))) hm.out, BB.out⟩
set_option maxRecDepth 100000 in
theorem eqRR (c rk : Int) (va vb : Value) (l : List (Int × List Nat)) (w : World) (ha : RdK w va l) (hb : RdK w vb l) (hl : (l.length + tot l) ≤ 1048576) :
    Calls Try.prog 22 #[.agg #[.int .i64 c, .int .i64 rk, va], .agg #[.int .i64 c, .int .i64 rk, vb]] w fun e w' => e = .returned (.bool true) ∧ Below w.heap.size w w' := by
  have HA := hid ha
  have HB := hid hb
  obtain ⟨a, ca, rfl, -, -, -⟩ := ha.parts
  obtain ⟨b, cb, rfl, -, -, -⟩ := hb.parts
  clear ha hb
  go_enter Try.func22, Try.ntmps22
  go_wp2_with fail
  refine (eqR rk _ _ l _ (HA.out.below (below_alloc2 w _ _)) (HB.out.below (below_alloc2 w _ _)) hl).mono ?_
  rintro e w' ⟨rfl, hB⟩
  have BB := hid ((below_alloc2 w _ _).trans (hB.mono (by simp; omega)))
  clear hB
  go_wp2
  go_ret
  exact ⟨rfl, BB.out⟩
set_option maxRecDepth 100000 in
theorem markRRo (c rk : Int) (v : Value) (l : List (Int × List Nat)) (k : Nat) (z : Int) (hz : z = (k : Int)) (lo hi : Nat) (w : World) (h : OKs w lo hi v l) (hl : (l.length + tot l) ≤ 1048576) (hk : k ≤ 8388608) :
    Calls Try.prog 25 #[.agg #[.int .i64 c, .int .i64 rk, v], .int .i64 z] w fun e w' => e = .returned (.int .i64 ((k + (l.length + tot l) : Nat) : Int)) ∧ OKs w' lo hi v (mkTo k l l.length) ∧ Ins lo hi w w' := by
  have H := hid h
  obtain ⟨a, ca, rfl, -, -, -⟩ := h.rd.parts
  subst hz
  clear h
  go_enter Try.func25, Try.ntmps25
  go_wp2_with fail
  refine (markRo rk _ l k _ rfl lo hi _ (H.out.below (below_alloc1 w _)) hl hk).mono ?_
  rintro e w' ⟨rfl, hO, hI⟩
  have HO := hid hO
  have HI := hid ((Ins.of_below (below_alloc1 w _)).trans hI)
  clear hO hI
  go_wp2
  go_ret
  exact ⟨rfl, HO.out, HI.out⟩
set_option maxRecDepth 100000 in
theorem heldRRo (c rk : Int) (v : Value) (l : List (Int × List Nat)) (k : Nat) (z : Int) (hz : z = (k : Int)) (w : World) (h : RdK w v (mkTo k l l.length)) (hl : (l.length + tot l) ≤ 1048576) (hk : k ≤ 8388608) :
    Calls Try.prog 26 #[.agg #[.int .i64 c, .int .i64 rk, v], .int .i64 z] w fun e w' => e = .returned (.int .i64 ((k + (l.length + tot l) : Nat) : Int)) ∧ Below w.heap.size w w' := by
  have H := hid h
  obtain ⟨a, ca, e, -, -, -⟩ := h.parts
  rw [mkTo_len _ _ _ (Nat.le_refl _)] at e
  subst e
  subst hz
  clear h
  go_enter Try.func26, Try.ntmps26
  go_wp2_with fail
  refine (heldRo rk _ l k _ rfl _ (H.out.below (below_alloc1 w _)) hl hk).mono ?_
  rintro e w' ⟨rfl, hB⟩
  have BB := hid ((below_alloc1 w _).trans (hB.mono (by simp)))
  clear hB
  obtain ⟨m, hm⟩ : ∃ m : Nat, m = k + (l.length + tot l) := ⟨_, rfl⟩
  rw [← hm]
  replace hm := hid hm
  have h0 : decide ((m : Int) < 0) = false := decide_eq_false (by omega)
  go_wp2
  go_ret
  exact ⟨congrArg (fun z : Nat => Ending.returned (.int .i64 (z : Int))) hm.out, BB.out⟩
end Go.Proofs.Ytmamdbmkjipahaj.W
