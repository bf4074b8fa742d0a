/-
  How the exact laws mark slices of keys, and hold them.
-/
import Derived.Test.YtmamdbmkjipahajMkB
import Derived.Test.YtmamdbmkjipahajKsM
namespace Go.Proofs.Ytmamdbmkjipahaj.W
open Go.ChangeShapes Go.WideShapes Go.ChangeAt Go.RowKit
open Go.Proofs.Ytmamdbmkjipahaj.M

theorem idx_km (b o n c j : Nat) (hj : j < n) (w : World) : (Instr.indexAt 32 (.slice (some ⟨b, o, none⟩) n c) (.int .i64 (j : Int))).run Try.prog w = .ok (.pointer (some ⟨b, o + j * 2, none⟩)) w := by
  have hs : ∀ w : World, (sizeOf (Try.prog.elem 32)).run Try.prog w = .ok 2 w := fun _ => by kernel_rfl
  rw [run_indexAt_slice (P := Try.prog) w 32 _ n c .i64 (j : Int) (by kernel_rfl)]
  simp [hs, hj, Result.andThen, Addr.add_lit]
set_option maxHeartbeats 1000000 in
set_option maxRecDepth 100000 in
theorem markKS (v : Value) (ks : List (Int × List Nat)) (k lo hi : Nat) (w : World) (h : OKs w lo hi v ks) (hl : ks.length + tot ks ≤ 1048576) (hk : k ≤ 8388608) :
    Calls Try.prog 43 #[v, .int .i64 (k : Int)] w fun e w' => e = .returned (.int .i64 ((k + (ks.length + tot ks) : Nat) : Int)) ∧ OKs w' lo hi v (mkTo k ks ks.length) ∧ Ins lo hi w w' := by
  by_cases h0 : ks.length = 0
  · obtain rfl := List.eq_nil_of_length_eq_zero h0
    obtain ⟨a, cap, rfl, -, -, -⟩ := h.rd.parts
    have H := hid h
    clear h
    go_enter Try.func43, Try.ntmps43
    go_wp2
    refine wp_loop_rounds 1 ?_
    rw [rounds_succ]
    go_wp2
    go_ret
    exact ⟨rfl, H.out, Ins.refl _ _ _⟩
  · obtain ⟨g, cap, rfl, -, -, -⟩ := h.shape (by omega)
    have H := hid h
    clear h
    go_enter Try.func43, Try.ntmps43
    go_wp2
    go_loopw [1, 5] (fun kk i wr => ∃ j : Nat, j ≤ ks.length ∧ i = .int .i64 j ∧ kk = .int .i64 (kAt k ks j : Nat) ∧ Hid (OKs wr lo hi (.slice (some ⟨g, 0, none⟩) ks.length cap) (mkTo k ks j)) ∧ Hid (Ins lo hi w wr)) (fun _ i _ => ks.length - (intOf i).toNat)
    case atStart => exact ⟨0, by omega, rfl, by simp [kAt, tot], hid (by rw [mkTo_zero]; exact H.out), hid (Ins.refl _ _ _)⟩
    case round =>
      obtain ⟨j, hj, rfl, rfl, HO, HI⟩ := hrel
      clear H
      by_cases hlt : j < ks.length
      · have KB := hid (kAt_le k ks j hj)
        have KS := hid (kAt_succ k ks j hlt)
        have HN := hid (tot_at ks j hlt)
        obtain ⟨q, hq⟩ : ∃ q, q = kAt k ks j := ⟨_, rfl⟩
        rw [← hq]
        obtain ⟨c0, f0, u, c1, hO1, hNX⟩ := HO.out.step hlt q hq
        have Q := hid hq
        clear hq
        have qb : q ≤ 16777215 := by have := KB.out; have := Q.out; omega
        have O1 := hid hO1
        have NX := hid hNX
        have I2 := idx_km g 0 ks.length cap j hlt
        rw [Nat.zero_add] at I2
        have k0 : (0 : Int) ≤ (j : Int) := by omega
        have k1 : (j : Int) < (ks.length : Int) := by omega
        obtain ⟨pu, cu, rfl, -, -, -⟩ := O1.out.rd.parts
        have nl : (ks[j]).2.length ≤ 1048576 := by have := HN.out; omega
        clear hO1 hNX HO
        go_wp2_with fail
        have QC : ((q : Int) + 1) = ((q + 1 : Nat) : Int) := by omega
        rw [QC]
        clear QC
        refine (markBx _ (ks[j]).2 (q + 1) lo _ O1.out.1 nl (by omega)).mono ?_
        rintro e w2 ⟨rfl, hO, hG⟩
        obtain ⟨r1, r2⟩ := NX.out w2 hG hO
        have R1 := hid r1
        have R2 := hid (HI.out.trans r2)
        have K2 := hid (show q + 1 + (ks[j]).2.length = kAt k ks (j + 1) by rw [KS.out, Q.out])
        clear hO hG r1 r2 c0 f0 c1 O1 NX
        obtain ⟨q2, hq2⟩ : ∃ m : Nat, m = q + 1 + (ks[j]).2.length := ⟨_, rfl⟩
        rw [← hq2]
        rw [← hq2] at K2
        clear hq2
        go_wp2
        go_roundw
        case rel => exact ⟨j + 1, hlt, by go_num, by rw [K2.out], R1, R2⟩
        case measure => simp [intOf]; omega
      · have hk8 : j = ks.length := by omega
        subst hk8
        have E := hid (kAt_end k ks)
        obtain ⟨q, hq⟩ : ∃ q, q = kAt k ks ks.length := ⟨_, rfl⟩
        rw [← hq]
        have Q := hid hq
        clear hq
        go_wp2
        go_ret
        exact ⟨congrArg (fun z : Nat => Ending.returned (.int .i64 (z : Int))) (Q.out.trans E.out), HO.out, HI.out⟩
set_option maxRecDepth 100000 in
theorem markRo (p : Int) (v : Value) (ks : List (Int × List Nat)) (k : Nat) (z : Int) (hz : z = (k : Int)) (lo hi : Nat) (w : World) (h : OKs w lo hi v ks) (hl : ks.length + tot ks ≤ 1048576) (hk : k ≤ 8388608) :
    Calls Try.prog 15 #[.agg #[.int .i64 p, v], .int .i64 z] w fun e w' => e = .returned (.int .i64 ((k + (ks.length + tot ks) : Nat) : Int)) ∧ OKs w' lo hi v (mkTo k ks ks.length) ∧ Ins lo hi w w' := by
  have H := hid h
  obtain ⟨a, ca, rfl, -, -, -⟩ := h.rd.parts
  subst hz
  clear h
  go_enter Try.func15, Try.ntmps15
  go_wp2_with fail
  refine (markKS _ ks k lo hi _ (H.out.below (below_alloc1 w _)) hl hk).mono ?_
  rintro e w' ⟨rfl, hO, hI⟩
  have HO := hid hO
  have HI := hid ((Ins.of_below (below_alloc1 w _)).trans hI)
  clear hO hI
  go_wp2
  go_ret
  exact ⟨rfl, HO.out, HI.out⟩
end Go.Proofs.Ytmamdbmkjipahaj.W
