/-
  How the exact laws hold slices of claims, and compare, mark and hold what is told of a view.
-/
import Derived.Test.YtbleikbmnkjbeaoVwK
namespace Go.Proofs.Ytbleikbmnkjbeao.W
open Go.ChangeShapes Go.WideShapes Go.ChangeAt Go.RowKit
open Go.Proofs.Ytbleikbmnkjbeao.M

theorem markCo (v : Value) (cs : List Clm) (k : Nat) (z : Int) (hz : z = (k : Int)) (lo hi : Nat) (w : World) (h : OC w lo hi v cs) (hl : cs.length ≤ 1048576) (hk : k ≤ 16777216) :
    Calls Try.prog 15 #[v, .int .i64 z] w fun e w' => e = .returned (.int .i64 ((k + cs.length * 4 : Nat) : Int)) ∧ OC w' lo hi v (marksC k cs.length) ∧ Ins lo hi w w' := by
  subst hz
  exact (markCx v cs k lo w h.1 hl hk).mono fun _ _ ⟨he, hO, hG⟩ => ⟨he, ⟨hO, h.2⟩, Ins.of_grown hG fun _ e => h.blk e⟩
set_option maxHeartbeats 1000000 in
set_option maxRecDepth 100000 in
theorem heldC (v : Value) (n k : Nat) (w : World) (h : RdC w v (marksC k n)) (hl : n ≤ 1048576) (hk : k ≤ 16777216) :
    Calls Try.prog 39 #[v, .int .i64 (k : Int)] w fun e w' => e = .returned (.int .i64 ((k + n * 4 : Nat) : Int)) ∧ w' = w := by
  obtain ⟨a, cap, rfl, _, _, hcs⟩ := h.parts
  rw [marksC_len] at *
  clear h
  go_enter Try.func39, Try.ntmps39
  go_wp2
  go_loop [1, 5] (fun kk i => ∃ j : Nat, j ≤ n ∧ i = .int .i64 j ∧ kk = .int .i64 (k + j * 4 : Nat)) (fun _ i => n - (intOf i).toNat)
  case atStart => exact ⟨0, by omega, rfl, rfl⟩
  case round =>
    obtain ⟨j, hj, rfl, rfl⟩ := hrel
    by_cases hlt : j < n
    · obtain ⟨b, o, rfl, hc⟩ := hcs j (by rw [marksC_len]; exact hlt)
      clear hcs
      rw [marksC_at] at hc
      obtain ⟨c0, c1, c2, c3⟩ := c_cells hc
      have I2 := idx_ci b o n cap j hlt
      obtain ⟨kj, hkj⟩ : ∃ kj, kj = k + j * 4 := ⟨_, rfl⟩
      rw [← hkj] at c0 c1 c2 c3 ⊢
      have b0 : kj < 33554432 := by omega
      replace hkj := hid hkj
      have e1 : ((kj + 1 : Nat) : Int) = (kj : Int) + 1 := by omega
      have e2 : ((kj + 2 : Nat) : Int) = (kj : Int) + 2 := by omega
      have e3 : ((kj + 3 : Nat) : Int) = (kj : Int) + 3 := by omega
      simp only [e1, e2, e3] at c1 c2 c3
      clear e1 e2 e3 hc
      go_wp2
      go_round
      case rel => exact ⟨j + 1, by omega, by go_num, by have := hkj.out; go_num⟩
      case measure => simp [intOf]; omega
    · have hk8 : j = n := by omega
      subst hk8
      go_wp2
      go_ret
      exact ⟨rfl, rfl⟩
set_option maxRecDepth 100000 in
theorem eqVR (c : Int) (t : Bool) (va vb : Value) (cs : List Clm) (w : World) (ha : RdC w va cs) (hb : RdC w vb cs) (hl : cs.length ≤ 1048576) :
    Calls Try.prog 13 #[.agg #[.int .i64 c, va, .bool t], .agg #[.int .i64 c, vb, .bool t]] w fun e w' => e = .returned (.bool true) ∧ Below w.heap.size w w' := by
  have HA := hid ha
  have HB := hid hb
  obtain ⟨a, ca, rfl, -, -, -⟩ := ha.parts
  obtain ⟨b, cb, rfl, -, -, -⟩ := hb.parts
  clear ha hb
  have V0 := hid (var_alloc (.cells #[.int .i64 c, .slice b cs.length cb, .bool t] 26) (heap_alloc_new w (.cells #[.int .i64 c, .slice a cs.length ca, .bool t] 26)))
  have V1 := hid (heap_alloc_new (w.alloc (.cells #[.int .i64 c, .slice a cs.length ca, .bool t] 26)) (.cells #[.int .i64 c, .slice b cs.length cb, .bool t] 26))
  have B0 := hid (below_alloc2 w (.cells #[.int .i64 c, .slice a cs.length ca, .bool t] 26) (.cells #[.int .i64 c, .slice b cs.length cb, .bool t] 26))
  go_enter Try.func13, Try.ntmps13
  go_wp2_with fail
  refine (eqCS _ _ cs _ (HA.out.below B0.out) (HB.out.below B0.out) hl).mono ?_
  rintro e w' ⟨rfl, hB⟩
  have BB := hid (B0.out.trans (hB.mono B0.out.size))
  replace V0 := hid (var_below hB V0.out)
  replace V1 := hid (var_below hB V1.out)
  simp only [World.size_alloc] at V1
  have f0 : w'.cell? ⟨w.heap.size, 2, none⟩ = some (.bool t) := by rw [cell_of_row w' _ 2 _ _ _ V0.out]; rfl
  have f1 : w'.cell? ⟨w.heap.size + 1, 2, none⟩ = some (.bool t) := by rw [cell_of_row w' _ 2 _ _ _ V1.out]; rfl
  clear hB B0 V0 V1
  cases t
  · go_wp2
    go_ret
    exact ⟨rfl, BB.out⟩
  · go_wp2
    go_ret
    exact ⟨rfl, BB.out⟩
set_option maxRecDepth 100000 in
theorem markVRo (c : Int) (t : Bool) (v : Value) (cs : List Clm) (k : Nat) (z : Int) (hz : z = (k : Int)) (lo hi : Nat) (w : World) (h : OC w lo hi v cs) (hl : cs.length ≤ 1048576) (hk : k ≤ 16777216) :
    Calls Try.prog 16 #[.agg #[.int .i64 c, v, .bool t], .int .i64 z] w fun e w' => e = .returned (.int .i64 ((k + cs.length * 4 : Nat) : Int)) ∧ OC w' lo hi v (marksC k cs.length) ∧ Ins lo hi w w' := by
  have H := hid h
  obtain ⟨a, ca, rfl, -, -, -⟩ := h.rd.parts
  subst hz
  clear h
  go_enter Try.func16, Try.ntmps16
  go_wp2_with fail
  refine (markCo _ cs k _ rfl lo hi _ (H.out.below (below_alloc1 w _)) hl hk).mono ?_
  rintro e w' ⟨rfl, hO, hI⟩
  have HO := hid hO
  have HI := hid ((Ins.of_below (below_alloc1 w _)).trans hI)
  clear hO hI
  obtain ⟨m, hm⟩ : ∃ m : Nat, m = k + cs.length * 4 := ⟨_, rfl⟩
  rw [← hm]
  replace hm := hid hm
  go_wp2
  go_ret
  exact ⟨congrArg (fun z : Nat => Ending.returned (.int .i64 (z : Int))) hm.out, HO.out, HI.out⟩
set_option maxRecDepth 100000 in
theorem heldVRo (c : Int) (t : Bool) (v : Value) (cs : List Clm) (k : Nat) (z : Int) (hz : z = (k : Int)) (w : World) (h : RdC w v (marksC k cs.length)) (hl : cs.length ≤ 1048576) (hk : k ≤ 16777216) :
    Calls Try.prog 17 #[.agg #[.int .i64 c, v, .bool t], .int .i64 z] w fun e w' => e = .returned (.int .i64 ((k + cs.length * 4 : Nat) : Int)) ∧ Below w.heap.size w w' := by
  have H := hid h
  obtain ⟨a, ca, e, -, -, -⟩ := h.parts
  rw [marksC_len] at e
  subst e
  subst hz
  clear h
  go_enter Try.func17, Try.ntmps17
  go_wp2_with fail
  refine (heldC _ cs.length k _ (H.out.below (below_alloc1 w _)) hl hk).mono ?_
  rintro e w' ⟨rfl, hB⟩
  have BB := hid (show Below w.heap.size w w' by rw [hB]; exact below_alloc1 w _)
  subst hB
  obtain ⟨m, hm⟩ : ∃ m : Nat, m = k + cs.length * 4 := ⟨_, rfl⟩
  rw [← hm]
  replace hm := hid hm
  have h0 : decide ((m : Int) < 0) = false := decide_eq_false (by omega)
  go_wp2
  go_ret
  exact ⟨congrArg (fun z : Nat => Ending.returned (.int .i64 (z : Int))) hm.out, BB.out⟩
end Go.Proofs.Ytbleikbmnkjbeao.W
