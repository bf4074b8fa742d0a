/-
  Messages together, as bytes: what the model's l7All answers.
-/
import Derived.Test.YtifgcffifffdnamEmF
namespace Go.Proofs.Ytifgcffifffdnam.W
open Go.ChangeShapes Go.WideShapes Go.ChangeAt Go.RowKit
open Go.Proofs.Ytifgcffifffdnam.M

set_option maxHeartbeats 2000000 in
set_option maxRecDepth 100000 in
theorem sal (v : Value) (ms : List Msg) (w : World) (h : RdM w v ms) (hn : ms.length ≤ 12) (hc : ∀ i (h : i < ms.length), mF ms[i] 0) :
    Calls Try.prog 64 #[v] w fun e w' => ∃ v', e = .returned v' ∧ Own w' w.heap.size v' (allB ms ms.length) ∧ Below w.heap.size w w' := by
  have H := hid h
  have HC := hid hc
  obtain ⟨a, cap, rfl, -, -, -⟩ := h.parts
  clear h hc
  have wb := wrap_b ms.length (by omega)
  have OA := hid (own_l1 w ms.length)
  have BB := hid (below_alloc1 w (.cells #[.int .u8 (ms.length : Int)] 5))
  go_enter Try.func64, Try.ntmps64
  go_wp2_with fail
  go_loopw [3, 4] (fun acc i wr => ∃ j : Nat, j ≤ ms.length ∧ i = .int .i64 j ∧ Hid (Own wr w.heap.size acc (allB ms j)) ∧ Hid (Below w.heap.size w wr)) (fun _ i _ => ms.length - (intOf i).toNat)
  case atStart => exact ⟨0, by omega, rfl, hid (by rw [allB_zero]; exact OA.out), BB⟩
  case round =>
    clear OA BB wb
    obtain ⟨j, hj, rfl, OA, BL⟩ := hrel
    by_cases hlt : j < ms.length
    · obtain ⟨a', cap', e, -, -, hcs⟩ := (H.out.below BL.out).parts
      cases e
      obtain ⟨b, o, u, rfl, q1, q3⟩ := hcs j hlt
      obtain ⟨pu, cu, rfl, -, -, -⟩ := q3.parts
      have RU := hid q3
      have CS := hid (m_cells q1)
      have AS := hid (allB_succ ms j hlt)
      have AL := hid (allB_len ms HC.out j hj)
      have EL := hid (eB_len (HC.out j hlt))
      have I1 := idx_mi b o ms.length cap j hlt
      have k0 : (0 : Int) ≤ (j : Int) := by omega
      have k1 : (j : Int) < (ms.length : Int) := by omega
      have MC := hid (HC.out j hlt)
      obtain ⟨M, hM⟩ : ∃ M, M = ms[j] := ⟨_, rfl⟩
      rw [← hM] at RU CS AS EL MC
      clear q1 q3 hcs hM
      go_wp2_with fail
      refine (senc b (o + j * 10) M _ _ RU.out MC.out CS.out).mono ?_
      rintro e w1 ⟨vb, rfl, hO, hB⟩
      obtain ⟨pb, cb, rfl, -, -, -⟩ := hO.rd.parts
      have OB1 := hid hO
      have AP := hid (OA.out.apart2 hO (Nat.le_refl _))
      replace OA := hid (OA.out.below hB)
      have SB := hid BL.out.size
      replace BL := hid (BL.out.trans (hB.mono BL.out.size))
      have wb := wrap_b (eB M).length (by have := EL.out; omega)
      clear hO hB CS RU
      have BA := below_alloc1 w1 (.cells #[.int .u8 ((eB M).length : Int)] 5)
      have RL := hid (rd_l1 (heap_alloc_new w1 (.cells #[.int .u8 ((eB M).length : Int)] 5)))
      replace OA := hid (OA.out.below BA)
      replace OB1 := hid (OB1.out.below BA)
      replace BL := hid (BL.out.trans (BA.mono BL.out.size))
      clear BA
      have LN := hid (show (allB ms j).length + [(eB M).length].length ≤ 4194304 by have := AL.out; simp; omega)
      have LN2 := hid (show (allB ms j ++ [(eB M).length]).length + (eB M).length ≤ 4194304 by have := AL.out; have := EL.out; simp; omega)
      go_wp2_with (at_builtin; first | (refine list_app rfl _ _ rfl _ _ (allB ms j) [(eB M).length] w.heap.size rfl rfl OA.out RL.out LN.out BL.out.size ?_; intro v3 w3 O G) | (refine list_app rfl _ _ rfl _ _ (allB ms j ++ [(eB M).length]) (eB M) w.heap.size rfl rfl O (OB1.out.kept G AP.out).rd LN2.out (BL.out.grown G BL.out.size (OA.out.row (Nat.le_refl _))).size ?_; intro v4 w4 O4 G4))
      have B3 := hid (BL.out.grown G BL.out.size (OA.out.row (Nat.le_refl _)))
      have B4 := hid (B3.out.grown G4 B3.out.size (O.row (Nat.le_refl _)))
      rw [← AS.out] at O4
      replace O4 := hid O4
      clear G G4 O OA OB1 BL RL AP wb B3
      go_wp2
      go_roundw
      case rel => exact ⟨j + 1, hlt, by go_num, O4, B4⟩
      case measure => simp [intOf]; omega
    · have hje : j = ms.length := by omega
      subst hje
      go_wp2
      go_ret
      exact ⟨_, rfl, OA.out, BL.out⟩
end Go.Proofs.Ytifgcffifffdnam.W
