/-
  What is drawn for the laws of counting: a block, at times with a full count.
-/
import Derived.Test.YtcmafbgfdddnnabDrawBk
namespace Go.Proofs.Ytcmafbgfdddnnab.W
open Go.ChangeShapes Go.WideShapes Go.ChangeAt Go.RowKit
open Go.Proofs.Ytcmafbgfdddnnab.M

set_option maxHeartbeats 2000000 in
set_option maxRecDepth 100000 in
theorem drawCu (v : Value) (l : List Nat) (w : World) (h : Rd w v l) (y : Byt l) (hl : l.length ≤ 1048576) :
    Calls Try.prog 10 #[v] w fun e w' => ∃ (g c : Nat) (d : List Nat), e = .returned (.slice (some ⟨g, 0, none⟩) d.length c) ∧ d.length ≤ 17 ∧ Byt d ∧ Own w' w.heap.size (.slice (some ⟨g, 0, none⟩) d.length c) d ∧ Below w.heap.size w w' := by
  have H := hid h
  obtain ⟨a, cap, rfl, _, _, _⟩ := h.parts
  clear h
  go_enter Try.func10, Try.ntmps10
  go_wp2_with fail
  refine (source _ l _ H.out y).mono ?_
  rintro e w1 ⟨rfl, hS⟩
  go_wp2_with fail
  refine (l2block _ l _ (H.out.below hS.bel) y hl).mono ?_
  rintro e w2 ⟨g, c, d, rfl, hd, yd, hO, hB⟩
  have hlt := var_lt hS.cells
  have O := hid hO
  have S2 := hid (hS.later hB)
  have Z := hid hS.bel.size
  have N := hid hlt
  have D := hid hd
  clear hO hS hB hd hlt
  by_cases h16 : d.length = 16
  · have hc : ((d.length : Int) == 16) = true := beq_iff_eq.2 (by omega)
    replace h16 := hid h16
    go_wp2_with fail
    refine (chance _ _ _ _ _ _ 3 S2.out (by omega) (by omega) hl).mono ?_
    rintro e w3 ⟨r, rfl, hS3, hG⟩
    replace O := hid (Own.kept O.out hG (Or.inr (Own.ne O.out N.out).symm))
    have B3 := hid hS3.bel
    clear hS3 hG S2
    cases r
    · go_wp2
      go_ret
      exact ⟨g, c, d, rfl, D.out, yd, O.out.mono Z.out, B3.out⟩
    · go_wp2_with fail
      go_loopw [5] (fun i ws => ∃ n : Nat, ∃ b : List Nat, 12 ≤ n ∧ n ≤ 16 ∧ i = .int .i64 n ∧ Hid (b.length = d.length) ∧ Hid (Byt b) ∧ Hid (Own ws w1.heap.size (.slice (some ⟨g, 0, none⟩) d.length c) b) ∧ Hid (Below w.heap.size w ws)) (fun i _ => 16 - (intOf i).toNat)
      case atStart => exact ⟨12, d, by omega, by omega, rfl, hid rfl, hid yd, O, B3⟩
      case round =>
        obtain ⟨n, b, n0, n1, rfl, hb, yb, ho, hB⟩ := hrel
        clear O B3
        by_cases hlt : n < 16
        · have hn : n < d.length := by have := h16.out; omega
          have f1 := Own.cell hb.out ho.out n (by rw [hb.out]; exact hn)
          have f2 := Own.open hb.out ho.out n
          have st := Own.stored hb.out ho.out n 255
          have O1 := hid st.1
          have B1 := hid (hB.out.grown st.2 hB.out.size (Own.row ho.out Z.out))
          have Y1 : Hid (Byt (b.set n 255)) := hid fun x hx => by
            rcases List.mem_or_eq_of_mem_set hx with q | q
            · exact yb.out x q
            · omega
          clear st
          unfold bv at O1 B1
          go_wp2
          go_roundw
          case rel => exact ⟨n + 1, b.set n 255, by omega, by omega, by go_num, hid (by rw [List.length_set]; exact hb.out), Y1, O1, B1⟩
          case measure => simp [intOf]; omega
        · have hz : ¬ (n : Int) < 16 := by omega
          go_wp2
          go_ret
          exact ⟨g, c, b, by rw [hb.out]; rfl, by rw [hb.out]; exact D.out, yb.out, by rw [hb.out]; exact ho.out.mono Z.out, hB.out⟩
  · have hc : ((d.length : Int) == 16) = false := beq_eq_false_iff_ne.2 (by omega)
    have B2 := hid S2.out.bel
    clear h16 S2
    go_wp2
    go_ret
    exact ⟨g, c, d, rfl, D.out, yd, O.out.mono Z.out, B2.out⟩
end Go.Proofs.Ytcmafbgfdddnnab.W
