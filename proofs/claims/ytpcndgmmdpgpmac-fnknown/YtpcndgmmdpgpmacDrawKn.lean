/-
  The draws of the law of what is known; how it compares numbers. Generated text.
-/
import Derived.Test.YtpcndgmmdpgpmacDrawVw
import Derived.Test.YtpcndgmmdpgpmacSlZI
namespace Go.Proofs.Ytpcndgmmdpgpmac.W
open Go.ChangeShapes Go.WideShapes Go.ChangeAt Go.RowKit
open Go.Proofs.Ytpcndgmmdpgpmac.M

set_option maxRecDepth 100000 in
theorem lwnu (va vb : Value) (l : List Int) (w : World) (ha : RdZ w va l) (hb : RdZ w vb l) (hl : l.length ≤ 1048576) :
    Calls Try.prog 21 #[va, vb] w fun e w' => e = .returned (.bool true) ∧ Below w.heap.size w w' := by
  obtain ⟨a, capa, rfl, _, _, hca⟩ := ha.parts
  obtain ⟨b, capb, rfl, _, _, hcb⟩ := hb.parts
  clear ha hb
  go_enter Try.func21, Try.ntmps21
  go_wp2
  go_loopw [5] (fun i wr => ∃ k : Nat, k ≤ l.length ∧ i = .int .i64 k ∧ Below w.heap.size w wr) (fun i _ => l.length - (intOf i).toNat)
  case atStart => exact ⟨0, by omega, rfl, Below.refl _ _⟩
  case round =>
    obtain ⟨k, hk, rfl, hb⟩ := hrel
    by_cases hlt : k < l.length
    · obtain ⟨ba, oa, rfl, ca⟩ := hca k hlt
      obtain ⟨bb, ob, rfl, cb⟩ := hcb k hlt
      have ca := cell_kept hb ca
      have cb := cell_kept hb cb
      clear hca hcb
      go_wp2
      go_quiet (fail)
      go_wp2
      go_roundw
      case rel => exact ⟨k + 1, by omega, by go_num, below_drewN hb _⟩
      case measure => simp [intOf]; omega
    · have hk8 : k = l.length := by omega
      subst hk8
      go_wp2
      go_ret
      exact ⟨rfl, hb⟩
set_option maxHeartbeats 2000000 in
set_option maxRecDepth 100000 in
theorem drNi (v : Value) (l : List Nat) (w : World) (h : Rd w v l) (y : Byt l) (hl : l.length ≤ 1048576) :
    Calls Try.prog 59 #[v] w fun e w' => ∃ (u : Value) (cs : List Clm) (n : Int), e = .returned (.tuple #[u, .int .i64 n]) ∧ RdC w' u cs ∧ cs.length ≤ 8 ∧ Below w.heap.size w w' := by
  have RC := hid h
  obtain ⟨q, cap, rfl, -, -, -⟩ := h.parts
  clear h
  go_enter Try.func59, Try.ntmps59
  go_wp2_with fail
  refine (source _ l w RC.out y).mono ?_
  rintro e w1 ⟨rfl, hS⟩
  have S := hid hS
  clear hS
  generalize w.heap.size = gs at *
  go_wp2_with fail
  refine (l8b w w1 gs _ l 0 S.out (by omega) hl).mono ?_
  rintro e w2 ⟨u, cs, t', rfl, hO, hc, htt, hS, hG⟩
  obtain ⟨pu, cu, rfl, -, -, -⟩ := hO.rd.parts
  have GS := hid (show gs < w1.heap.size from var_lt S.out.cells)
  have OL := hid hO
  replace S := hid hS
  clear hO hS hG
  have VL := hid (show Lst (w2.alloc (.cells #[.int .i64 0, .int .i64 1, .int .i64 2, .int .i64 3, .int .i64 (-1)] 2)) w2.heap.size [0, 1, 2, 3, -1] from heap_alloc_new w2 (.cells #[.int .i64 0, .int .i64 1, .int .i64 2, .int .i64 3, .int .i64 (-1)] 2))
  have BA := below_alloc1 w2 (.cells #[.int .i64 0, .int .i64 1, .int .i64 2, .int .i64 3, .int .i64 (-1)] 2)
  have NG := hid (show w2.heap.size ≠ gs by have := var_lt S.out.cells; omega)
  replace S := hid (S.out.later BA)
  replace OL := hid (OL.out.below BA)
  clear BA
  go_wp2_with fail
  refine (pick' w _ gs w2.heap.size 5 _ l _ [0, 1, 2, 3, -1] S.out (by omega) hl VL.out NG.out rfl (by omega) (by omega)).mono ?_
  rintro e w3 ⟨x, -, rfl, hS, hG⟩
  replace OL := hid (OL.out.keepG hG GS.out)
  replace S := hid hS
  clear hS hG VL NG
  go_wp2
  go_ret2
  exact ⟨.slice pu cs.length cu, cs, x, rfl, OL.out.rd, hc, S.out.bel⟩
set_option maxHeartbeats 2000000 in
set_option maxRecDepth 100000 in
theorem drFc (v : Value) (l : List Nat) (w : World) (h : Rd w v l) (y : Byt l) (hl : l.length ≤ 1048576) :
    Calls Try.prog 61 #[v] w fun e w' => ∃ (u : Value) (cs : List Clm) (n : Int), e = .returned (.tuple #[u, .int .i64 n]) ∧ RdC w' u cs ∧ cs.length ≤ 8 ∧ Below w.heap.size w w' := by
  have RC := hid h
  obtain ⟨q, cap, rfl, -, -, -⟩ := h.parts
  clear h
  go_enter Try.func61, Try.ntmps61
  go_wp2_with fail
  refine (source _ l w RC.out y).mono ?_
  rintro e w1 ⟨rfl, hS⟩
  have S := hid hS
  clear hS
  generalize w.heap.size = gs at *
  go_wp2_with fail
  refine (l8b w w1 gs _ l 0 S.out (by omega) hl).mono ?_
  rintro e w2 ⟨u, cs, t', rfl, hO, hc, htt, hS, hG⟩
  obtain ⟨pu, cu, rfl, -, -, -⟩ := hO.rd.parts
  have GS := hid (show gs < w1.heap.size from var_lt S.out.cells)
  have OL := hid hO
  replace S := hid hS
  clear hO hS hG
  have VL := hid (show Lst (w2.alloc (.cells #[.int .i64 0, .int .i64 1, .int .i64 2, .int .i64 3, .int .i64 4, .int .i64 (-1)] 2)) w2.heap.size [0, 1, 2, 3, 4, -1] from heap_alloc_new w2 (.cells #[.int .i64 0, .int .i64 1, .int .i64 2, .int .i64 3, .int .i64 4, .int .i64 (-1)] 2))
  have BA := below_alloc1 w2 (.cells #[.int .i64 0, .int .i64 1, .int .i64 2, .int .i64 3, .int .i64 4, .int .i64 (-1)] 2)
  have NG := hid (show w2.heap.size ≠ gs by have := var_lt S.out.cells; omega)
  replace S := hid (S.out.later BA)
  replace OL := hid (OL.out.below BA)
  clear BA
  go_wp2_with fail
  refine (pick' w _ gs w2.heap.size 6 _ l _ [0, 1, 2, 3, 4, -1] S.out (by omega) hl VL.out NG.out rfl (by omega) (by omega)).mono ?_
  rintro e w3 ⟨x, -, rfl, hS, hG⟩
  replace OL := hid (OL.out.keepG hG GS.out)
  replace S := hid hS
  clear hS hG VL NG
  go_wp2
  go_ret2
  exact ⟨.slice pu cs.length cu, cs, x, rfl, OL.out.rd, hc, S.out.bel⟩
set_option maxHeartbeats 2000000 in
set_option maxRecDepth 100000 in
theorem drSv (v : Value) (l : List Nat) (w : World) (h : Rd w v l) (y : Byt l) (hl : l.length ≤ 1048576) :
    Calls Try.prog 62 #[v] w fun e w' => ∃ (u u' : Value) (cs ds : List Clm), e = .returned (.tuple #[u, u']) ∧ RdC w' u cs ∧ RdC w' u' ds ∧ cs.length ≤ 8 ∧ ds.length ≤ 8 ∧ Below w.heap.size w w' := by
  have RC := hid h
  obtain ⟨q, cap, rfl, -, -, -⟩ := h.parts
  clear h
  go_enter Try.func62, Try.ntmps62
  go_wp2_with fail
  refine (source _ l w RC.out y).mono ?_
  rintro e w1 ⟨rfl, hS⟩
  have S := hid hS
  clear hS
  obtain ⟨gs, hgs⟩ : ∃ q, q = w.heap.size := ⟨_, rfl⟩
  rw [← hgs] at S ⊢
  clear hgs
  go_wp2_with fail
  refine (l8d w w1 gs _ l 0 S.out (by omega) hl).mono ?_
  rintro e w2 ⟨u, cs, t', rfl, hO, hc, htt, hS, hG⟩
  obtain ⟨pu, cu, rfl, -, -, -⟩ := hO.rd.parts
  have GS := hid (show gs < w1.heap.size from var_lt S.out.cells)
  have OL := hid hO
  replace S := hid hS
  clear hO hS hG
  go_wp2_with fail
  refine (chance w w2 gs _ l t' 2 S.out (by omega) (by omega) hl).mono ?_
  rintro e w3 ⟨r, rfl, hS, hG⟩
  replace OL := hid (OL.out.keepG hG GS.out)
  replace S := hid hS
  clear hS hG
  have BB := hid S.out.bel
  cases r
  · go_wp2_with fail
    refine (source _ l w3 (RC.out.below BB.out) y).mono ?_
    rintro e w4 ⟨rfl, hS⟩
    have O3 := OL
    have B0 := BB
    replace S := hid hS
    replace OL := hid (OL.out.below hS.bel)
    clear hS
    have GT := hid (show w3.heap.size < w4.heap.size from var_lt S.out.cells)
    have NE := hid (show (Value.slice pu cs.length cu).ownBlock ≠ some w3.heap.size from fun e => by have := O3.out.lt _ e; omega)
    go_wp2_with fail
    refine (l8b w3 w4 w3.heap.size _ l 0 S.out (by omega) hl).mono ?_
    rintro e w5 ⟨u2, ds, t2, rfl, hO, hd, -, hS, hG⟩
    obtain ⟨p2, c2, rfl, -, -, -⟩ := hO.rd.parts
    replace OL := hid (OL.out.kept hG (.inr NE.out))
    have O2 := hid hO.rd
    have B3 := hid (hS.bel)
    clear hO hS hG
    go_wp2
    go_ret2
    exact ⟨.slice pu cs.length cu, .slice p2 ds.length c2, cs, ds, rfl, OL.out.rd, O2.out, by omega, hd, B0.out.trans (B3.out.mono B0.out.size)⟩
  · go_wp2_with fail
    refine (s8c _ cs _ OL.out.rd (by omega)).mono ?_
    rintro e w4 ⟨u2, rfl, hO, hB⟩
    obtain ⟨p2, c2, rfl, -, -, -⟩ := hO.rd.parts
    replace OL := hid (OL.out.below hB)
    replace BB := hid (BB.out.trans (hB.mono BB.out.size))
    have O2 := hid hO.rd
    clear hO hB
    go_wp2
    go_ret2
    exact ⟨.slice pu cs.length cu, .slice p2 cs.length c2, cs, cs, rfl, OL.out.rd, O2.out, by omega, by omega, BB.out⟩
end Go.Proofs.Ytpcndgmmdpgpmac.W
