/-
  Whom a node asks next: the program.
-/
import Derived.WalkMore
import Derived.Test.YtalaolfcdaaaoaaNxS
import Derived.Test.YtalaolfcdaaaoaaSpnW
import Derived.Test.YtalaolfcdaaaoaaVwV
namespace Go.Proofs.Ytalaolfcdaaaoaa.W
open Go.ChangeShapes Go.WideShapes Go.ChangeAt Go.RowKit
open Go.Proofs.Ytalaolfcdaaaoaa.M

set_option maxHeartbeats 2000000 in
set_option maxRecDepth 100000 in
theorem inx (v : Value) (cs : List Clm) (self last : Int) (w : World) (h : RdC w v cs) (hn : ∀ c ∈ cs, 0 ≤ c.n) (hl : cs.length ≤ 4) :
    Calls Try.prog 69 #[v, .int .i64 self, .int .i64 last] w fun e w' => e = .returned (.int .i64 (nxN self last cs)) ∧ Below w.heap.size w w' := by
  have H := hid h
  obtain ⟨a, cap, rfl, -, -, -⟩ := h.parts
  clear h
  have HN := hid hn
  clear hn
  go_enter Try.func69, Try.ntmps69
  go_wp2_with fail
  go_step3
  go_wp2_with fail
  go_step3
  go_wp2_with fail
  go_loopw [7, 9, 12] (fun s7 s9 i wr => ∃ k : Nat, ∃ u9 : Value, k ≤ cs.length ∧ i = .int .i64 k ∧ s7 = .int .i64 (loN self (cs.take k)) ∧ s9 = u9 ∧ Hid (abN self last (cs.take k) = -1) ∧ Hid (Below w.heap.size w wr)) (fun _ _ i _ => cs.length - (intOf i).toNat)
  case atStart => exact ⟨0, _, by omega, rfl, rfl, rfl, hid rfl, hid (Below.refl _ _)⟩
  case round =>
    obtain ⟨k, u9, hk, rfl, rfl, rfl, AB, BL⟩ := hrel
    by_cases hlt : k < cs.length
    · obtain ⟨a', cap', e, -, -, hcs⟩ := (H.out.below BL.out).parts
      cases e
      obtain ⟨b, o, rfl, q1⟩ := hcs k hlt
      obtain ⟨c0, c1, c2, c3⟩ := c_cells q1
      have I1 := idx_ci b o cs.length cap k hlt
      have QS := hid fun q => nx_self (last := last) hlt HN.out AB.out (self := self) q
      have QT := hid fun q q2 => nx_stop (last := last) hlt HN.out AB.out (self := self) q q2
      have QG := hid fun q q2 => nx_go (last := last) hlt HN.out AB.out (self := self) q q2
      have LQ := hid (loN_q self (cs.take k) fun c hc => HN.out c (List.mem_of_mem_take hc))
      obtain ⟨y, hy⟩ : ∃ y, y = loN self (cs.take k) := ⟨_, rfl⟩
      rw [← hy] at QS QG LQ ⊢
      obtain ⟨M, hM⟩ : ∃ M, M = cs[k] := ⟨_, rfl⟩
      rw [← hM] at c0 c1 c2 c3 QS QT QG
      clear q1 hcs hy hM AB
      have B1 := hid (below_alloc1 wr (.cells #[.int .i64 M.n, .int .i64 M.i, .int .i64 M.s, .int .i64 M.m] 38))
      replace BL := hid (BL.out.trans (B1.out.mono BL.out.size))
      clear B1
      by_cases q : M.n = self
      · have n1 : (M.n == self) = true := by simp [q]
        have E1 := hid (QS.out q).1
        have E2 := hid (QS.out q).2
        replace q := hid q
        clear QS QT QG LQ
        go_wp2
        go_roundw
        case rel => exact ⟨k + 1, _, hlt, by go_num, by rw [E2.out], rfl, E1, BL⟩
        case measure => simp [intOf] <;> omega
      · have n1 : (M.n == self) = false := by simp [q]
        by_cases q2 : last < M.n
        · have E := hid (QT.out q q2)
          replace q := hid q
          clear QS QT QG LQ
          go_wp2
          try rw [Exit.noGoto_ret]
          go_ret
          exact ⟨ret_vi E.out.symm, BL.out⟩
        · have E1 := hid (QG.out q q2).1
          have E2 := hid (QG.out q q2).2
          replace q := hid q
          clear QS QT QG
          by_cases q3 : y = -1
          · rw [if_pos q3] at E2
            subst q3
            clear LQ
            go_wp2
            go_roundw
            case rel => exact ⟨k + 1, _, hlt, by go_num, by rw [E2.out], rfl, E1, BL⟩
            case measure => simp [intOf] <;> omega
          · rw [if_neg q3] at E2
            have n3 : (y == -1) = false := by simp [q3]
            replace q3 := hid q3
            clear LQ
            go_wp2
            go_roundw
            case rel => exact ⟨k + 1, _, hlt, by go_num, by rw [E2.out], rfl, E1, BL⟩
            case measure => simp [intOf] <;> omega
    · have hke : k = cs.length := by omega
      subst hke
      rw [List.take_length] at AB
      have E := hid (nx_end AB.out (self := self) (last := last))
      rw [List.take_length]
      obtain ⟨y, hy⟩ : ∃ y, y = loN self cs := ⟨_, rfl⟩
      rw [← hy] at E ⊢
      clear hy
      go_wp2
      try rw [Exit.noGoto_ret]
      go_ret
      exact ⟨ret_vi E.out.symm, BL.out⟩
set_option maxHeartbeats 2000000 in
set_option maxRecDepth 100000 in
theorem int (v : Value) (cs : List Clm) (self last : Int) (w : World) (h : RdC w v cs) :
    Calls Try.prog 11 #[v, .int .i64 self, .int .i64 last] w fun e w' => e = .returned (.agg #[.int .i64 (ntA cs self last).1, .int .i64 (ntA cs self last).2]) ∧ Below w.heap.size w w' := by
  obtain ⟨R, hR⟩ : ∃ R, R = ntA cs self last := ⟨_, rfl⟩
  rw [← hR]
  replace hR := hid hR
  have H := hid (h.below (below_alloc1 w (.cells #[.int .i64 0, .int .i64 0] 28)))
  obtain ⟨a, cap, rfl, -, -, -⟩ := h.parts
  clear h
  have V := hid (heap_alloc_new w (.cells #[.int .i64 0, .int .i64 0] 28))
  have BB := hid (below_alloc1 w (.cells #[.int .i64 0, .int .i64 0] 28))
  go_enter Try.func11, Try.ntmps11
  go_wp2_with fail
  generalize w.alloc (.cells #[.int .i64 0, .int .i64 0] 28) = w0 at *
  obtain ⟨g, hg⟩ : ∃ g, g = w.heap.size := ⟨_, rfl⟩
  have LG := hid (show w.heap.size ≤ g by omega)
  rw [← hg] at V ⊢
  replace hg := hid hg
  refine (ivf _ cs _ H.out).mono ?_
  rintro e w1 ⟨rfl, hB⟩
  replace H := hid (H.out.below hB)
  replace V := hid (var_below hB V.out)
  replace BB := hid (BB.out.trans (hB.mono BB.out.size))
  clear hB
  obtain ⟨t, ht⟩ : ∃ t, t = vF cs := ⟨_, rfl⟩
  rw [← ht]
  replace ht := hid ht
  by_cases h0 : t = 0
  case neg =>
    have E := hid (nt_fault (self := self) (last := last) (show vF cs ≠ 0 by rw [← ht.out]; exact h0))
    rw [← ht.out] at E
    obtain ⟨q0, q1, z0, z1⟩ := var2_facts V.out
    have V2 := hid (var2_set (x' := .int .i64 t) (y' := .int .i64 0) V.out)
    have B2 := hid (below_set2 (x := .int .i64 t) (y := .int .i64 0) BB.out LG.out)
    go_wp2
    exact bodyPost_ret (v := .agg #[.int .i64 t, .int .i64 0]) (results_cell_row rfl _ _ g 28 _ _ _ rfl V2.out Try.underlying28 rfl (by kernel_rfl)) rfl ⟨by have e := hR.out.trans E.out; rw [e]; first | done | rfl, B2.out⟩
  subst h0
  go_wp2_with fail
  refine (nspan _ _).mono ?_
  rintro e w2 ⟨rfl, hB⟩
  replace H := hid (H.out.below hB)
  replace V := hid (var_below hB V.out)
  replace BB := hid (BB.out.trans (hB.mono BB.out.size))
  clear hB
  have VP := hid (heap_alloc_new w2 (.cells (rowSp [(self, 0, 3), (last, -1, 3)]).toArray 100))
  have hB := below_alloc1 w2 (.cells #[.int .i64 self, .int .i64 0, .int .i64 3, .int .i64 last, .int .i64 (-1), .int .i64 3] 100)
  replace H := hid (H.out.below hB)
  replace V := hid (var_below hB V.out)
  replace BB := hid (BB.out.trans (hB.mono BB.out.size))
  clear hB
  go_wp2_with fail
  refine (withinL [(self, 0, 3), (last, -1, 3)] (by simp) _ _ VP.out).mono ?_
  rintro e w3 ⟨rfl, hB⟩
  replace H := hid (H.out.below hB)
  replace V := hid (var_below hB V.out)
  replace BB := hid (BB.out.trans (hB.mono BB.out.size))
  clear hB
  clear VP
  rw [show inS [(self, 0, 3), (last, -1, 3)] = (inB self 0 3 && inB last (-1) 3) by simp [inS]]
  obtain ⟨r, hr⟩ : ∃ r, r = (inB self 0 3 && inB last (-1) 3) := ⟨_, rfl⟩
  rw [← hr]
  replace hr := hid hr
  cases r
  case false =>
    have E := hid (nt_range (self := self) (last := last) ht.out.symm hr.out.symm)
    obtain ⟨q0, q1, z0, z1⟩ := var2_facts V.out
    have V2 := hid (var2_set (x' := .int .i64 3) (y' := .int .i64 0) V.out)
    have B2 := hid (below_set2 (x := .int .i64 3) (y := .int .i64 0) BB.out LG.out)
    go_wp2
    exact bodyPost_ret (v := .agg #[.int .i64 3, .int .i64 0]) (results_cell_row rfl _ _ g 28 _ _ _ rfl V2.out Try.underlying28 rfl (by kernel_rfl)) rfl ⟨by have e := hR.out.trans E.out; rw [e]; first | done | rfl, B2.out⟩
  have RR := hid hr.out.symm
  have HN := hid (vF_n ht.out.symm)
  have HL := hid (vF_ok ht.out.symm).1
  go_wp2_with fail
  refine (inx _ cs self last _ H.out HN.out HL.out).mono ?_
  rintro e w5 ⟨rfl, hB⟩
  replace H := hid (H.out.below hB)
  replace V := hid (var_below hB V.out)
  replace BB := hid (BB.out.trans (hB.mono BB.out.size))
  clear hB
  have NQ := nxN_q self last cs HN.out
  have ENo := hid fun q => nt_none ht.out.symm RR.out q
  have ESo := hid fun q => nt_some ht.out.symm RR.out q
  obtain ⟨x, hx⟩ : ∃ x, x = nxN self last cs := ⟨_, rfl⟩
  rw [← hx] at NQ ENo ESo ⊢
  replace hx := hid hx
  by_cases q : x = -1
  case pos =>
    have E := hid (ENo.out q)
    subst q
    clear ENo ESo NQ
    obtain ⟨q0, q1, z0, z1⟩ := var2_facts V.out
    have V2 := hid (var2_set (x' := .int .i64 4) (y' := .int .i64 0) V.out)
    have B2 := hid (below_set2 (x := .int .i64 4) (y := .int .i64 0) BB.out LG.out)
    go_wp2
    exact bodyPost_ret (v := .agg #[.int .i64 4, .int .i64 0]) (results_cell_row rfl _ _ g 28 _ _ _ rfl V2.out Try.underlying28 rfl (by kernel_rfl)) rfl ⟨by have e := hR.out.trans E.out; rw [e]; first | done | rfl, B2.out⟩
  have E := hid (ESo.out q)
  have x0 : 0 ≤ x := by omega
  have n1 : (x == -1) = false := by simp [q]
  clear ENo ESo NQ
  replace q := hid q
  obtain ⟨q0, q1, z0, z1⟩ := var2_facts V.out
  have V2 := hid (var2_set (x' := .int .i64 0) (y' := .int .i64 x) V.out)
  have B2 := hid (below_set2 (x := .int .i64 0) (y := .int .i64 x) BB.out LG.out)
  go_wp2
  exact bodyPost_ret (v := .agg #[.int .i64 0, .int .i64 x]) (results_cell_row rfl _ _ g 28 _ _ _ rfl V2.out Try.underlying28 rfl (by kernel_rfl)) rfl ⟨by have e := hR.out.trans E.out; rw [e]; first | done | rfl, B2.out⟩
end Go.Proofs.Ytalaolfcdaaaoaa.W
