/-
  Whom a node asks next: the model.
-/
import Derived.Test.YtalaolfcdaaaoaaNxF
import Derived.Test.YtalaolfcdaaaoaaVwS
import Derived.Test.YtalaolfcdaaaoaaInWalks
namespace Go.Proofs.Ytalaolfcdaaaoaa.W
open Go.ChangeShapes Go.WideShapes Go.ChangeAt Go.RowKit
open Go.Proofs.Ytalaolfcdaaaoaa.M

set_option maxRecDepth 100000 in
theorem l9nodeN (n : Int) (w : World) :
    Calls Try.prog 72 #[.int .i64 n] w fun e w' => e = .returned (.bool (inB n 0 3)) ∧ w' = w := by
  go_enter Try.func72, Try.ntmps72
  go_wp2_with fail
  refine (l1in _ _ _ _).mono ?_
  rintro e w1 ⟨rfl, rfl⟩
  obtain ⟨t, ht⟩ : ∃ t, t = inB n 0 3 := ⟨_, rfl⟩
  rw [← ht]
  replace ht := hid ht
  go_wp2
  go_ret
  exact ⟨ret_vb ht.out, rfl⟩
set_option maxHeartbeats 2000000 in
set_option maxRecDepth 100000 in
theorem l9nx (v : Value) (cs : List Clm) (self last : Int) (w : World) (h : RdC w v cs) (hn : ∀ c ∈ cs, 0 ≤ c.n) (hl : cs.length ≤ 4) :
    Calls Try.prog 74 #[v, .int .i64 self, .int .i64 last] w fun e w' => e = .returned (.int .i64 (nxN self last cs)) ∧ Below w.heap.size w w' := by
  have H := hid h
  obtain ⟨a, cap, rfl, -, -, -⟩ := h.parts
  clear h
  have HN := hid hn
  clear hn
  go_enter Try.func74, Try.ntmps74
  go_wp2_with fail
  go_loopw [7, 8, 9, 10] (fun s7 s8 i s10 wr => ∃ j : Nat, ∃ u10 : Value, j ≤ cs.length ∧ i = .int .i64 ((j : Int) - 1) ∧ s7 = .int .i64 (loN self (cs.drop j)) ∧ s8 = .int .i64 (abN self last (cs.drop j)) ∧ s10 = u10 ∧ Hid (Below w.heap.size w wr)) (fun _ _ i _ _ => (intOf i + 1).toNat)
  case atStart => exact ⟨cs.length, _, by omega, rfl, by rw [List.drop_length]; rfl, by rw [List.drop_length]; rfl, rfl, hid (Below.refl _ _)⟩
  case round =>
    obtain ⟨j, u10, hj, rfl, rfl, rfl, rfl, BL⟩ := hrel
    by_cases h0 : j = 0
    · subst h0
      have Q := hid (abN_q self last cs HN.out)
      obtain ⟨x, hx⟩ : ∃ x, x = abN self last (cs.drop 0) := ⟨_, rfl⟩
      obtain ⟨y, hy⟩ : ∃ y, y = loN self (cs.drop 0) := ⟨_, rfl⟩
      rw [← hx, ← hy]
      by_cases q : 0 ≤ x
      · have E := hid (show nxN self last cs = x by rw [nxN, if_pos (by rw [List.drop_zero] at hx; omega)]; rw [List.drop_zero] at hx; exact hx.symm)
        replace hx := hid hx
        replace hy := hid hy
        go_wp2
        go_ret
        exact ⟨ret_vi E.out.symm, BL.out⟩
      · have E := hid (show nxN self last cs = y by rw [nxN, if_neg (by rw [List.drop_zero] at hx; omega)]; rw [List.drop_zero] at hy; exact hy.symm)
        replace hx := hid hx
        replace hy := hid hy
        go_wp2
        go_ret
        exact ⟨ret_vi E.out.symm, BL.out⟩
    · obtain ⟨k, rfl⟩ : ∃ k, j = k + 1 := ⟨j - 1, by omega⟩
      have hlt : k < cs.length := by omega
      obtain ⟨a', cap', e, -, -, hcs⟩ := (H.out.below BL.out).parts
      cases e
      obtain ⟨b, o, rfl, q1⟩ := hcs k hlt
      obtain ⟨c0, -, -, -⟩ := c_cells q1
      have I1 := idx_ci b o cs.length cap k hlt
      have k0 : (0 : Int) ≤ (k : Int) := by omega
      have k1 : (k : Int) < (cs.length : Int) := by omega
      have ek : ((k + 1 : Nat) : Int) - 1 = (k : Int) := by omega
      rw [ek]
      have EL := hid (show loN self (cs.drop k) = if cs[k].n = self then loN self (cs.drop (k + 1)) else cs[k].n by rw [List.drop_eq_getElem_cons hlt, loN])
      have EA := hid (show abN self last (cs.drop k) = if cs[k].n = self then abN self last (cs.drop (k + 1)) else if last < cs[k].n then cs[k].n else abN self last (cs.drop (k + 1)) by rw [List.drop_eq_getElem_cons hlt, abN])
      obtain ⟨x, hx⟩ : ∃ x, x = abN self last (cs.drop (k + 1)) := ⟨_, rfl⟩
      obtain ⟨y, hy⟩ : ∃ y, y = loN self (cs.drop (k + 1)) := ⟨_, rfl⟩
      rw [← hx] at EA ⊢
      rw [← hy] at EL ⊢
      obtain ⟨m, hm⟩ : ∃ m, m = cs[k].n := ⟨_, rfl⟩
      rw [← hm] at c0 EL EA
      clear q1 hcs hx hy hm ek
      by_cases q : m = self
      · have E1 := hid (show loN self (cs.drop k) = y by rw [EL.out, if_pos q])
        have E2 := hid (show abN self last (cs.drop k) = x by rw [EA.out, if_pos q])
        have n1 : (m == self) = true := by simp [q]
        replace q := hid q
        go_wp2
        go_roundw
        case rel => exact ⟨k, _, by omega, rfl, by rw [E1.out], by rw [E2.out], rfl, BL⟩
        case measure => simp [intOf] <;> omega
      · have n1 : (m == self) = false := by simp [q]
        have E1 := hid (show loN self (cs.drop k) = m by rw [EL.out, if_neg q])
        by_cases q2 : last < m
        · have E2 := hid (show abN self last (cs.drop k) = m by rw [EA.out, if_neg q, if_pos q2])
          replace q := hid q
          go_wp2
          go_roundw
          case rel => exact ⟨k, _, by omega, rfl, by rw [E1.out], by rw [E2.out], rfl, BL⟩
          case measure => simp [intOf] <;> omega
        · have E2 := hid (show abN self last (cs.drop k) = x by rw [EA.out, if_neg q, if_neg q2])
          replace q := hid q
          go_wp2
          go_roundw
          case rel => exact ⟨k, _, by omega, rfl, by rw [E1.out], by rw [E2.out], rfl, BL⟩
          case measure => simp [intOf] <;> omega
set_option maxHeartbeats 2000000 in
set_option maxRecDepth 100000 in
theorem snt (v : Value) (cs : List Clm) (self last : Int) (w : World) (h : RdC w v cs) :
    Calls Try.prog 14 #[v, .int .i64 self, .int .i64 last] w fun e w' => e = .returned (.agg #[.int .i64 (ntA cs self last).1, .int .i64 (ntA cs self last).2]) ∧ Below w.heap.size w w' := by
  obtain ⟨R, hR⟩ : ∃ R, R = ntA cs self last := ⟨_, rfl⟩
  rw [← hR]
  replace hR := hid hR
  have H := hid (h.below (below_alloc1 w (.cells #[.int .i64 0, .int .i64 0] 28)))
  obtain ⟨a, cap, rfl, -, -, -⟩ := h.parts
  clear h
  have V := hid (heap_alloc_new w (.cells #[.int .i64 0, .int .i64 0] 28))
  have BB := hid (below_alloc1 w (.cells #[.int .i64 0, .int .i64 0] 28))
  go_enter Try.func14, Try.ntmps14
  go_wp2_with fail
  generalize w.alloc (.cells #[.int .i64 0, .int .i64 0] 28) = w0 at *
  obtain ⟨g, hg⟩ : ∃ g, g = w.heap.size := ⟨_, rfl⟩
  have LG := hid (show w.heap.size ≤ g by omega)
  rw [← hg] at V ⊢
  replace hg := hid hg
  refine (svf _ cs _ H.out).mono ?_
  rintro e w1 ⟨rfl, hB⟩
  replace H := hid (H.out.below hB)
  replace V := hid (var_below hB V.out)
  replace BB := hid (BB.out.trans (hB.mono BB.out.size))
  clear hB
  obtain ⟨t, ht⟩ : ∃ t, t = vF cs := ⟨_, rfl⟩
  rw [← ht]
  replace ht := hid ht
  by_cases h0 : t = 0
  case neg =>
    have E := hid (nt_fault (self := self) (last := last) (show vF cs ≠ 0 by rw [← ht.out]; exact h0))
    rw [← ht.out] at E
    obtain ⟨q0, q1, z0, z1⟩ := var2_facts V.out
    have V2 := hid (var2_set (x' := .int .i64 t) (y' := .int .i64 0) V.out)
    have B2 := hid (below_set2 (x := .int .i64 t) (y := .int .i64 0) BB.out LG.out)
    go_wp2
    exact bodyPost_ret (v := .agg #[.int .i64 t, .int .i64 0]) (results_cell_row rfl _ _ g 28 _ _ _ rfl V2.out Try.underlying28 rfl (by kernel_rfl)) rfl ⟨by have e := hR.out.trans E.out; rw [e]; first | done | rfl, B2.out⟩
  subst h0
  go_wp2_with fail
  refine (l9nodeN _ _).mono ?_
  rintro e w2 ⟨rfl, hw⟩
  subst hw
  obtain ⟨r, hr⟩ : ∃ r, r = inB self 0 3 := ⟨_, rfl⟩
  rw [← hr]
  replace hr := hid hr
  cases r
  case false =>
    have E := hid (nt_range (self := self) (last := last) ht.out.symm (by rw [← hr.out]; rfl))
    obtain ⟨q0, q1, z0, z1⟩ := var2_facts V.out
    have V2 := hid (var2_set (x' := .int .i64 3) (y' := .int .i64 0) V.out)
    have B2 := hid (below_set2 (x := .int .i64 3) (y := .int .i64 0) BB.out LG.out)
    go_wp2
    exact bodyPost_ret (v := .agg #[.int .i64 3, .int .i64 0]) (results_cell_row rfl _ _ g 28 _ _ _ rfl V2.out Try.underlying28 rfl (by kernel_rfl)) rfl ⟨by have e := hR.out.trans E.out; rw [e]; first | done | rfl, B2.out⟩
  go_wp2_with fail
  refine (l1in _ _ _ _).mono ?_
  rintro e w2 ⟨rfl, hw⟩
  subst hw
  obtain ⟨r2, hr2⟩ : ∃ r, r = inB last (-1) 3 := ⟨_, rfl⟩
  rw [← hr2]
  replace hr2 := hid hr2
  cases r2
  case false =>
    have E := hid (nt_range (self := self) (last := last) ht.out.symm (by rw [← hr.out, ← hr2.out]; rfl))
    obtain ⟨q0, q1, z0, z1⟩ := var2_facts V.out
    have V2 := hid (var2_set (x' := .int .i64 3) (y' := .int .i64 0) V.out)
    have B2 := hid (below_set2 (x := .int .i64 3) (y := .int .i64 0) BB.out LG.out)
    go_wp2
    exact bodyPost_ret (v := .agg #[.int .i64 3, .int .i64 0]) (results_cell_row rfl _ _ g 28 _ _ _ rfl V2.out Try.underlying28 rfl (by kernel_rfl)) rfl ⟨by have e := hR.out.trans E.out; rw [e]; first | done | rfl, B2.out⟩
  have RR := hid (show (inB self 0 3 && inB last (-1) 3) = true by rw [← hr.out, ← hr2.out]; rfl)
  have HN := hid (vF_n ht.out.symm)
  have HL := hid (vF_ok ht.out.symm).1
  go_wp2_with fail
  refine (l9nx _ cs self last _ H.out HN.out HL.out).mono ?_
  rintro e w5 ⟨rfl, hB⟩
  replace H := hid (H.out.below hB)
  replace V := hid (var_below hB V.out)
  replace BB := hid (BB.out.trans (hB.mono BB.out.size))
  clear hB
  have NQ := nxN_q self last cs HN.out
  have ENo := hid fun q => nt_none ht.out.symm RR.out q
  have ESo := hid fun q => nt_some ht.out.symm RR.out q
  obtain ⟨x, hx⟩ : ∃ x, x = nxN self last cs := ⟨_, rfl⟩
  rw [← hx] at NQ ENo ESo ⊢
  replace hx := hid hx
  by_cases q : x = -1
  case pos =>
    have E := hid (ENo.out q)
    subst q
    clear ENo ESo NQ
    obtain ⟨q0, q1, z0, z1⟩ := var2_facts V.out
    have V2 := hid (var2_set (x' := .int .i64 4) (y' := .int .i64 0) V.out)
    have B2 := hid (below_set2 (x := .int .i64 4) (y := .int .i64 0) BB.out LG.out)
    go_wp2
    exact bodyPost_ret (v := .agg #[.int .i64 4, .int .i64 0]) (results_cell_row rfl _ _ g 28 _ _ _ rfl V2.out Try.underlying28 rfl (by kernel_rfl)) rfl ⟨by have e := hR.out.trans E.out; rw [e]; first | done | rfl, B2.out⟩
  have E := hid (ESo.out q)
  have x0 : 0 ≤ x := by omega
  have n1 : (x == -1) = false := by simp [q]
  clear ENo ESo NQ
  replace q := hid q
  obtain ⟨q0, q1, z0, z1⟩ := var2_facts V.out
  have V2 := hid (var2_set (x' := .int .i64 0) (y' := .int .i64 x) V.out)
  have B2 := hid (below_set2 (x := .int .i64 0) (y := .int .i64 x) BB.out LG.out)
  go_wp2
  exact bodyPost_ret (v := .agg #[.int .i64 0, .int .i64 x]) (results_cell_row rfl _ _ g 28 _ _ _ rfl V2.out Try.underlying28 rfl (by kernel_rfl)) rfl ⟨by have e := hR.out.trans E.out; rw [e]; first | done | rfl, B2.out⟩
end Go.Proofs.Ytalaolfcdaaaoaa.W
