/-
  What the program's tell answers: a window out of its set.
-/
import Derived.Test.YtalaolfcdaaaoaaForW
import Derived.Test.YtalaolfcdaaaoaaSrtZ
import Derived.Test.YtalaolfcdaaaoaaAppZ
namespace Go.Proofs.Ytalaolfcdaaaoaa.W
open Go.ChangeShapes Go.WideShapes Go.ChangeAt Go.RowKit Go.Maps
open Go.Proofs.Ytalaolfcdaaaoaa.M

theorem grown_set1 (w : World) (g i : Nat) (v : Value) : w.grownBy (w.setCell ⟨g, i, none⟩ v) (some g) :=
  ⟨rfl, rfl, rfl, by simp, fun k _ hne => Below.heap_setCell _ _ _ _ (show k ≠ g from fun e => hne (by rw [e]))⟩
theorem cellT1z {w : World} {g : Nat} {x y y' : Value} {T : TypeId} (h : w.heap[g]? = some (.cells #[x, y] T)) : (w.setCell ⟨g, 1, none⟩ y').heap[g]? = some (.cells #[x, y'] T) := by
  have h1 := heap_setCell_same w g 1 _ T y' h
  simpa using h1
set_option maxHeartbeats 2000000 in
set_option maxRecDepth 100000 in
theorem itel (g b nn : Nat) (top : Int) (l : List Int) (w : World) (hW : Win1 w g b nn top l) (hp : l.Pairwise (· < ·)) (hy : WfZ l) (hnn : nn ≤ 2097152) :
    Calls Try.prog 102 #[.pointer (some ⟨g, 0, none⟩)] w fun e w' => ∃ u, e = .returned (.agg #[.int .i64 top, u]) ∧ OwZ w' w.heap.size u l ∧ Below w.heap.size w w' := by
  obtain ⟨hV, D, hO, hm⟩ := hW
  have HO := hid hO
  have HM := hid hm
  have HV := hid hV
  obtain ⟨f0, f1, -, -⟩ := var2_facts hV
  clear hV hO hm
  have F0 := cell_alloc f0 (.cells #[.int .i64 0, .slice none 0 0] 69)
  have F1 := cell_alloc (cell_alloc f1 (.cells #[.int .i64 0, .slice none 0 0] 69)) (.cells #[.int .i64 top, .slice none 0 0] 69)
  have O1 := hid ((HO.out.alloc (.cells #[.int .i64 0, .slice none 0 0] 69)).alloc (.cells #[.int .i64 top, .slice none 0 0] 69))
  clear f0 f1
  go_enter Try.func102, Try.ntmps102
  go_wp2_with (at_range; refine wpList_range_own _ rfl _ 157 rfl 162 184 lawT Try.underlying157 unitElem b nn D rfl O1.out ?_; intro w1 hrg0 hg0 hs0)
  go_frame
  have VZ := hid (heap_alloc2_old w (.cells #[.int .i64 0, .slice none 0 0] 69) (.cells #[.int .i64 top, .slice none 0 0] 69))
  have VT := hid (heap_alloc2_new w (.cells #[.int .i64 0, .slice none 0 0] 69) (.cells #[.int .i64 top, .slice none 0 0] 69))
  have B0 := hid (below_alloc2 w (.cells #[.int .i64 0, .slice none 0 0] 69) (.cells #[.int .i64 top, .slice none 0 0] 69))
  have E0 : ((w.alloc (.cells #[.int .i64 0, .slice none 0 0] 69)).alloc (.cells #[.int .i64 top, .slice none 0 0] 69)).heap.size = w.heap.size + 1 + 1 := by simp
  generalize (w.alloc (.cells #[.int .i64 0, .slice none 0 0] 69)).alloc (.cells #[.int .i64 top, .slice none 0 0] 69) = w0 at *
  clear F0 F1 O1
  have LB := hid (show b < w.heap.size from World.ownsMap.lt HO.out)
  have HR := hid hrg0
  have BG := below_of_grown hg0 (Nat.le_refl _) (fun k e => by cases e)
  have VZ1 := hid (var_below BG VZ.out)
  have VT1 := hid (var_below BG VT.out)
  have B1 := hid (B0.out.trans (BG.mono B0.out.size))
  obtain ⟨gz, hgz⟩ : ∃ r, r = w.heap.size := ⟨_, rfl⟩
  obtain ⟨gt, hgt⟩ : ∃ r, r = w.heap.size + 1 := ⟨_, rfl⟩
  obtain ⟨r, hrr⟩ : ∃ r, r = w0.heap.size := ⟨_, rfl⟩
  rw [← hgt] at VT1 ⊢
  rw [← hgz] at VZ1 ⊢
  rw [← hrr] at HR ⊢
  have N1 := hid (show gz < gt by omega)
  have N2 := hid (show gt < r by omega)
  have N3 := hid (show b < gz by rw [hgz]; exact LB.out)
  have N4 := hid (show gz = w.heap.size from hgz)
  have N5 := hid (show w1.heap.size = r + 1 by omega)
  clear hgz hgt hrr hrg0 hg0 hs0 BG VZ VT B0 E0
  go_loopw [4] (fun s4 wr => ∃ (u : Value) (left : Lit → Bool) (cnt : Nat) (ss : List Int) (v : Value), s4 = u ∧ Hid (wr.ranges Try.prog 162 unitElem b r nn D left cnt) ∧ Hid (wr.heap[gt]? = some (.cells #[.int .i64 top, v] 69)) ∧ Hid (OwZ wr (r + 1) v ss) ∧ Hid ss.Nodup ∧ Hid (∀ x, x ∈ ss ↔ (Lit.int .i64 x).wf = true ∧ x ∈ l ∧ left (tk x) = false) ∧ Hid (ss.length + cnt ≤ nn) ∧ Hid (Below gt w1 wr)) (fun _ wr => wr.rangeLeft b r)
  case atStart => exact ⟨_, Maps.has D, Maps.size D, [], .slice none 0 0, rfl, HR, VT1, hid (OwZ.nil _ _), hid List.nodup_nil, hid (fun x => by
    constructor
    · intro h; simp at h
    · rintro ⟨q1, q2, q3⟩
      rw [(HM.out x q1).2 q2] at q3
      cases q3), hid (by rw [List.length_nil, Nat.zero_add]; exact World.ownsMap.size_le HO.out), hid (Below.refl _ _)⟩
  case round =>
    clear HR VT1
    obtain ⟨u, left, cnt, ss, v, rfl, HR, VT, OS, ND, ME, LN, BL⟩ := hrel
    obtain ⟨pv, cv, rfl, -, -, -⟩ := OS.out.rd.parts
    have SR := hid (show r + 1 ≤ wr.heap.size by rw [← N5.out]; exact BL.out.size)
    go_wp2_with (at_next; refine wpList_next_ranges _ rfl _ rfl 162 lawT unitElem (fun x : Int => Value.agg #[.int .i64 x]) (fun _ : Unit => Value.agg #[]) invKT invVT b r nn D left cnt rfl HR.out ?_ ?_)
    · intro _ hl0
      have HL := hid hl0
      clear hl0
      have ES := hid (ris_ext (srt_ris ss ND.out) hp fun x => by
        rw [srt_mem, ME.out x, HL.out]
        constructor
        · exact fun q => q.2.1
        · exact fun q => ⟨hy x q, q, rfl⟩)
      obtain ⟨t0, t1, t2, t3⟩ := var2_facts VT.out
      go_wp2_with fail
      clear t0 t1 t2 t3
      refine (isort _ ss (r + 1) _ OS.out (by have := LN.out; omega)).mono ?_
      rintro e w3 ⟨rfl, hO, hG⟩
      rw [ES.out] at hO
      have V3 := hid (var_grown hG VT.out (OS.out.ne (Nat.lt_succ_of_lt N2.out)))
      have Z3 := hid (var_grown hG (var_keep BL.out VZ1.out N1.out) (OS.out.ne (Nat.lt_succ_of_lt (Nat.lt_trans N1.out N2.out))))
      have BW := hid ((B1.out.trans (BL.out.mono (by rw [← N4.out]; exact Nat.le_of_lt N1.out))).trans (below_of_grown hG (Nat.le_trans B1.out.size BL.out.size) (OS.out.row (by rw [← N4.out]; exact Nat.le_of_lt (Nat.lt_succ_of_lt (Nat.lt_trans N1.out N2.out))))))
      have HS := hid (var2_set (x' := .int .i64 top) (y' := .slice pv ss.length cv) Z3.out)
      have HW := hid (below_set2 (x := .int .i64 top) (y := .slice pv ss.length cv) BW.out (Nat.le_of_eq N4.out.symm))
      have HQ := hid (show OwZ _ _ _ _ from ownsRow_setCell_below (ownsRow_setCell_below hO (a := ⟨gz, 0, none⟩) (Nat.lt_succ_of_lt (Nat.lt_trans N1.out N2.out)) (.int .i64 top)) (a := ⟨gz, 1, none⟩) (Nat.lt_succ_of_lt (Nat.lt_trans N1.out N2.out)) (.slice pv ss.length cv))
      obtain ⟨t0, t1, t2, t3⟩ := var2_facts V3.out
      obtain ⟨z0, z1, z2, z3⟩ := var2_facts Z3.out
      clear hO hG
      go_wp2
      try simp only [Exit.inBlock, Exit.then]
      refine bodyPost_ret (v := .agg #[.int .i64 top, .slice pv ss.length cv]) (results_cell_row rfl _ _ gz 69 _ _ _ rfl HS.out Try.underlying69 rfl (by kernel_rfl)) rfl ?_
      exact ⟨_, rfl, HQ.out.mono (by rw [← N4.out]; exact Nat.le_of_lt (Nat.lt_succ_of_lt (Nat.lt_trans N1.out N2.out))), HW.out⟩
    · intro x c kl y w2 cnt2 hkey hlk hv hat hrg1 hlt hg1 hs1 hen
      obtain ⟨x', ex, hwx, rfl⟩ := tk_inv hkey
      obtain rfl : x = x' := by simpa using ex
      have hen2 : (Instr.entry (.pointer (some ⟨r, 0, none⟩))).run Try.prog w2 = .ok (.tuple #[.agg #[.int .i64 x], .agg #[]]) w2 := hen
      have XS := hid (show x ∉ ss from fun q => by have := ((ME.out x).1 q).2.2; rw [hlk] at this; cases this)
      have XL := hid (show x ∈ l from (HM.out x hwx).1 (has_true_of_atKey hat))
      have WX := hid hwx
      have LT := hid hlt
      have VT2 := var_grown hg1 VT.out (fun e => absurd (Option.some.inj e) (Nat.ne_of_lt N2.out))
      have OS2 := OS.out.kept hg1 (.inr (fun e => OS.out.ne (Nat.lt_succ_self r) e.symm))
      have BL2 := BL.out.trans (below_of_grown hg1 (Nat.le_of_succ_le (Nat.le_trans (Nat.succ_le_succ (Nat.le_of_lt N2.out)) SR.out)) (fun k e => by cases e; exact Nat.le_of_lt N2.out))
      have hA := below_alloc2 w2 (.cells #[.int .i64 x] 162) (.cells #[.int .i64 x] 2)
      have VT4 := hid (var_below hA VT2)
      have VT3 := var_alloc (.cells #[.int .i64 x] 162) VT2
      have OS4 := hid (OS2.below hA)
      have BL4 := hid (BL2.trans (hA.mono (Nat.le_of_succ_le (Nat.le_trans (Nat.succ_le_succ (Nat.le_of_lt N2.out)) (Nat.le_trans SR.out hg1.size)))))
      have HR4 := hid ((hrg1.alloc (.cells #[.int .i64 x] 162)).alloc (.cells #[.int .i64 x] 2))
      have RN := hid (rdZ_one (w2.alloc (.cells #[.int .i64 x] 162)) x 2)
      rw [World.size_alloc] at RN
      have SR4 := hid (Nat.le_trans (Nat.le_trans SR.out hg1.size) hA.size)
      have VX := heap_alloc_new w2 (.cells #[.int .i64 x] 162)
      have cx : (w2.alloc (.cells #[.int .i64 x] 162)).cell? ⟨w2.heap.size, 0, none⟩ = some (.int .i64 x) := by rw [cell_of_row _ _ 0 _ _ _ VX]; rfl
      obtain ⟨t0, t1, -, -⟩ := var2_facts VT3
      have LA := hid (show ss.length + [x].length ≤ 4194304 by have := LN.out; simp; omega)
      obtain ⟨s2, hs2⟩ : ∃ z, z = ss ++ [x] := ⟨_, rfl⟩
      have HS2 := hid hs2
      clear hkey hlk hv hat hrg1 hlt hg1 hs1 hen ex hwx VT2 VT3 OS2 BL2 hA VX hs2
      go_wp2_with (at_builtin; refine list_appZ rfl _ _ rfl _ _ ss [x] (r + 1) rfl rfl OS4.out RN.out LA.out SR4.out ?_; intro v5 w5 hO hG; rw [← HS2.out] at hO; obtain ⟨pq, cq, rfl, -, -, -⟩ := hO.rd.parts; have V5 := var_grown hG VT4.out (OS4.out.ne (Nat.lt_succ_of_lt N2.out)); obtain ⟨p0, p1, p2, p3⟩ := var2_facts V5)
      have nb : some b ≠ (Value.slice pv ss.length cv).ownBlock := OS4.out.ne (Nat.lt_succ_of_lt (Nat.lt_trans N3.out (Nat.lt_trans N1.out N2.out)))
      have HR5 := (HR4.out.kept hG nb (OS4.out.ne (Nat.lt_succ_self r))).kept (grown_set1 w5 gt 1 (.slice pq s2.length cq)) (fun e => absurd (Option.some.inj e) (Nat.ne_of_lt (Nat.lt_trans N3.out N1.out))) (fun e => absurd (Option.some.inj e).symm (Nat.ne_of_lt N2.out))
      have V6 := cellT1z (y' := .slice pq s2.length cq) V5
      have O6 : OwZ _ _ _ _ := ownsRow_setCell_below hO (a := ⟨gt, 1, none⟩) (Nat.lt_succ_of_lt N2.out) (.slice pq s2.length cq)
      have B6 := (BL4.out.trans (below_of_grown hG (Nat.le_of_succ_le (Nat.le_trans (Nat.succ_le_succ (Nat.le_of_lt N2.out)) SR4.out)) (OS4.out.row (Nat.le_of_lt (Nat.lt_succ_of_lt N2.out))))).setCell (p := ⟨gt, 1, none⟩) (Nat.le_refl _) (.slice pq s2.length cq)
      refine ⟨⟨_, _, cnt2, s2, _, rfl, hid HR5, hid V6, hid O6, hid ?_, hid ?_, hid ?_, hid B6⟩, ?_⟩
      · rw [HS2.out]
        exact List.nodup_append.2 ⟨ND.out, by simp, fun a ha b hb => by rw [List.mem_singleton] at hb; subst hb; exact fun e => XS.out (e ▸ ha)⟩
      · intro z
        rw [HS2.out, List.mem_append, List.mem_singleton, ME.out z]
        by_cases e : z = x
        · subst e
          rw [tk_self]
          constructor
          · intro; exact ⟨WX.out, XL.out, by simp⟩
          · intro; exact .inr rfl
        · constructor
          · rintro (⟨q1, q2, q3⟩ | q)
            · exact ⟨q1, q2, by rw [q3]; rfl⟩
            · exact absurd q e
          · rintro ⟨q1, q2, q3⟩
            rw [sameKey_ne (fun q => e (tk_inj q1 WX.out q))] at q3
            exact .inl ⟨q1, q2, by simpa using q3⟩
      · rw [HS2.out, List.length_append, List.length_singleton]
        have := LN.out
        have := LT.out
        omega
      · rw [HR5.left_eq, HR.out.left_eq]
        exact LT.out
end Go.Proofs.Ytalaolfcdaaaoaa.W
