/-
  The law of rows and columns, out of the contracts of its callees.
-/
import Derived.Test.YtaopocjagikacaaRowsF
import Derived.Test.YtaopocjagikacaaDrawB
import Derived.Test.YtaopocjagikacaaLwWalks
import Derived.Test.YtaopocjagikacaaSsbWalks
import Derived.Test.YtaopocjagikacaaSshWalks
import Derived.Test.YtaopocjagikacaaSmxWalks
import Derived.Test.YtaopocjagikacaaIsbWalks
import Derived.Test.YtaopocjagikacaaIshWalks
import Derived.Test.YtaopocjagikacaaImxWalks
import Derived.StillTailTactics
namespace Go.Proofs.Ytaopocjagikacaa.W
open Go.ChangeShapes Go.WideShapes Go.ChangeAt Go.RowKit
open Go.Proofs.Ytaopocjagikacaa.M

theorem blkB_ok (f : List Nat → List Nat) (l : List Nat) (h : l.length = 16) : blkB f l = f l := by rw [blkB, if_pos h]
theorem idx_s2 (g o n c j : Nat) (hj : j < n) (w : World) : (Instr.indexAt 22 (.slice (some ⟨g, o, none⟩) n c) (.int .i64 (j : Int))).run Try.prog w = .ok (.pointer (some ⟨g, o + j, none⟩)) w := by
  have hs : ∀ w : World, (sizeOf (Try.prog.elem 22)).run Try.prog w = .ok 1 w := fun _ => by kernel_rfl
  rw [run_indexAt_slice (P := Try.prog) w 22 _ n c .i64 (j : Int) (by kernel_rfl)]
  simp [hs, hj, Result.andThen, Addr.add_lit]
theorem keep2 {W a b : World} {p q : Nat} {x1 x2 : Value}
    (h : Below W.heap.size W a ∧ a.cell? ⟨p, 1, none⟩ = some x1 ∧ a.cell? ⟨q, 1, none⟩ = some x2) (hB : Below a.heap.size a b) :
    Below W.heap.size W b ∧ b.cell? ⟨p, 1, none⟩ = some x1 ∧ b.cell? ⟨q, 1, none⟩ = some x2 :=
  ⟨h.1.trans (hB.mono h.1.size), cell_kept hB h.2.1, cell_kept hB h.2.2⟩
theorem sam_self (l : List Nat) : sameS l l = true := by simp [sameS]
theorem keep3 {W a b : World} {p q r : Nat} {x1 x2 x3 : Value}
    (h : Below W.heap.size W a ∧ a.cell? ⟨p, 0, none⟩ = some x1 ∧ a.cell? ⟨q, 0, none⟩ = some x2 ∧ a.cell? ⟨r, 0, none⟩ = some x3) (hB : Below a.heap.size a b) :
    Below W.heap.size W b ∧ b.cell? ⟨p, 0, none⟩ = some x1 ∧ b.cell? ⟨q, 0, none⟩ = some x2 ∧ b.cell? ⟨r, 0, none⟩ = some x3 :=
  ⟨h.1.trans (hB.mono h.1.size), cell_kept hB h.2.1, cell_kept hB h.2.2.1, cell_kept hB h.2.2.2⟩

set_option maxHeartbeats 4000000 in
set_option maxRecDepth 100000 in
theorem law_rows (v : Value) (l : List Nat) (w : World) (h : Rd w v l) (y : Byt l) :
    Calls Try.prog 6 #[v] w fun e w' => e = .returned (.bool true) ∧ Below w.heap.size w w' := by
  have H := hid h
  obtain ⟨q, cap, rfl, _, _, _⟩ := h.parts
  clear h
  by_cases hl : l.length ≤ 1048576
  · go_enter Try.func6, Try.ntmps6
    go_wp2_with (go_at_call 8; go_in)
    refine (drawSh _ l _ H.out y hl).mono ?_
    rintro e w1 ⟨gd, cd, d, rfl, hd, yd, OD, hBel⟩
    have HD := hid hd
    replace OD := OD.x
    clear H hd
    have n0 : ∃ n, n = d.length := ⟨_, rfl⟩
    obtain ⟨n, hn⟩ := n0
    rw [← hn] at OD ⊢
    have Hn := hid hn
    clear hn
    go_wp2_with fail
    refine (isb _ d _ OD.rd yd).mono ?_
    rintro e w2 ⟨vs, rfl, OS, hB⟩
    obtain ⟨pS, cS, rfl, -, -, -⟩ := OS.rd.parts
    replace OS := OS.mono hBel.size
    replace OD := OD.below hB
    replace hBel := hBel.trans (hB.mono hBel.size)
    clear hB
    go_wp2_with fail
    refine (ish _ d _ (OD.below (below_alloc1 w2 _)).rd yd).mono ?_
    rintro e w3 ⟨vr, rfl, OR, hB⟩
    obtain ⟨pR, cR, rfl, -, -, -⟩ := OR.rd.parts
    have VS := var_below hB (heap_alloc_new w2 (.cells #[.int .i64 (blkC d), .slice pS (blkB sbl d).length cS] 33))
    replace hB := (below_alloc1 w2 (.cells #[.int .i64 (blkC d), .slice pS (blkB sbl d).length cS] 33)).trans (hB.mono (by simp))
    replace OR := OR.mono (base' := w.heap.size) (by have := hBel.size; simp; omega)
    replace OS := OS.below hB
    replace OD := OD.below hB
    replace hBel := hBel.trans (hB.mono hBel.size)
    clear hB
    have sS := var_lt VS
    go_wp2_with fail
    refine (imx _ d _ (OD.below (below_alloc1 w3 _)).rd yd).mono ?_
    rintro e w4 ⟨vm, rfl, OM, hB⟩
    obtain ⟨pM, cM, rfl, -, -, -⟩ := OM.rd.parts
    have VR := var_below hB (heap_alloc_new w3 (.cells #[.int .i64 (blkC d), .slice pR (blkB shl d).length cR] 33))
    replace hB := (below_alloc1 w3 (.cells #[.int .i64 (blkC d), .slice pR (blkB shl d).length cR] 33)).trans (hB.mono (by simp))
    replace OM := OM.mono (base' := w.heap.size) (by have := hBel.size; simp; omega)
    replace OR := OR.below hB
    replace OS := OS.below hB
    replace OD := OD.below hB
    replace VS := var_below hB VS
    replace hBel := hBel.trans (hB.mono hBel.size)
    clear hB sS
    have sS := var_lt VS
    have sR := var_lt VR
    go_wp2_with fail
    have VM := heap_alloc_new w4 (.cells #[.int .i64 (blkC d), .slice pM (blkB mxl d).length cM] 33)
    have RS := (OS.below (below_alloc1 w4 (.cells #[.int .i64 (blkC d), .slice pM (blkB mxl d).length cM] 33))).rd
    have RR := (OR.below (below_alloc1 w4 (.cells #[.int .i64 (blkC d), .slice pM (blkB mxl d).length cM] 33))).rd
    have RM := (OM.below (below_alloc1 w4 (.cells #[.int .i64 (blkC d), .slice pM (blkB mxl d).length cM] 33))).rd
    have RD := (OD.below (below_alloc1 w4 (.cells #[.int .i64 (blkC d), .slice pM (blkB mxl d).length cM] 33))).rd
    replace VS := var_alloc (.cells #[.int .i64 (blkC d), .slice pM (blkB mxl d).length cM] 33) VS
    replace VR := var_alloc (.cells #[.int .i64 (blkC d), .slice pM (blkB mxl d).length cM] 33) VR
    replace hBel := hBel.alloc hBel.size (.cells #[.int .i64 (blkC d), .slice pM (blkB mxl d).length cM] 33)
    clear OS OR OM OD sS sR
    generalize w4.alloc (.cells #[.int .i64 (blkC d), .slice pM (blkB mxl d).length cM] 33) = wz at *
    generalize w2.heap.size = gs at *
    generalize w3.heap.size = gr at *
    generalize w4.heap.size = gm at *
    obtain ⟨a0, a1, -, -⟩ := var2_facts VS
    obtain ⟨b0, b1, -, -⟩ := var2_facts VR
    obtain ⟨m0, m1, -, -⟩ := var2_facts VM
    have CB := hid (fun (wq : World) (hb : Below wz.heap.size wz wq) => (ssb _ d wq (RD.below hb) yd).mono (R' := fun e w' => ∃ (p : Option Addr) (m cc : Nat), e = .returned (.agg #[.int .i64 (blkC d), .slice p m cc]) ∧ Below wq.heap.size wq w') (fun e w' ⟨r, he, ho, hb⟩ => by
      obtain ⟨p, cc, rfl, -, -, -⟩ := ho.rd.parts
      exact ⟨p, _, cc, he, hb⟩))
    have HBel := hid hBel
    have HRS := hid RS
    have HRR := hid RR
    have HRM := hid RM
    have HRD := hid RD
    have HVS := hid VS
    have HVR := hid VR
    have HVM := hid VM
    have HSL := hid (rfl : blkB sbl d = blkB sbl d)
    have CD := hid (rfl : blkC d = blkC d)
    obtain ⟨c, hc⟩ : ∃ c, c = blkC d := ⟨_, rfl⟩
    rw [← hc] at a0 b0 m0 CB HVS HVR HVM
    simp only [← hc]
    have Hc := hid hc
    have tc : (c != c) = false := by simp
    have hf0 : ∀ (x : Int) (p : Option Addr) (m cc : Nat) (w : World), (Instr.field 33 (.agg #[.int .i64 x, .slice p m cc]) 0).run Try.prog w = .ok (.int .i64 x) w := fun _ _ _ _ _ => by kernel_rfl
    have hf1 : ∀ (x : Int) (p : Option Addr) (m cc : Nat) (w : World), (Instr.field 33 (.agg #[.int .i64 x, .slice p m cc]) 1).run Try.prog w = .ok (.slice p m cc) w := fun _ _ _ _ _ => by kernel_rfl
    clear hBel RS RR RM RD VS VR VM HSL CD hc
    go_region_held3 (fun w' => Below wz.heap.size wz w' ∧ w'.cell? ⟨gs, 0, none⟩ = some (.int .i64 c) ∧ w'.cell? ⟨gr, 0, none⟩ = some (.int .i64 c) ∧ w'.cell? ⟨gm, 0, none⟩ = some (.int .i64 c))
      (first | exact ⟨(Below.refl _ _).drew, a0, b0, m0⟩ | exact ⟨Below.refl _ _, a0, b0, m0⟩ | exact keep3 ‹_ ∧ _ ∧ _ ∧ _› hz)
      ((go_at_call 41; refine (CB.out _ ?_).mono ?_; exact (‹Below wz.heap.size wz _ ∧ _›).1; rintro e wq ⟨pq, mq, cq, rfl, hz⟩))
    have hS := ‹Below wz.heap.size wz _ ∧ _›
    have hB := hS.1
    replace HRS := hid (HRS.out.below hB)
    replace HRR := hid (HRR.out.below hB)
    replace HRM := hid (HRM.out.below hB)
    replace HRD := hid (HRD.out.below hB)
    replace HVS := hid (var_below hB HVS.out)
    replace HVR := hid (var_below hB HVR.out)
    replace HVM := hid (var_below hB HVM.out)
    replace HBel := hid (HBel.out.trans (hB.mono HBel.out.size))
    clear hS hB a0 a1 b0 b1 m0 m1 CB hz
    clear ‹_ ∧ _ ∧ _ ∧ _›
    obtain ⟨a0, a1, -, -⟩ := var2_facts HVS.out
    by_cases h16 : n = 16
    · have hc0 : c = 0 := by rw [Hc.out, blkC, if_pos (by rw [← Hn.out]; exact h16)]
      subst hc0
      have LD := hid (show d.length = 16 by rw [← Hn.out]; exact h16)
      subst h16
      have ES := blkB_ok sbl d LD.out
      have ER := blkB_ok shl d LD.out
      have EM := blkB_ok mxl d LD.out
      rw [ES] at HRS HVS a1
      rw [ER] at HRR HVR
      rw [EM] at HRM HVM
      rw [sbl_len, LD.out] at HRS HVS a1
      rw [shl_len] at HRR HVR
      rw [mxl_len] at HRM HVM
      clear ES ER EM tc Hc Hn
      clear hl
      go_wp2_with fail
      go_loopw [7, 8, 9] (fun sx sy si ws => ∃ (k : Nat) (px py : Option Addr) (cx cy : Nat), k ≤ 4 ∧ si = .int .i64 k ∧ sx = .slice px 16 cx ∧ sy = .slice py 16 cy ∧ Rd ws (.slice px 16 cx) (itn shl d k) ∧ Rd ws (.slice py 16 cy) (itn mxl d k) ∧ Below wq.heap.size wq ws) (fun _ _ si _ => 4 - (intOf si).toNat)
      case atStart => exact ⟨0, _, _, _, _, by omega, rfl, rfl, rfl, HRD.out, HRD.out, Below.refl _ _⟩
      case round =>
        obtain ⟨k, px, py, cx, cy, hk, rfl, rfl, rfl, RX, RY, hW⟩ := hrel
        by_cases hlt : k < 4
        · have HX := hid RX
          have HY := hid RY
          have HW := hid hW
          have lx := hid (itn_len shl shl_len d LD.out k)
          have ly := hid (itn_len mxl mxl_len d LD.out k)
          have bx := hid (itn_byt shl (fun l h => shl_byt l h) d yd k)
          have by' := hid (itn_byt mxl (fun l h => mxl_byt l h) d yd k)
          clear RX RY hW
          go_wp2_with fail
          refine (ish_ok _ (itn shl d k) _ HX.out bx.out lx.out).mono ?_
          rintro e x1 ⟨r1, rfl, O1, hB1⟩
          obtain ⟨p1, c1, rfl, -, -, -⟩ := O1.rd.parts
          have R1 := O1.rd
          rw [shl_len] at R1 ⊢
          replace HY := hid (HY.out.below hB1)
          replace HW := hid (HW.out.trans (hB1.mono HW.out.size))
          replace R1 := hid R1
          clear O1 hB1
          go_wp2_with fail
          refine (imx_ok _ (itn mxl d k) _ HY.out by'.out ly.out).mono ?_
          rintro e x2 ⟨r2, rfl, O2, hB2⟩
          obtain ⟨p2, c2, rfl, -, -, -⟩ := O2.rd.parts
          have R2 := O2.rd
          rw [mxl_len] at R2 ⊢
          replace R1 := hid (R1.out.below hB2)
          replace HW := hid (HW.out.trans (hB2.mono HW.out.size))
          replace R2 := hid R2
          clear O2 hB2
          go_wp2_with fail
          exact ⟨⟨k + 1, _, _, _, _, hlt, num_succ k, rfl, rfl, R1.out, R2.out, HW.out⟩, meas 4 k hlt⟩
        · have hk4 : k = 4 := by omega
          subst hk4
          rw [show ((4 : Nat) : Int) = 4 from rfl]
          rw [show itn shl d 4 = shl (shl (shl (shl d))) from rfl, sh4 d LD.out] at RX
          rw [show itn mxl d 4 = mxl (mxl (mxl (mxl d))) from rfl, mx4 d LD.out yd] at RY
          have HX := hid RX
          have HY := hid RY
          have SS := sam_self d
          replace HRS := hid (HRS.out.below hW)
          replace HRR := hid (HRR.out.below hW)
          replace HRM := hid (HRM.out.below hW)
          replace HRD := hid (HRD.out.below hW)
          replace HVS := hid (var_below hW HVS.out)
          replace HVR := hid (var_below hW HVR.out)
          replace HVM := hid (var_below hW HVM.out)
          replace HBel := hid (HBel.out.trans (hW.mono HBel.out.size))
          clear RX RY hW a0 a1 hk hlt
          obtain ⟨wy, rfl⟩ : ∃ wy, wy = wr := ⟨_, rfl⟩
          obtain ⟨a0, a1, -, -⟩ := var2_facts HVS.out
          go_wp2_with fail
          refine (lwsame _ _ d d _ HX.out HRD.out).mono ?_
          rintro e x1 ⟨rfl, rfl⟩
          go_wp2_with fail
          refine (lwsame _ _ d d _ HY.out HRD.out).mono ?_
          rintro e x1 ⟨rfl, rfl⟩
          clear HX HY
          go_wp2_with fail
          go_loopw [10] (fun si ws => ∃ k : Nat, k ≤ 16 ∧ si = .int .i64 k ∧ Below x1.heap.size x1 ws) (fun si _ => 16 - (intOf si).toNat)
          case atStart => exact ⟨0, by omega, rfl, Below.refl _ _⟩
          case round =>
            obtain ⟨k, hk, rfl, hW⟩ := hrel
            by_cases hlt : k < 16
            · obtain ⟨bS, oS, cS', eS, -, -⟩ := HRS.out.spot (by rw [sbl_len, LD.out]; omega)
              simp only [Value.slice.injEq] at eS
              obtain ⟨rfl, -, rfl⟩ := eS
              have c1 := cell_kept hW (HRS.out.cells k (by rw [sbl_len, LD.out]; exact hlt))
              have c2 := cell_kept hW (HRD.out.cells k (by rw [LD.out]; exact hlt))
              have e : gt (sbl d) k = sbx (gt d k) := by rw [gt_eq d k (by rw [LD.out]; exact hlt), gt_eq (sbl d) k (by rw [sbl_len, LD.out]; exact hlt)]; simp [sbl]
              rw [e] at c1
              have z1 := gt_byt d yd k
              have a1' := cell_kept hW a1
              have I1 := idx_s2 bS oS 16 cS k hlt
              have I2 := idx_s2 gd 0 16 cd k hlt
              have ts : (((sbx (gt d k) : Nat) : Int) != ((sbx (gt d k) : Nat) : Int)) = false := by simp
              have k0 : (0 : Int) ≤ (k : Int) := by omega
              have k1 : (k : Int) < 16 := by omega
              have HW := hid hW
              clear e hW a0 a1
              rw [Nat.zero_add] at c2 I2
              generalize gt d k = z at *
              go_wp2_with fail
              refine wp_region_still_lit (by kernel_rfl) (by kernel_rfl) ?_
              change wpStill _ _ (World.drew _) _ _ _
              repeat still_step
              still_call (ssub z z1 _)
              repeat still_step
              refine wpStill_nil ?_
              change Exit.then _ _ _ _ (World.drew _)
              go_wp2
              exact ⟨⟨k + 1, hlt, num_succ k, HW.out.drew⟩, meas 16 k hlt⟩
            · have hk16 : k = 16 := by omega
              subst hk16
              replace HRR := hid (HRR.out.below hW)
              replace HRM := hid (HRM.out.below hW)
              replace HRD := hid (HRD.out.below hW)
              replace HBel := hid (HBel.out.trans (hW.mono HBel.out.size))
              obtain ⟨-, b1, -, -⟩ := var2_facts (var_below hW HVR.out)
              obtain ⟨-, m1, -, -⟩ := var2_facts (var_below hW HVM.out)
              have C1 := hid (fun (wq : World) (hb : Below wr.heap.size wr wq) => (ssh_ok _ d wq (HRD.out.below hb) yd LD.out).mono (R' := fun e w' => ∃ (p : Option Addr) (cc : Nat), e = .returned (.agg #[.int .i64 0, .slice p 16 cc]) ∧ Rd w' (.slice p 16 cc) (shl d) ∧ Below wq.heap.size wq w') (fun e w' ⟨r, he, ho, hb⟩ => by
                have q := ho.rd
                obtain ⟨p, cc, rfl, -, -, -⟩ := q.parts
                rw [shl_len] at he q
                exact ⟨p, cc, he, q, hb⟩))
              have C2 := hid (fun (wq : World) (hb : Below wr.heap.size wr wq) => (smx_ok _ d wq (HRD.out.below hb) yd LD.out).mono (R' := fun e w' => ∃ (p : Option Addr) (cc : Nat), e = .returned (.agg #[.int .i64 0, .slice p 16 cc]) ∧ Rd w' (.slice p 16 cc) (mxl d) ∧ Below wq.heap.size wq w') (fun e w' ⟨r, he, ho, hb⟩ => by
                have q := ho.rd
                obtain ⟨p, cc, rfl, -, -, -⟩ := q.parts
                rw [mxl_len] at he q
                exact ⟨p, cc, he, q, hb⟩))
              have C3 := hid (fun (t : List Nat) (wq : World) (va vb : Value) (ha : Rd wq va t) (hb : Rd wq vb t) => (lwsame va vb t t wq ha hb).mono (R' := fun e w' => e = .returned (.bool true) ∧ Below wq.heap.size wq w') (fun e w' ⟨he, hw⟩ => by
                rw [sam_self] at he
                exact ⟨he, by rw [hw]; exact Below.refl _ _⟩))
              clear hW HRS HVS HVR HVM a0 a1 hk hlt SS
              go_wp2_with fail
              go_region_held3 (fun w' => Below wr.heap.size wr w' ∧ w'.cell? ⟨gr, 1, none⟩ = some (.slice pR 16 cR) ∧ w'.cell? ⟨gm, 1, none⟩ = some (.slice pM 16 cM))
                (first | exact ⟨(Below.refl _ _).drew, b1, m1⟩ | exact ⟨Below.refl _ _, b1, m1⟩ | exact keep2 ‹_ ∧ _ ∧ _› hz)
                (first | (go_at_call 42; refine (C1.out _ ?_).mono ?_; exact (‹Below wr.heap.size wr _ ∧ _›).1; rintro e wq ⟨pq, cq, rfl, hq, hz⟩) | (go_at_call 43; refine (C2.out _ ?_).mono ?_; exact (‹Below wr.heap.size wr _ ∧ _›).1; rintro e wq ⟨pq, cq, rfl, hq, hz⟩) | (go_at_call 28; refine (C3.out _ _ _ _ ?_ hq).mono ?_; (first | exact HRR.out.below (‹Below wr.heap.size wr _ ∧ _›).1 | exact HRM.out.below (‹Below wr.heap.size wr _ ∧ _›).1); rintro e wx ⟨rfl, hz⟩))
              have hS := ‹Below wr.heap.size wr _ ∧ _›
              have HF := hid (HBel.out.trans (hS.1.mono HBel.out.size))
              clear hS
              go_wp2
              go_ret
              exact ⟨rfl, HF.out⟩
    · have hc2 : c = 2 := by rw [Hc.out, blkC, if_neg (by rw [← Hn.out]; exact h16)]
      subst hc2
      go_wp2
      go_ret
      exact ⟨rfl, HBel.out⟩
  · go_enter Try.func6, Try.ntmps6
    go_wp2_with (go_at_call 8; go_in)
    go_ret
    exact ⟨rfl, Below.refl _ _⟩
end Go.Proofs.Ytaopocjagikacaa.W
