/-
  A letter that is sealed: what the model's SealLetter answers.
  The faults of a ring: what the program's keyFault and idsRise answer.
  The bytes of a slice as an array: of no function.
  The map of a ring's keys: what put and has do.
  A ring as the program works with it: what keyringOf answers.
  A key's bytes, looked up in a ring's map, in every world in which the map is what it was.
  Steps of a region that draws its order: a whole array loaded or stored.
  Marks and heads: what the program's isMarked and isRight answer.
  The head of a letter: what the program's headOfLetter answers.
  The fault of a letter: what LetterFault of the program answers.
  Numbers as bytes: PackWord of the program, where the number fits.
  Nonces and heads: what the program's NonceOf and HeadOf answer.
  Group elements in memory.
  Blocks as arrays: their size.
  What a key and a nonce tell, in memory: the program's sealer.
  A word turned: what the program's method turned answers.
  A byte times the power 1: what the program's timesPowerOne answers.
  The constants of the rounds: what the program's RoundConstant answers.
-/
import Derived.Test.YtckgjghpfjinfakGreatGESealLetter1
import Derived.Test.YtckgjghpfjinfakGreatInWalks
import Derived.Test.YtckgjghpfjinfakGreatRfF
import Derived.Deep.RegionHeld3
import Derived.Test.YtckgjghpfjinfakGreatSlX
import Derived.Test.YtckgjghpfjinfakGreatRng
import Derived.Maps.OwnSet
import Derived.Deep.DeepCutAuto
import Derived.Deep.RegionLaw
import Derived.Test.YtckgjghpfjinfakGreatWithin
import Derived.Test.YtckgjghpfjinfakGreatEnvF
import Derived.Test.YtckgjghpfjinfakGreatBase
import Derived.Test.YtckgjghpfjinfakGreatLfS
import Derived.Test.YtckgjghpfjinfakGreatPack
import Derived.Test.YtckgjghpfjinfakGreatEnvW
import Derived.Test.YtckgjghpfjinfakGreatGrpF
import Derived.Test.YtckgjghpfjinfakGreatCtrF
import Derived.Test.YtckgjghpfjinfakGreatBox
import Derived.StillTailTactics
import Derived.Test.YtckgjghpfjinfakGreatRows
import Derived.Test.YtckgjghpfjinfakGreatBytes
import Derived.WalkKit
import Derived.ProofKit
import Derived.WalkSpells

namespace Go.Proofs.YtckgjghpfjinfakGreat.W
open Go.ChangeShapes Go.WideShapes Go.ChangeAt Go.RowKit
open Go.Proofs.YtckgjghpfjinfakGreat.M

set_option maxHeartbeats 4000000 in
set_option maxRecDepth 100000 in
theorem ssealL (p k s n : Int) (v vt : Value) (ks : List (Int × List Nat)) (l : List Nat) (c : Int) (t : List Nat) (w : World) (h : RdK w v ks) (hl : Rd w vt l) (yk : KBy ks) (yl : Byt l) (hF : slIs p ks k s n l c t) :
    Calls Tryz.prog 6 #[.agg #[.int .i64 p, v], .agg #[.int .i64 k, .int .i64 s, .int .i64 n, vt]] w fun e w' => ∃ v', e = .returned (.agg #[.int .i64 c, v']) ∧ Rd w' v' t ∧ Below w.heap.size w w' := by
  have H := hid h
  have HL := hid hl
  have HF := hid hF
  have YK := hid yk
  have YL := hid yl
  obtain ⟨a, cap, rfl, -, -, -⟩ := h.parts
  obtain ⟨al, capl, rfl, hlc, hcm, -⟩ := hl.parts
  have LM := hid (Nat.le_trans hlc hcm)
  clear h hl hF yk yl hlc hcm
  have VA := hid (show (((w.alloc (.cells #[.int .i64 p, .slice a ks.length cap] 35)).alloc (.cells #[.int .i64 k, .int .i64 s, .int .i64 n, .slice al l.length capl] 37)).alloc (.cells #[.int .i64 0, .slice none 0 0] 31)).heap[w.heap.size]? = some (.cells #[.int .i64 p, .slice a ks.length cap] 35) from var_alloc (.cells #[.int .i64 0, .slice none 0 0] 31) (heap_alloc2_old w (.cells #[.int .i64 p, .slice a ks.length cap] 35) (.cells #[.int .i64 k, .int .i64 s, .int .i64 n, .slice al l.length capl] 37)))
  have VL := hid (show (((w.alloc (.cells #[.int .i64 p, .slice a ks.length cap] 35)).alloc (.cells #[.int .i64 k, .int .i64 s, .int .i64 n, .slice al l.length capl] 37)).alloc (.cells #[.int .i64 0, .slice none 0 0] 31)).heap[w.heap.size + 1]? = some (.cells #[.int .i64 k, .int .i64 s, .int .i64 n, .slice al l.length capl] 37) from var_alloc (.cells #[.int .i64 0, .slice none 0 0] 31) (heap_alloc2_new w (.cells #[.int .i64 p, .slice a ks.length cap] 35) (.cells #[.int .i64 k, .int .i64 s, .int .i64 n, .slice al l.length capl] 37)))
  have VR : (((w.alloc (.cells #[.int .i64 p, .slice a ks.length cap] 35)).alloc (.cells #[.int .i64 k, .int .i64 s, .int .i64 n, .slice al l.length capl] 37)).alloc (.cells #[.int .i64 0, .slice none 0 0] 31)).heap[w.heap.size + 1 + 1]? = some (.cells #[.int .i64 0, .slice none 0 0] 31) := by
    have h := heap_alloc_new ((w.alloc (.cells #[.int .i64 p, .slice a ks.length cap] 35)).alloc (.cells #[.int .i64 k, .int .i64 s, .int .i64 n, .slice al l.length capl] 37)) (.cells #[.int .i64 0, .slice none 0 0] 31)
    rw [World.size_alloc, World.size_alloc] at h
    exact h
  have BB := hid (show Below w.heap.size w (((w.alloc (.cells #[.int .i64 p, .slice a ks.length cap] 35)).alloc (.cells #[.int .i64 k, .int .i64 s, .int .i64 n, .slice al l.length capl] 37)).alloc (.cells #[.int .i64 0, .slice none 0 0] 31)) from (((Below.refl _ _).alloc (Nat.le_refl _) _).alloc (by simp) _).alloc (by simp; omega) _)
  replace H := hid (H.out.below BB.out)
  replace HL := hid (HL.out.below BB.out)
  replace VR := hid VR
  go_enter Tryz.func6, Tryz.ntmps6
  go_wp2_with fail
  generalize (((w.alloc (.cells #[.int .i64 p, .slice a ks.length cap] 35)).alloc (.cells #[.int .i64 k, .int .i64 s, .int .i64 n, .slice al l.length capl] 37)).alloc (.cells #[.int .i64 0, .slice none 0 0] 31)) = w0 at *
  obtain ⟨g2, hg2⟩ : ∃ g, g = w.heap.size + 1 + 1 := ⟨_, rfl⟩
  obtain ⟨g1, hg1⟩ : ∃ g, g = w.heap.size + 1 := ⟨_, rfl⟩
  obtain ⟨g, hg⟩ : ∃ g, g = w.heap.size := ⟨_, rfl⟩
  have LG := hid (show w.heap.size ≤ g2 by omega)
  rw [← hg2] at VR ⊢
  rw [← hg1] at VL ⊢
  rw [← hg] at VA ⊢
  clear hg hg1 hg2
  refine (srf p _ ks _ H.out).mono ?_
  rintro e w1 ⟨rfl, hB⟩
  replace VA := hid (var_below hB VA.out)
  replace VL := hid (var_below hB VL.out)
  replace VR := hid (var_below hB VR.out)
  replace H := hid (H.out.below hB)
  replace HL := hid (HL.out.below hB)
  replace BB := hid (BB.out.trans (hB.mono BB.out.size))
  clear hB
  obtain ⟨f, hf⟩ : ∃ f, f = rF p ks := ⟨_, rfl⟩
  rw [← hf]
  by_cases h0 : f = 0
  · subst h0
    obtain ⟨k1, k3, k16, -, -⟩ := rF_parts hf.symm
    replace hf := hid hf
    have K16 := hid (fun i hi => (k16 i hi).2)
    clear k16
    obtain ⟨⟨d0, d1, d2, d3⟩, -⟩ := var4_facts VL.out
    go_wp2_with fail
    clear d0 d1 d2 d3
    refine (slf k s n _ _ _ _ LM.out).mono ?_
    rintro e w2 ⟨rfl, hB⟩
    replace VA := hid (var_below hB VA.out)
    replace VL := hid (var_below hB VL.out)
    replace VR := hid (var_below hB VR.out)
    replace H := hid (H.out.below hB)
    replace HL := hid (HL.out.below hB)
    replace BB := hid (BB.out.trans (hB.mono BB.out.size))
    clear hB
    obtain ⟨fl, hfl⟩ : ∃ f, f = lF k s n l.length := ⟨_, rfl⟩
    rw [← hfl]
    by_cases h1 : fl = 0
    · subst h1
      obtain ⟨hok, l300⟩ := lF_zero hfl.symm
      have HOK := hid hok
      replace hfl := hid hfl
      clear hok
      obtain ⟨⟨d0, d1, d2, d3⟩, -⟩ := var4_facts VL.out
      go_wp2_with fail
      clear d0 d1 d2 d3
      refine (l4find g p k _ ks _ VA.out H.out (by omega)).mono ?_
      rintro e w3 ⟨r, rfl, hr, hB⟩
      replace VA := hid (var_below hB VA.out)
      replace VL := hid (var_below hB VL.out)
      replace VR := hid (var_below hB VR.out)
      replace H := hid (H.out.below hB)
      replace HL := hid (HL.out.below hB)
      replace BB := hid (BB.out.trans (hB.mono BB.out.size))
      clear hB
      rcases hr with ⟨rfl, hN⟩ | ⟨i, hi, rfl, he, hnn⟩
      · obtain ⟨rfl, rfl⟩ := sl_none HF.out hf.out.symm hfl.out.symm hN
        replace hN := hid hN
        obtain ⟨r0, r1, y0, y1⟩ := var2_facts VR.out
        have hset := hid (var2_set (x' := .int .i64 4) (y' := .slice none 0 0) VR.out)
        have hbel := hid (below_set2 (x := .int .i64 4) (y := .slice none 0 0) (g := g2) BB.out LG.out)
        go_wp2
        try simp only [Exit.inBlock, Exit.then]
        exact bodyPost_ret (v := .agg #[.int .i64 4, .slice none 0 0]) (results_cell_row rfl _ _ g2 31 _ _ _ rfl hset.out Tryz.underlying31 rfl (by kernel_rfl)) rfl ⟨_, rfl, Rd.nil _, hbel.out⟩
      · replace hnn := hid hnn
        obtain ⟨rfl, rfl⟩ := sl_ok HF.out hf.out.symm hfl.out.symm i hi he
        obtain ⟨kn, ek⟩ : ∃ x : Nat, k = x := ⟨k.toNat, by have := HOK.out.1; omega⟩
        obtain ⟨sn, es⟩ : ∃ x : Nat, s = x := ⟨s.toNat, by have := HOK.out.2.1; omega⟩
        obtain ⟨nn, en⟩ : ∃ x : Nat, n = x := ⟨n.toNat, by have := HOK.out.2.2; omega⟩
        subst ek es en
        obtain ⟨a', ca', e, -, -, hcs⟩ := H.out.parts
        cases e
        obtain ⟨b, o, u, rfl, q1, q2, q3⟩ := hcs i hi
        obtain ⟨pu, cu, rfl, -, -, -⟩ := q3.parts
        have RK := hid q3
        have I1 := idx_kf b o ks.length cap i hi
        have i0 : (0 : Int) ≤ (i : Int) := by omega
        have i1 : (i : Int) < (ks.length : Int) := by omega
        have j0 : ¬ ((i : Int) < 0) := by omega
        obtain ⟨f0, f1, -, -⟩ := var2_facts VA.out
        have KK := hid he
        have L300 := hid l300
        clear hcs q3 he
        go_wp2_with fail
        refine (l5seal _ _ (ks[i]).2 l kn sn nn g1 _ VL.out RK.out HL.out (YK.out _ (List.getElem_mem hi)) YL.out (K16.out i hi) L300.out (by have := HOK.out.1; omega) (by have := HOK.out.2.1; omega) (by have := HOK.out.2.2; omega)).mono ?_
        rintro e w4 ⟨v', rfl, hO, hB⟩
        have OU := hid (OB.of hO.x)
        have LW := hid (show g2 < w3.heap.size from var_lt VR.out)
        obtain ⟨pv, cv, rfl, -, -, -⟩ := hO.rd.parts
        clear f0 f1 q1 q2
        replace VA := hid (var_below hB VA.out)
        replace VL := hid (var_below hB VL.out)
        replace VR := hid (var_below hB VR.out)
        replace H := hid (H.out.below hB)
        replace HL := hid (HL.out.below hB)
        replace BB := hid (BB.out.trans (hB.mono BB.out.size))
        clear hB hO
        obtain ⟨m, hm9⟩ : ∃ m, m = (sB (ks[i]).2 (kn : Int) (sn : Int) (nn : Int) l).length := ⟨_, rfl⟩
        rw [← hm9] at OU ⊢
        replace hm9 := hid hm9
        obtain ⟨r0, r1, y0, y1⟩ := var2_facts VR.out
        have hset := hid (var2_set (x' := .int .i64 0) (y' := .slice pv m cv) VR.out)
        have hbel := hid (below_set2 (x := .int .i64 0) (y := .slice pv m cv) (g := g2) BB.out LG.out)
        go_wp2
        try simp only [Exit.inBlock, Exit.then]
        exact bodyPost_ret (v := .agg #[.int .i64 0, .slice pv m cv]) (results_cell_row rfl _ _ g2 31 _ _ _ rfl hset.out Tryz.underlying31 rfl (by kernel_rfl)) rfl ⟨_, rfl, ((OU.out.under ⟨g2, 0, none⟩ LW.out _).under ⟨g2, 1, none⟩ LW.out _).rd, hbel.out⟩
    · obtain ⟨hcc, rfl⟩ := sl_let HF.out hf.out.symm (fun q => h1 (hfl.trans q))
      rw [← hfl] at hcc
      subst hcc
      replace hfl := hid hfl
      have ne : (c != 0) = true := by rw [bne_iff_ne]; exact h1
      replace h1 := hid h1
      obtain ⟨r0, r1, y0, y1⟩ := var2_facts VR.out
      have hset := hid (var2_set (x' := .int .i64 c) (y' := .slice none 0 0) VR.out)
      have hbel := hid (below_set2 (x := .int .i64 c) (y := .slice none 0 0) (g := g2) BB.out LG.out)
      go_wp2
      try simp only [Exit.inBlock, Exit.then]
      exact bodyPost_ret (v := .agg #[.int .i64 c, .slice none 0 0]) (results_cell_row rfl _ _ g2 31 _ _ _ rfl hset.out Tryz.underlying31 rfl (by kernel_rfl)) rfl ⟨_, rfl, Rd.nil _, hbel.out⟩
  · obtain ⟨hcc, rfl⟩ := sl_bad HF.out (fun q => h0 (hf.trans q))
    rw [← hf] at hcc
    subst hcc
    replace hf := hid hf
    have ne : (c != 0) = true := by rw [bne_iff_ne]; exact h0
    replace h0 := hid h0
    obtain ⟨r0, r1, y0, y1⟩ := var2_facts VR.out
    have hset := hid (var2_set (x' := .int .i64 c) (y' := .slice none 0 0) VR.out)
    have hbel := hid (below_set2 (x := .int .i64 c) (y := .slice none 0 0) (g := g2) BB.out LG.out)
    go_wp2
    try simp only [Exit.inBlock, Exit.then]
    exact bodyPost_ret (v := .agg #[.int .i64 c, .slice none 0 0]) (results_cell_row rfl _ _ g2 31 _ _ _ rfl hset.out Tryz.underlying31 rfl (by kernel_rfl)) rfl ⟨_, rfl, Rd.nil _, hbel.out⟩
end Go.Proofs.YtckgjghpfjinfakGreat.W

namespace Go.Proofs.YtckgjghpfjinfakGreat.W
open Go.ChangeShapes Go.WideShapes Go.ChangeAt Go.RowKit
open Go.Proofs.YtckgjghpfjinfakGreat.M

theorem ret_j {a b : Int} (h : a = b) : Ending.returned (.int .i64 a) = .returned (.int .i64 b) := by rw [h]
set_option maxRecDepth 100000 in
theorem ikf (id' : Int) (a : Option Addr) (n c : Nat) (w : World) (l : List Nat) (hl : l.length = n) :
    Calls Tryz.prog 44 #[.agg #[.int .i64 id', .slice a n c]] w fun e w' => e = .returned (.int .i64 (kF (id', l))) ∧ Below w.heap.size w w' := by
  go_enter Tryz.func44, Tryz.ntmps44
  go_wp2_with fail
  have V := hid (heap_alloc2_old w (.cells #[.int .i64 id', .slice a n c] 54) (.cells #[.int .i64 id', .int .i64 1, .int .i64 255] 89))
  have BB := hid (below_alloc2 w (.cells #[.int .i64 id', .slice a n c] 54) (.cells #[.int .i64 id', .int .i64 1, .int .i64 255] 89))
  have V2 := heap_alloc2_new w (.cells #[.int .i64 id', .slice a n c] 54) (.cells #[.int .i64 id', .int .i64 1, .int .i64 255] 89)
  generalize (w.alloc (.cells #[.int .i64 id', .slice a n c] 54)).alloc (.cells #[.int .i64 id', .int .i64 1, .int .i64 255] 89) = w0 at *
  refine (within1 _ _ _ _ _ V2).mono ?_
  rintro e w1 ⟨rfl, hB⟩
  replace V := hid (var_below hB V.out)
  replace BB := hid (BB.out.trans (hB.mono BB.out.size))
  clear hB V2
  obtain ⟨g, hg⟩ : ∃ g, g = w.heap.size := ⟨_, rfl⟩
  rw [← hg] at V ⊢
  clear hg
  obtain ⟨f0, f1, -, -⟩ := var2_facts V.out
  by_cases h1 : 1 ≤ id' ∧ id' ≤ 255
  · rw [show inB id' 1 255 = true by unfold inB; exact decide_eq_true h1]
    by_cases h2 : n = 16
    · have E := hid (show kF (id', l) = 0 by rw [kF, if_pos h1, if_pos (hl.trans h2)])
      subst h2
      clear h1
      go_wp2_with (go_at_call 60; go_in)
      go_ret
      exact ⟨ret_j E.out.symm, BB.out⟩
    · have E := hid (show kF (id', l) = 2 by rw [kF, if_pos h1, if_neg (fun q => h2 (hl.symm.trans q))])
      have ne : ((n : Int) == 16) = false := beq_eq_false_iff_ne.2 (by omega)
      clear h1
      go_wp2_with (go_at_call 60; go_in)
      go_ret
      exact ⟨ret_j E.out.symm, BB.out⟩
  · rw [show inB id' 1 255 = false by unfold inB; exact decide_eq_false h1]
    have E := hid (show kF (id', l) = 3 by rw [kF, if_neg h1])
    clear h1
    go_wp2
    go_ret
    exact ⟨ret_j E.out.symm, BB.out⟩
theorem idx_kg (b o n c j : Nat) (hj : j < n) (w : World) : (Instr.indexAt 33 (.slice (some ⟨b, o, none⟩) n c) (.int .i64 (j : Int))).run Tryz.prog w = .ok (.pointer (some ⟨b, o + j * 2, none⟩)) w := by
  have hs : ∀ w : World, (sizeOf (Tryz.prog.elem 33)).run Tryz.prog w = .ok 2 w := fun _ => by kernel_rfl
  rw [run_indexAt_slice (P := Tryz.prog) w 33 _ n c .i64 (j : Int) (by kernel_rfl)]
  simp [hs, hj, Result.andThen, Addr.add_lit]
set_option maxRecDepth 100000 in
theorem idr (v : Value) (ks : List (Int × List Nat)) (w : World) (h : RdK w v ks) (h1 : 1 ≤ ks.length) (hl : ks.length ≤ 1048576) :
    Calls Tryz.prog 45 #[v] w fun e w' => ∃ t : Bool, e = .returned (.bool t) ∧ (t = true → Rise ks) ∧ (t = false → ¬ Rise ks) ∧ Below w.heap.size w w' := by
  have H := hid h
  obtain ⟨a, cap, rfl, -, -, -⟩ := h.parts
  clear h
  go_enter Tryz.func45, Tryz.ntmps45
  go_wp2_with fail
  go_loopw [3] (fun i wr => ∃ k : Nat, 1 ≤ k ∧ k ≤ ks.length ∧ i = .int .i64 k ∧ Hid (∀ j (h : j + 1 < ks.length), j + 1 < k → (ks[j]'(by omega)).1 < (ks[j + 1]).1) ∧ Hid (Below w.heap.size w wr)) (fun i _ => ks.length - (intOf i).toNat)
  case atStart => exact ⟨1, by omega, h1, rfl, hid (fun j _ h => by omega), hid (Below.refl _ _)⟩
  case round =>
    obtain ⟨k, hk1, hk, rfl, R, BL⟩ := hrel
    by_cases hlt : k < ks.length
    · obtain ⟨a', ca', e, -, -, hcs⟩ := (H.out.below BL.out).parts
      cases e
      obtain ⟨b, o, u, rfl, q1, -, -⟩ := hcs k hlt
      obtain ⟨m, hm⟩ : ∃ m, m = k - 1 := ⟨_, rfl⟩
      have hml : m < ks.length := by omega
      obtain ⟨b', o', u', e, t1, -, -⟩ := hcs m hml
      cases e
      have W1 : (k : Int) - 1 = (m : Int) := by omega
      have W2 : IntKind.i64.wrap (m : Int) = (m : Int) := by rw [IntKind.wrap_i64]; omega
      have I1 := idx_kg b o ks.length cap k hlt
      have I2 := idx_kg b o ks.length cap m hml
      have k0 : (0 : Int) ≤ (k : Int) := by omega
      have k1 : (k : Int) < (ks.length : Int) := by omega
      have m1 : (m : Int) < (ks.length : Int) := by omega
      have em : k = m + 1 := by omega
      have RN : Hid ((ks[m]).1 < (ks[k]).1 → ∀ j (h : j + 1 < ks.length), j + 1 < k + 1 → (ks[j]'(by omega)).1 < (ks[j + 1]).1) := hid (fun hx j h hj => by
        rcases Nat.lt_or_ge (j + 1) k with q | q
        · exact R.out j h q
        · obtain rfl : j = m := by omega
          subst em
          exact hx)
      have RF : Hid (¬ (ks[m]).1 < (ks[k]).1 → ¬ Rise ks) := hid (fun hx hr => by
        subst em
        exact hx (hr m hlt))
      replace em := hid em
      generalize (ks[k]).1 = x at *
      generalize (ks[m]).1 = y at *
      clear hcs hm
      by_cases e : y < x
      · have R2 := hid (RN.out e)
        have le : ¬ x ≤ y := by omega
        have dl : decide (x ≤ y) = false := decide_eq_false le
        go_wp2_with fail
        refine wp_region_held_drew (S := fun w' => Below wr.heap.size wr w') (by kernel_rfl) (Below.refl _ _).drew (fun hH => ?_)
        refine wpAnyH_take (i := 0) (v := .slice (some ⟨b, o, none⟩) ks.length cap) (by simp only [List.getElem?_toArray, List.getElem?_cons_zero]; rfl) (by kernel_rfl) (by kernel_rfl) (by kernel_rfl) (by intro _ _ _ h; exact h) (Or.inl ⟨by rfl, fun w hS => by go_simp⟩) hH ?_
        simp only [Act.put, List.setIfInBounds_toArray, List.set_cons_zero, List.set_cons_succ]
        refine wpAnyH_take (i := 1) (v := .int .i64 (k : Int)) (by simp only [List.getElem?_toArray, List.getElem?_cons_succ, List.getElem?_cons_zero]; rfl) (by kernel_rfl) (by kernel_rfl) (by kernel_rfl) (by intro _ _ _ h; exact h) (Or.inl ⟨by rfl, fun w hS => by go_simp⟩) hH ?_
        simp only [Act.put, List.setIfInBounds_toArray, List.set_cons_zero, List.set_cons_succ]
        refine wpAnyH_take (i := 2) (v := .pointer (some ⟨b, o + k * 2, none⟩)) (by simp only [List.getElem?_toArray, List.getElem?_cons_succ, List.getElem?_cons_zero]; rfl) (by kernel_rfl) (by kernel_rfl) (by kernel_rfl) (by intro _ _ _ h; exact h) (Or.inl ⟨by rfl, fun w hS => by go_simp⟩) hH ?_
        simp only [Act.put, List.setIfInBounds_toArray, List.set_cons_zero, List.set_cons_succ]
        refine wpAnyH_take (i := 3) (v := .pointer (some ⟨b, o + k * 2, none⟩)) (by simp only [List.getElem?_toArray, List.getElem?_cons_succ, List.getElem?_cons_zero]; rfl) (by kernel_rfl) (by kernel_rfl) (by kernel_rfl) (by intro _ _ _ h; exact h) (Or.inl ⟨by rfl, fun w hS => by go_simp⟩) hH ?_
        simp only [Act.put, List.setIfInBounds_toArray, List.set_cons_zero, List.set_cons_succ]
        refine wpAnyH_take (i := 4) (v := .int .i64 x) (by simp only [List.getElem?_toArray, List.getElem?_cons_succ, List.getElem?_cons_zero]; rfl) (by kernel_rfl) (by kernel_rfl) (by kernel_rfl) (by intro _ _ _ h; exact h) (Or.inl ⟨by rfl, fun w hS => by (have y0 := cell_kept hS q1; go_simp)⟩) hH ?_
        simp only [Act.put, List.setIfInBounds_toArray, List.set_cons_zero, List.set_cons_succ]
        refine wpAnyH_take (i := 5) (v := .slice (some ⟨b, o, none⟩) ks.length cap) (by simp only [List.getElem?_toArray, List.getElem?_cons_succ, List.getElem?_cons_zero]; rfl) (by kernel_rfl) (by kernel_rfl) (by kernel_rfl) (by intro _ _ _ h; exact h) (Or.inl ⟨by rfl, fun w hS => by go_simp⟩) hH ?_
        simp only [Act.put, List.setIfInBounds_toArray, List.set_cons_zero, List.set_cons_succ]
        refine wpAnyH_take (i := 6) (v := .int .i64 (k : Int)) (by simp only [List.getElem?_toArray, List.getElem?_cons_succ, List.getElem?_cons_zero]; rfl) (by kernel_rfl) (by kernel_rfl) (by kernel_rfl) (by intro _ _ _ h; exact h) (Or.inl ⟨by rfl, fun w hS => by go_simp⟩) hH ?_
        simp only [Act.put, List.setIfInBounds_toArray, List.set_cons_zero, List.set_cons_succ]
        refine wpAnyH_take (i := 7) (v := .int .i64 (m : Int)) (by simp only [List.getElem?_toArray, List.getElem?_cons_succ, List.getElem?_cons_zero]; rfl) (by kernel_rfl) (by kernel_rfl) (by kernel_rfl) (by intro _ _ _ h; exact h) (Or.inl ⟨by rfl, fun w hS => by go_simp⟩) hH ?_
        simp only [Act.put, List.setIfInBounds_toArray, List.set_cons_zero, List.set_cons_succ]
        refine wpAnyH_take (i := 8) (v := .pointer (some ⟨b, o + m * 2, none⟩)) (by simp only [List.getElem?_toArray, List.getElem?_cons_succ, List.getElem?_cons_zero]; rfl) (by kernel_rfl) (by kernel_rfl) (by kernel_rfl) (by intro _ _ _ h; exact h) (Or.inl ⟨by rfl, fun w hS => by go_simp⟩) hH ?_
        simp only [Act.put, List.setIfInBounds_toArray, List.set_cons_zero, List.set_cons_succ]
        refine wpAnyH_take (i := 9) (v := .pointer (some ⟨b, o + m * 2, none⟩)) (by simp only [List.getElem?_toArray, List.getElem?_cons_succ, List.getElem?_cons_zero]; rfl) (by kernel_rfl) (by kernel_rfl) (by kernel_rfl) (by intro _ _ _ h; exact h) (Or.inl ⟨by rfl, fun w hS => by go_simp⟩) hH ?_
        simp only [Act.put, List.setIfInBounds_toArray, List.set_cons_zero, List.set_cons_succ]
        refine wpAnyH_take (i := 10) (v := .int .i64 y) (by simp only [List.getElem?_toArray, List.getElem?_cons_succ, List.getElem?_cons_zero]; rfl) (by kernel_rfl) (by kernel_rfl) (by kernel_rfl) (by intro _ _ _ h; exact h) (Or.inl ⟨by rfl, fun w hS => by (have y0 := cell_kept hS t1; go_simp)⟩) hH ?_
        simp only [Act.put, List.setIfInBounds_toArray, List.set_cons_zero, List.set_cons_succ]
        refine wpAnyH_take (i := 11) (v := .bool false) (by simp only [List.getElem?_toArray, List.getElem?_cons_succ, List.getElem?_cons_zero]; rfl) (by kernel_rfl) (by kernel_rfl) (by kernel_rfl) (by intro _ _ _ h; exact h) (Or.inl ⟨by rfl, fun w hS => by go_simp⟩) hH ?_
        simp only [Act.put, List.setIfInBounds_toArray, List.set_cons_zero, List.set_cons_succ]
        refine wpAnyH_done (by kernel_rfl) ?_ _
        replace BL := hid (BL.out.trans (hH.mono BL.out.size))
        clear hH
        go_wp2
        go_roundw
        case rel => exact ⟨k + 1, by omega, hlt, by go_num, R2, BL⟩
        case measure => simp [intOf]; omega
      · have E := hid (RF.out e)
        have le : x ≤ y := by omega
        have dl : decide (x ≤ y) = true := decide_eq_true le
        go_wp2_with fail
        refine wp_region_held_drew (S := fun w' => Below wr.heap.size wr w') (by kernel_rfl) (Below.refl _ _).drew (fun hH => ?_)
        refine wpAnyH_take (i := 0) (v := .slice (some ⟨b, o, none⟩) ks.length cap) (by simp only [List.getElem?_toArray, List.getElem?_cons_zero]; rfl) (by kernel_rfl) (by kernel_rfl) (by kernel_rfl) (by intro _ _ _ h; exact h) (Or.inl ⟨by rfl, fun w hS => by go_simp⟩) hH ?_
        simp only [Act.put, List.setIfInBounds_toArray, List.set_cons_zero, List.set_cons_succ]
        refine wpAnyH_take (i := 1) (v := .int .i64 (k : Int)) (by simp only [List.getElem?_toArray, List.getElem?_cons_succ, List.getElem?_cons_zero]; rfl) (by kernel_rfl) (by kernel_rfl) (by kernel_rfl) (by intro _ _ _ h; exact h) (Or.inl ⟨by rfl, fun w hS => by go_simp⟩) hH ?_
        simp only [Act.put, List.setIfInBounds_toArray, List.set_cons_zero, List.set_cons_succ]
        refine wpAnyH_take (i := 2) (v := .pointer (some ⟨b, o + k * 2, none⟩)) (by simp only [List.getElem?_toArray, List.getElem?_cons_succ, List.getElem?_cons_zero]; rfl) (by kernel_rfl) (by kernel_rfl) (by kernel_rfl) (by intro _ _ _ h; exact h) (Or.inl ⟨by rfl, fun w hS => by go_simp⟩) hH ?_
        simp only [Act.put, List.setIfInBounds_toArray, List.set_cons_zero, List.set_cons_succ]
        refine wpAnyH_take (i := 3) (v := .pointer (some ⟨b, o + k * 2, none⟩)) (by simp only [List.getElem?_toArray, List.getElem?_cons_succ, List.getElem?_cons_zero]; rfl) (by kernel_rfl) (by kernel_rfl) (by kernel_rfl) (by intro _ _ _ h; exact h) (Or.inl ⟨by rfl, fun w hS => by go_simp⟩) hH ?_
        simp only [Act.put, List.setIfInBounds_toArray, List.set_cons_zero, List.set_cons_succ]
        refine wpAnyH_take (i := 4) (v := .int .i64 x) (by simp only [List.getElem?_toArray, List.getElem?_cons_succ, List.getElem?_cons_zero]; rfl) (by kernel_rfl) (by kernel_rfl) (by kernel_rfl) (by intro _ _ _ h; exact h) (Or.inl ⟨by rfl, fun w hS => by (have y0 := cell_kept hS q1; go_simp)⟩) hH ?_
        simp only [Act.put, List.setIfInBounds_toArray, List.set_cons_zero, List.set_cons_succ]
        refine wpAnyH_take (i := 5) (v := .slice (some ⟨b, o, none⟩) ks.length cap) (by simp only [List.getElem?_toArray, List.getElem?_cons_succ, List.getElem?_cons_zero]; rfl) (by kernel_rfl) (by kernel_rfl) (by kernel_rfl) (by intro _ _ _ h; exact h) (Or.inl ⟨by rfl, fun w hS => by go_simp⟩) hH ?_
        simp only [Act.put, List.setIfInBounds_toArray, List.set_cons_zero, List.set_cons_succ]
        refine wpAnyH_take (i := 6) (v := .int .i64 (k : Int)) (by simp only [List.getElem?_toArray, List.getElem?_cons_succ, List.getElem?_cons_zero]; rfl) (by kernel_rfl) (by kernel_rfl) (by kernel_rfl) (by intro _ _ _ h; exact h) (Or.inl ⟨by rfl, fun w hS => by go_simp⟩) hH ?_
        simp only [Act.put, List.setIfInBounds_toArray, List.set_cons_zero, List.set_cons_succ]
        refine wpAnyH_take (i := 7) (v := .int .i64 (m : Int)) (by simp only [List.getElem?_toArray, List.getElem?_cons_succ, List.getElem?_cons_zero]; rfl) (by kernel_rfl) (by kernel_rfl) (by kernel_rfl) (by intro _ _ _ h; exact h) (Or.inl ⟨by rfl, fun w hS => by go_simp⟩) hH ?_
        simp only [Act.put, List.setIfInBounds_toArray, List.set_cons_zero, List.set_cons_succ]
        refine wpAnyH_take (i := 8) (v := .pointer (some ⟨b, o + m * 2, none⟩)) (by simp only [List.getElem?_toArray, List.getElem?_cons_succ, List.getElem?_cons_zero]; rfl) (by kernel_rfl) (by kernel_rfl) (by kernel_rfl) (by intro _ _ _ h; exact h) (Or.inl ⟨by rfl, fun w hS => by go_simp⟩) hH ?_
        simp only [Act.put, List.setIfInBounds_toArray, List.set_cons_zero, List.set_cons_succ]
        refine wpAnyH_take (i := 9) (v := .pointer (some ⟨b, o + m * 2, none⟩)) (by simp only [List.getElem?_toArray, List.getElem?_cons_succ, List.getElem?_cons_zero]; rfl) (by kernel_rfl) (by kernel_rfl) (by kernel_rfl) (by intro _ _ _ h; exact h) (Or.inl ⟨by rfl, fun w hS => by go_simp⟩) hH ?_
        simp only [Act.put, List.setIfInBounds_toArray, List.set_cons_zero, List.set_cons_succ]
        refine wpAnyH_take (i := 10) (v := .int .i64 y) (by simp only [List.getElem?_toArray, List.getElem?_cons_succ, List.getElem?_cons_zero]; rfl) (by kernel_rfl) (by kernel_rfl) (by kernel_rfl) (by intro _ _ _ h; exact h) (Or.inl ⟨by rfl, fun w hS => by (have y0 := cell_kept hS t1; go_simp)⟩) hH ?_
        simp only [Act.put, List.setIfInBounds_toArray, List.set_cons_zero, List.set_cons_succ]
        refine wpAnyH_take (i := 11) (v := .bool true) (by simp only [List.getElem?_toArray, List.getElem?_cons_succ, List.getElem?_cons_zero]; rfl) (by kernel_rfl) (by kernel_rfl) (by kernel_rfl) (by intro _ _ _ h; exact h) (Or.inl ⟨by rfl, fun w hS => by go_simp⟩) hH ?_
        simp only [Act.put, List.setIfInBounds_toArray, List.set_cons_zero, List.set_cons_succ]
        refine wpAnyH_done (by kernel_rfl) ?_ _
        replace BL := hid (BL.out.trans (hH.mono BL.out.size))
        clear hH
        go_wp2
        go_ret
        exact ⟨false, rfl, (fun h => by cases h), (fun _ => E.out), BL.out⟩
    · have hke : k = ks.length := by omega
      subst hke
      have RR := hid (show Rise ks from fun j h => R.out j h h)
      go_wp2
      go_ret
      exact ⟨true, rfl, (fun _ => RR.out), (fun h => by cases h), BL.out⟩
end Go.Proofs.YtckgjghpfjinfakGreat.W

namespace Go.Proofs.YtckgjghpfjinfakGreat.W
open Go.ChangeShapes Go.WideShapes Go.ChangeAt Go.RowKit
open Go.Proofs.YtckgjghpfjinfakGreat.M

theorem rd_range {w : World} {b o n cap : Nat} {l : List Nat} (h : Rd w (.slice (some ⟨b, o, none⟩) n cap) l) : w.rangeAt b o (l.map bv) := fun j v hv => by
  obtain ⟨a, c, e, _, _, hcc⟩ := h
  have hj : j < l.length := by have := (List.getElem?_eq_some_iff.1 hv).1; simpa using this
  obtain ⟨b', o', e', hc⟩ := hcc j hj
  subst e'
  cases e
  rw [List.getElem?_map, List.getElem?_eq_getElem hj] at hv
  cases hv
  exact hc
theorem rangeAt.below {w w' : World} {b o : Nat} {cs : List Value} (h : w.rangeAt b o cs) (hb : Below w.heap.size w w') : w'.rangeAt b o cs := fun j v hv => cell_kept hb (h j v hv)
theorem setRow_alloc2 (w : World) (R : Obj) (c c' : Array Value) (t : TypeId) : ((w.alloc R).alloc (.cells c t)).setRow (w.heap.size + 1) c' = (w.alloc R).alloc (.cells c' t) := by
  have h := World.setRow_alloc_new (w.alloc R) c c' t
  rw [World.size_alloc] at h
  exact h
end Go.Proofs.YtckgjghpfjinfakGreat.W

namespace Go.Proofs.YtckgjghpfjinfakGreat.W
open Go.ChangeShapes Go.WideShapes Go.ChangeAt Go.RowKit Go.Maps
open Go.Proofs.YtckgjghpfjinfakGreat.M

/-- An element of the map reads as itself. -/
def Rv (v : Value) : Option (DataW Value × List MemPlace) := some (.held v, [])
/-- Block b is a map of at most n keys that reads as D. -/
def MapK (w : World) (b n : Nat) (D : DataW Value) : Prop := w.ownsMap Tryz.prog 2 Rv b n D
theorem lawK : Keyed Tryz.prog 2 := int_keyed Tryz.underlying2
theorem key_size16 (l : List Nat) (hl : l.length = 16) : (Tryz.prog.info? 61).map (·.size) = some (arr l).size := by rw [arr_size, hl]; kernel_rfl
theorem list16k (l : List Nat) (h : l.length = 16) : ∃ a0 a1 a2 a3 a4 a5 a6 a7 a8 a9 b0 b1 b2 b3 b4 b5, l = [a0, a1, a2, a3, a4, a5, a6, a7, a8, a9, b0, b1, b2, b3, b4, b5] := by
  match l, h with
  | [a0, a1, a2, a3, a4, a5, a6, a7, a8, a9, b0, b1, b2, b3, b4, b5], _ => exact ⟨a0, a1, a2, a3, a4, a5, a6, a7, a8, a9, b0, b1, b2, b3, b4, b5, rfl⟩
set_option maxRecDepth 100000 in
theorem held_built (l : List Nat) (h : l.length = 16) {x : List (Nat × Value)} (hx : x = [(0, .agg (arr l))]) : Tryz.prog.built 63 x = some (arr l) := by
  subst hx
  obtain ⟨a0, a1, a2, a3, a4, a5, a6, a7, a8, a9, b0, b1, b2, b3, b4, b5, rfl⟩ := list16k l h
  kernel_rfl
theorem step_buildK {P : Program} {ops : Array Oper} {o : Oper} {a : Act} {w : World} {K : Act → World → Prop} {Q : Exit → Act → World → Prop} {E : Prop} (hgd : o.guard = none) (t : TypeId) (parts : Array (Nat × Operand)) (ho : o.op = .build t parts) (cells : Array Value)
    (hb : P.built t (parts.map fun (i, x) => (i, a.eval x)).toList = some cells) (h : K (a.put o.dst (.agg cells)) w) : if Region.wanted o (yielded ops a.tmps) = true then Oper.wp P o a w K Q else E := by
  have hwa : Region.wanted o (yielded ops a.tmps) = true := by simp [Region.wanted, hgd]
  rw [if_pos hwa]
  refine wp_build t parts ho (by rw [hb]; rfl) ?_
  rw [hb]
  exact h
theorem step_mapUpdate {ops : Array Oper} {o : Oper} {a : Act} {w : World} {K : Act → World → Prop} {Q : Exit → Act → World → Prop} {E : Prop} (hgd : o.guard = none) (m x v : Operand) (hop : o.op = Op.mapUpdate 65 m x v)
    (b n : Nat) (D : DataW Value) (hm : a.eval m = .map (some b)) (hown : MapK w b n D) (hn : n < 1000) (id' : Int) (val : Value) (hx : a.eval x = .int .i64 id') (hv : a.eval v = val) (hw : (Lit.int .i64 id').wf = true)
    (h : ∀ w', MapK w' b (n + 1) (D.put (.int .i64 id') (.held val)) → w.grownBy w' (some b) → K (a.put o.dst undef) w') : if Region.wanted o (yielded ops a.tmps) = true then Oper.wp Tryz.prog o a w K Q else E := by
  have hwa : Region.wanted o (yielded ops a.tmps) = true := by simp [Region.wanted, hgd]
  rw [if_pos hwa]
  obtain ⟨w', hrun, r1, r2⟩ := hown.update lawK Tryz.underlying65 (by unfold maxLen; omega) (keyOf_int_mk Tryz.underlying2 hw) (show Rv val = some (.held val, []) from rfl)
  unfold Oper.wp
  simp [execOp, hop, hm, hx, hv, hrun, Result.andThen]
  exact h w' r1 r2
theorem MapK.ne {w : World} {b n : Nat} {D : DataW Value} (h : MapK w b n D) {a : Addr} {u : Value} (hc : w.cell? a = some u) : some a.block ≠ some b := by
  intro e
  cases e
  obtain ⟨es, clock, hb, -⟩ := h
  simp [World.cell?, hb] at hc
set_option maxRecDepth 100000 in
theorem iput (g b n : Nat) (pr id' : Int) (v : Value) (l : List Nat) (D : DataW Value) (w : World) (hV : w.heap[g]? = some (.cells #[.int .i64 pr, .map (some b)] 67)) (hM : MapK w b n D) (hn : n < 1000) (h : Rd w v l) (hl : l.length = 16) (hw : (Lit.int .i64 id').wf = true) :
    Calls Tryz.prog 46 #[.pointer (some ⟨g, 0, none⟩), .agg #[.int .i64 id', v]] w fun e w' => (∃ u, e = .returned u) ∧ MapK w' b (n + 1) (D.put (.int .i64 id') (.held (.agg (arr l)))) ∧ w.grownBy w' (some b) := by
  obtain ⟨bs, os, cs, rfl, hcs, -⟩ := h.spot (by omega)
  have HR := hid (rd_range h)
  have V := hid hV
  have HM := hid hM
  have HL := hid hl
  rw [hl] at hcs ⊢
  clear h hV hM hl
  have Z := hid (key_size16 l HL.out)
  go_enter Tryz.func46, Tryz.ntmps46
  go_wp2_with fail
  have V1 := heap_alloc_new w (.cells #[.int .i64 id', .slice (some ⟨bs, os, none⟩) 16 cs] 54)
  have hA := below_alloc1 w (.cells #[.int .i64 id', .slice (some ⟨bs, os, none⟩) 16 cs] 54)
  have BB := hid hA
  replace V := hid (var_below hA V.out)
  replace HM := hid (show MapK _ b n D from HM.out.alloc (.cells #[.int .i64 id', .slice (some ⟨bs, os, none⟩) 16 cs] 54))
  replace HR := hid (rangeAt.below HR.out hA)
  have GA := hid (World.grownBy_alloc w (.cells #[.int .i64 id', .slice (some ⟨bs, os, none⟩) 16 cs] 54) (some b))
  clear hA
  generalize w.alloc (.cells #[.int .i64 id', .slice (some ⟨bs, os, none⟩) 16 cs] 54) = w1 at *
  obtain ⟨-, f1, -, -⟩ := var2_facts V.out
  obtain ⟨k0, k1, -, -⟩ := var2_facts V1
  generalize w.heap.size = gk at *
  have AT := arr_at 61 5 16 Tryz.underlying61 (some ⟨bs, os, none⟩) 16 cs (by omega)
  refine wp_region_held_drew (S := fun w' => w'.cell? ⟨g, 1, none⟩ = some (.map (some b)) ∧ w'.cell? ⟨gk, 0, none⟩ = some (.int .i64 id') ∧ w'.cell? ⟨gk, 1, none⟩ = some (.slice (some ⟨bs, os, none⟩) 16 cs) ∧ w'.rangeAt bs os (l.map bv)) (by kernel_rfl) ⟨f1, k0, k1, HR.out⟩ (fun hH => ?_)
  refine wpAnyH_take (i := 0) (v := .pointer (some ⟨g, 0, none⟩)) (by simp only [List.getElem?_toArray, List.getElem?_cons_zero]; rfl) (by kernel_rfl) (by kernel_rfl) (by kernel_rfl) (by intro _ _ _ h; exact h) (Or.inl ⟨by rfl, fun w hS => by go_simp⟩) hH ?_
  simp only [Act.put, List.setIfInBounds_toArray, List.set_cons_zero, List.set_cons_succ]
  refine wpAnyH_take (i := 1) (v := .pointer (some ⟨g, 0, none⟩)) (by simp only [List.getElem?_toArray, List.getElem?_cons_succ, List.getElem?_cons_zero]; rfl) (by kernel_rfl) (by kernel_rfl) (by kernel_rfl) (by intro _ _ _ h; exact h) (Or.inl ⟨by rfl, fun w hS => by go_simp⟩) hH ?_
  simp only [Act.put, List.setIfInBounds_toArray, List.set_cons_zero, List.set_cons_succ]
  refine wpAnyH_take (i := 2) (v := .pointer (some ⟨g, 1, none⟩)) (by simp only [List.getElem?_toArray, List.getElem?_cons_succ, List.getElem?_cons_zero]; rfl) (by kernel_rfl) (by kernel_rfl) (by kernel_rfl) (by intro _ _ _ h; exact h) (Or.inl ⟨by rfl, fun w hS => by go_simp⟩) hH ?_
  simp only [Act.put, List.setIfInBounds_toArray, List.set_cons_zero, List.set_cons_succ]
  refine wpAnyH_take (i := 3) (v := .map (some b)) (by simp only [List.getElem?_toArray, List.getElem?_cons_succ, List.getElem?_cons_zero]; rfl) (by kernel_rfl) (by kernel_rfl) (by kernel_rfl) (by intro _ _ _ h; exact h) (Or.inl ⟨by rfl, fun w hS => by (obtain ⟨y1, y2, y3, -⟩ := hS; go_simp)⟩) hH ?_
  simp only [Act.put, List.setIfInBounds_toArray, List.set_cons_zero, List.set_cons_succ]
  refine wpAnyH_take (i := 4) (v := .pointer (some ⟨gk, 0, none⟩)) (by simp only [List.getElem?_toArray, List.getElem?_cons_succ, List.getElem?_cons_zero]; rfl) (by kernel_rfl) (by kernel_rfl) (by kernel_rfl) (by intro _ _ _ h; exact h) (Or.inl ⟨by rfl, fun w hS => by go_simp⟩) hH ?_
  simp only [Act.put, List.setIfInBounds_toArray, List.set_cons_zero, List.set_cons_succ]
  refine wpAnyH_take (i := 5) (v := .int .i64 id') (by simp only [List.getElem?_toArray, List.getElem?_cons_succ, List.getElem?_cons_zero]; rfl) (by kernel_rfl) (by kernel_rfl) (by kernel_rfl) (by intro _ _ _ h; exact h) (Or.inl ⟨by rfl, fun w hS => by (obtain ⟨y1, y2, y3, -⟩ := hS; go_simp)⟩) hH ?_
  simp only [Act.put, List.setIfInBounds_toArray, List.set_cons_zero, List.set_cons_succ]
  refine wpAnyH_take (i := 6) (v := .pointer (some ⟨gk, 1, none⟩)) (by simp only [List.getElem?_toArray, List.getElem?_cons_succ, List.getElem?_cons_zero]; rfl) (by kernel_rfl) (by kernel_rfl) (by kernel_rfl) (by intro _ _ _ h; exact h) (Or.inl ⟨by rfl, fun w hS => by go_simp⟩) hH ?_
  simp only [Act.put, List.setIfInBounds_toArray, List.set_cons_zero, List.set_cons_succ]
  refine wpAnyH_take (i := 7) (v := .slice (some ⟨bs, os, none⟩) 16 cs) (by simp only [List.getElem?_toArray, List.getElem?_cons_succ, List.getElem?_cons_zero]; rfl) (by kernel_rfl) (by kernel_rfl) (by kernel_rfl) (by intro _ _ _ h; exact h) (Or.inl ⟨by rfl, fun w hS => by (obtain ⟨y1, y2, y3, -⟩ := hS; go_simp)⟩) hH ?_
  simp only [Act.put, List.setIfInBounds_toArray, List.set_cons_zero, List.set_cons_succ]
  refine wpAnyH_take (i := 8) (v := .pointer (some ⟨bs, os, none⟩)) (by simp only [List.getElem?_toArray, List.getElem?_cons_succ, List.getElem?_cons_zero]; rfl) (by kernel_rfl) (by kernel_rfl) (by kernel_rfl) (by intro _ _ _ h; exact h) (Or.inl ⟨by rfl, fun w hS => by go_simp⟩) hH ?_
  simp only [Act.put, List.setIfInBounds_toArray, List.set_cons_zero, List.set_cons_succ]
  refine wpAnyH_take (i := 9) (v := .agg (arr l)) (by simp only [List.getElem?_toArray, List.getElem?_cons_succ, List.getElem?_cons_zero]; rfl) (by kernel_rfl) (by kernel_rfl) (by kernel_rfl) (by intro _ _ _ h; exact h) (yieldsIf_load_mid (by rfl) _ _ rfl bs os rfl (l.map bv) _ (fun w hS => hS.2.2.2) Tryz.underlying61 rfl (by rw [List.length_map, ← arr_size]; exact Z.out)) hH ?_
  simp only [Act.put, List.setIfInBounds_toArray, List.set_cons_zero, List.set_cons_succ]
  refine wpAnyH_ready (rs := [10]) (by kernel_rfl) (by simp) ?_
  refine AllReadyH.cons (by simp only [List.getElem?_toArray, List.getElem?_cons_succ, List.getElem?_cons_zero]; rfl) (fun K hK => ?_) AllReadyH.nil
  refine step_buildK (by rfl) 63 _ (by rfl) (arr l) (held_built l HL.out (by simp [Act.eval])) ?_
  refine hK.out _ _ hH (fun hH => ?_)
  clear hK K
  try simp only [Act.put, List.setIfInBounds_toArray, List.set_cons_zero, List.set_cons_succ]
  refine wpAnyH_ready (rs := [11]) (by kernel_rfl) (by simp) ?_
  refine AllReadyH.cons (by simp only [List.getElem?_toArray, List.getElem?_cons_succ, List.getElem?_cons_zero]; rfl) (fun K hK => ?_) AllReadyH.nil
  refine step_mapUpdate (by rfl) _ _ _ (by rfl) b n D (by rfl) (show MapK w1.drew b n D from HM.out) hn id' _ (by rfl) (by rfl) hw ?_
  intro w2 m2 gr2
  have RES := hid m2
  have GR := hid (grown_trans GA.out (show w1.grownBy w2 (some b) from ⟨gr2.os, gr2.tape, gr2.output, gr2.size, gr2.block⟩))
  have HD : MapK w1.drew b n D := HM.out
  refine hK.out _ _ ⟨gr2.cell f1 (HD.ne f1), gr2.cell k0 (HD.ne k0), gr2.cell k1 (HD.ne k1), fun j v hv => gr2.cell (HR.out j v hv) (HD.ne (HR.out j v hv))⟩ (fun hH => ?_)
  clear hK K
  try simp only [Act.put]
  refine wpAnyH_done (by kernel_rfl) ?_ _
  go_wp2
  go_end0
  exact ⟨⟨_, rfl⟩, RES.out, GR.out⟩
theorem zeroH (w : World) : (zeroValue 63).run Tryz.prog w = .ok (.agg (arr (zs 16))) w := by kernel_rfl
/-- Each element of the map is sixteen bytes. -/
def GoodM (D : DataW Value) : Prop := ∀ k, ∃ l : List Nat, l.length = 16 ∧ D.atKey k (.held (.agg (arr (zs 16)))) = .held (.agg (arr l))
theorem GoodM.nil : GoodM (.map []) := fun k => ⟨zs 16, by simp [zs], rfl⟩
theorem GoodM.put {D : DataW Value} (h : GoodM D) (hD : IsMap D) (k : Lit) (hk : WideAt.IsKeyLit k) (l : List Nat) (hl : l.length = 16) : GoodM (D.put k (.held (.agg (arr l)))) := fun k' => by
  by_cases e : k' = k
  · subst e
    exact ⟨l, hl, by rw [atKey_put_same hD hk]⟩
  · obtain ⟨l', h1, h2⟩ := h k'
    exact ⟨l', h1, by rw [atKey_put_other e]; exact h2⟩
theorem GoodM.val {D : DataW Value} (h : GoodM D) {k : Lit} {v : Value} {ps : List MemPlace} (hv : Rv v = some (D.atKey k (.held (.agg (arr (zs 16)))), ps)) : ∃ l : List Nat, l.length = 16 ∧ v = .agg (arr l) := by
  obtain ⟨l, h1, h2⟩ := h k
  rw [h2] at hv
  unfold Rv at hv
  simp only [Option.some.injEq, Prod.mk.injEq, DataW.held.injEq] at hv
  exact ⟨l, h1, hv.1⟩
set_option maxHeartbeats 1000000 in
set_option maxRecDepth 100000 in
theorem ihas (g b n : Nat) (pr id' : Int) (D : DataW Value) (w : World) (hV : w.heap[g]? = some (.cells #[.int .i64 pr, .map (some b)] 67)) (hM : MapK w b n D) (hG : GoodM D) (hw : (Lit.int .i64 id').wf = true) :
    Calls Tryz.prog 47 #[.pointer (some ⟨g, 0, none⟩), .int .i64 id'] w fun e w' => e = .returned (.bool (Maps.has D (.int .i64 id'))) ∧ Below w.heap.size w w' := by
  have V := hid hV
  have HM := hid hM
  obtain ⟨f0, f1, -, -⟩ := var2_facts hV
  clear hV hM
  go_enter Tryz.func47, Tryz.ntmps47
  go_wp2_with (at_lookup; refine wpList_lookup_own_ok _ rfl _ _ 65 rfl 2 63 lawK Tryz.underlying65 Rv (zeroH _) (.held (.agg (arr (zs 16)))) [] rfl b n D rfl HM.out _ _ rfl (keyOf_int_mk Tryz.underlying2 hw) ?_)
  intro v ps hv
  obtain ⟨l, hl, rfl⟩ := hG.val hv
  clear hv hG HM
  have Z := hid (show (Tryz.prog.info? 63).map (·.size) = some (arr l).size by rw [arr_size, hl]; kernel_rfl)
  go_wp2_with (refine wpList_store_row rfl 63 _ _ rfl w.heap.size (arr l) rfl rfl 63 _ (heap_alloc_new w _) Z.out (by rw [arr_size, hl]; rfl) (arr_one l) ?_)
  go_ret
  exact ⟨rfl, by rw [World.setRow_alloc_new]; exact below_alloc1 w _⟩
end Go.Proofs.YtckgjghpfjinfakGreat.W

namespace Go.Proofs.YtckgjghpfjinfakGreat.W
open Go.ChangeShapes Go.WideShapes Go.ChangeAt Go.RowKit
open Go.Proofs.YtckgjghpfjinfakGreat.M

theorem rd_grownM {w w' : World} {b n : Nat} {D : DataW Value} {v : Value} {l : List Nat} (h : Rd w v l) (hM : MapK w b n D) (hG : w.grownBy w' (some b)) : Rd w' v l := by
  obtain ⟨a, cap, rfl, hn, hm, hcs⟩ := h
  refine ⟨a, cap, rfl, hn, hm, fun i hi => ?_⟩
  obtain ⟨b', o, rfl, hc⟩ := hcs i hi
  exact ⟨b', o, rfl, hG.cell hc (hM.ne hc)⟩
theorem rdk_grownM {w w' : World} {b n : Nat} {D : DataW Value} {v : Value} {ks : List (Int × List Nat)} (h : RdK w v ks) (hM : MapK w b n D) (hG : w.grownBy w' (some b)) : RdK w' v ks := by
  obtain ⟨a, cap, rfl, hn, hm, hcs⟩ := h
  refine ⟨a, cap, rfl, hn, hm, fun i hi => ?_⟩
  obtain ⟨b', o, u, rfl, h1, h2, h3⟩ := hcs i hi
  exact ⟨b', o, u, rfl, hG.cell h1 (hM.ne h1), hG.cell h2 (hM.ne h2), rd_grownM h3 hM hG⟩
theorem MapK.apart {w : World} {b n g : Nat} {D : DataW Value} {c : Array Value} {T : TypeId} (hM : MapK w b n D) (hV : w.heap[g]? = some (.cells c T)) : some g ≠ some b := by
  intro e
  cases e
  obtain ⟨es, clock, hb, -⟩ := hM
  rw [hb] at hV
  cases hV
theorem kF_ok {k : Int × List Nat} (h : kF k = 0) : (1 ≤ k.1 ∧ k.1 ≤ 255) ∧ k.2.length = 16 := by
  unfold kF at h
  split at h
  · rename_i h1
    split at h
    · rename_i h2
      exact ⟨h1, h2⟩
    · omega
  · omega
/-- The map holds just the first k keys' numbers. -/
def HasTo (ks : List (Int × List Nat)) (k : Nat) (D : DataW Value) : Prop := ∀ x, Maps.has D (.int .i64 x) = true ↔ ∃ j, ∃ h : j < ks.length, j < k ∧ (ks[j]).1 = x
theorem HasTo.next {ks : List (Int × List Nat)} {k : Nat} {D : DataW Value} (h : HasTo ks k D) (hD : Maps.IsMap D) (hk : k < ks.length) (hw : WideAt.IsKeyLit (.int .i64 (ks[k]).1)) (d : DataW Value) : HasTo ks (k + 1) (D.put (.int .i64 (ks[k]).1) d) := fun x => by
  by_cases e : x = (ks[k]).1
  · subst e
    rw [Maps.has_put_same hD hw]
    exact ⟨fun _ => ⟨k, hk, by omega, rfl⟩, fun _ => rfl⟩
  · rw [Maps.has_put_other (by intro q; cases q; exact e rfl), h x]
    constructor
    · rintro ⟨j, hj, h1, h2⟩
      exact ⟨j, hj, by omega, h2⟩
    · rintro ⟨j, hj, h1, h2⟩
      refine ⟨j, hj, ?_, h2⟩
      rcases Nat.lt_or_ge j k with q | q
      · exact q
      · obtain rfl : j = k := by omega
        exact absurd h2.symm e
theorem two_results {fn : Func} {a b : Tmp} (h : fn.results = #[.tmp a, .tmp b]) (ts : Array Value) (P : Program) (w : World) :
    (results fn ts).run P w = .ok (.tuple #[ts.getD a undef, ts.getD b undef]) w := by simp [results, h]
theorem ret_t {r : Value} {a b : Int} (h : a = b) : Ending.returned (.tuple #[r, .int .i64 a]) = .returned (.tuple #[r, .int .i64 b]) := by rw [h]
theorem rise_lt {ks : List (Int × List Nat)} (h : Rise ks) : ∀ (j i : Nat) (hj : j < ks.length) (hij : i < j), (ks[i]'(Nat.lt_trans hij hj)).1 < (ks[j]).1
  | 0, i, _, hij => absurd hij (Nat.not_lt_zero i)
  | j + 1, i, hj, hij => by
    have h1 := h j hj
    rcases Nat.lt_or_ge i j with q | q
    · have h2 := rise_lt h j i (by omega) q
      omega
    · obtain rfl : i = j := by omega
      exact h1
/-- The map's zero element, as it is read. -/
def zK : DataW Value := .held (.agg (arr (zs 16)))
/-- The map holds the first k keys' bytes at their numbers. -/
def AtTo (ks : List (Int × List Nat)) (k : Nat) (D : DataW Value) : Prop := ∀ j (h : j < ks.length), j < k → D.atKey (.int .i64 (ks[j]).1) zK = .held (.agg (arr (ks[j]).2))
theorem AtTo.next {ks : List (Int × List Nat)} {k : Nat} {D : DataW Value} (h : AtTo ks k D) (hD : Maps.IsMap D) (hr : Rise ks) (hk : k < ks.length) (hw : WideAt.IsKeyLit (.int .i64 (ks[k]).1)) : AtTo ks (k + 1) (D.put (.int .i64 (ks[k]).1) (.held (.agg (arr (ks[k]).2)))) := fun j hj hjk => by
  rcases Nat.lt_or_ge j k with q | q
  · have := rise_lt hr k j hk q
    rw [Maps.atKey_put_other (by intro e; simp only [Lit.int.injEq, true_and] at e; omega)]
    exact h j hj q
  · obtain rfl : j = k := by omega
    rw [Maps.atKey_put_same hD hw]
theorem MapK.below {w w' : World} {b n : Nat} {D : DataW Value} (h : MapK w b n D) (hB : Below w.heap.size w w') : MapK w' b n D :=
  World.ownsMap.kept h (grown_of_below hB none) (by simp)
/-- Block g is a ring with the primary p; its map, block b, holds just the keys ks. -/
structure Ring1 (w : World) (g b : Nat) (p : Int) (ks : List (Int × List Nat)) (D : DataW Value) : Prop where
  block : w.heap[g]? = some (.cells #[.int .i64 p, .map (some b)] 67)
  map : MapK w b ks.length D
  good : GoodM D
  has : HasTo ks ks.length D
  bytes : AtTo ks ks.length D
theorem Ring1.below {w w' : World} {g b : Nat} {p : Int} {ks : List (Int × List Nat)} {D : DataW Value} (h : Ring1 w g b p ks D) (hB : Below w.heap.size w w') : Ring1 w' g b p ks D :=
  ⟨var_below hB h.block, h.map.below hB, h.good, h.has, h.bytes⟩
set_option maxHeartbeats 2000000 in
set_option maxRecDepth 100000 in
theorem ikrD (p : Int) (v : Value) (ks : List (Int × List Nat)) (w : World) (h : RdK w v ks) (hp : (Lit.int .i64 p).wf = true) :
    Calls Tryz.prog 25 #[.agg #[.int .i64 p, v]] w fun e w' => ∃ r : Value, e = .returned (.tuple #[r, .int .i64 (rF p ks)]) ∧ (rF p ks = 0 → ∃ g b D, r = .pointer (some ⟨g, 0, none⟩) ∧ w.heap.size ≤ g ∧ w.heap.size ≤ b ∧ Ring1 w' g b p ks D) ∧ Below w.heap.size w w' := by
  have H := hid h
  obtain ⟨a, cap, rfl, -, hcm, -⟩ := h.parts
  clear h
  unfold maxLen at hcm
  have hmm := @run_makeMap Tryz.prog
  go_enter Tryz.func25, Tryz.ntmps25
  go_wp2_with fail
  have V := hid (heap_alloc2_old w (.cells #[.int .i64 p, .slice a ks.length cap] 35) (.cells #[.int .i64 (ks.length : Int), .int .i64 1, .int .i64 3] 89))
  have BB := hid (below_alloc2 w (.cells #[.int .i64 p, .slice a ks.length cap] 35) (.cells #[.int .i64 (ks.length : Int), .int .i64 1, .int .i64 3] 89))
  have V2 := heap_alloc2_new w (.cells #[.int .i64 p, .slice a ks.length cap] 35) (.cells #[.int .i64 (ks.length : Int), .int .i64 1, .int .i64 3] 89)
  generalize (w.alloc (.cells #[.int .i64 p, .slice a ks.length cap] 35)).alloc (.cells #[.int .i64 (ks.length : Int), .int .i64 1, .int .i64 3] 89) = w0 at *
  refine (within1 _ _ _ _ _ V2).mono ?_
  rintro e w1 ⟨rfl, hB⟩
  replace V := hid (var_below hB V.out)
  replace BB := hid (BB.out.trans (hB.mono BB.out.size))
  replace H := hid (H.out.below BB.out)
  clear hB V2
  obtain ⟨g, hg⟩ : ∃ g, g = w.heap.size := ⟨_, rfl⟩
  rw [← hg] at V ⊢
  clear hg
  obtain ⟨f0, f1, -, -⟩ := var2_facts V.out
  by_cases hn : ks.length < 1 ∨ 3 < ks.length
  · have E := hid (rF_many (p := p) hn)
    rw [show inB (ks.length : Int) 1 3 = false by unfold inB; exact decide_eq_false (by omega)]
    replace hn := hid hn
    go_wp2
    try simp only [Exit.inBlock, Exit.then]
    refine bodyPost_ret (two_results rfl _ _ _) rfl ?_
    exact ⟨_, ret_t E.out.symm, fun q => absurd (E.out.symm.trans q) (by decide), BB.out⟩
  · have h1 : 1 ≤ ks.length := by omega
    have h3 : ks.length ≤ 3 := by omega
    rw [show inB (ks.length : Int) 1 3 = true by unfold inB; exact decide_eq_true (by omega)]
    replace hn := hid hn
    go_wp2_with fail
    go_loopw [5, 6, 20] (fun s4 s5 i wr => ∃ k : Nat, ∃ u4 u5 : Value, k ≤ ks.length ∧ i = .int .i64 k ∧ s4 = u4 ∧ s5 = u5 ∧ Hid (∀ j (hj : j < ks.length), j < k → kF ks[j] = 0) ∧ Hid (Below w1.heap.size w1 wr)) (fun _ _ i _ => ks.length - (intOf i).toNat)
    case atStart => exact ⟨0, _, _, by omega, rfl, rfl, rfl, hid (fun j _ h => absurd h (Nat.not_lt_zero j)), hid (Below.refl _ _)⟩
    case round =>
      obtain ⟨k, v4, v5, hk, rfl, rfl, rfl, T, BL⟩ := hrel
      clear f0 f1
      by_cases hlt : k < ks.length
      · obtain ⟨a', ca', e, -, -, hcs⟩ := (H.out.below BL.out).parts
        cases e
        obtain ⟨b, o, u, rfl, q1, q2, q3⟩ := hcs k hlt
        obtain ⟨pu, cu, rfl, -, -, -⟩ := q3.parts
        have I1 := idx_kg b o ks.length cap k hlt
        have k0 : (0 : Int) ≤ (k : Int) := by omega
        have k1 : (k : Int) < (ks.length : Int) := by omega
        clear hcs q3
        go_wp2_with fail
        refine (ikf _ _ _ _ _ (ks[k]).2 rfl).mono ?_
        rintro e w' ⟨rfl, hB⟩
        replace BL := hid (BL.out.trans (((below_alloc1 wr _).trans (hB.mono (by simp))).mono BL.out.size))
        have B2 := hid (BB.out.trans (BL.out.mono BB.out.size))
        have EK : kF ((ks[k]).1, (ks[k]).2) = kF ks[k] := rfl
        rw [EK]
        clear hB EK q1 q2
        by_cases e : kF ks[k] = 0
        · have T2 := hid (show ∀ j (hj : j < ks.length), j < k + 1 → kF ks[j] = 0 from fun j hj hjk => by
            rcases Nat.lt_or_ge j k with q | q
            · exact T.out j hj q
            · obtain rfl : j = k := by omega
              exact e)
          rw [e]
          replace e := hid e
          go_wp2
          go_roundw
          case rel => exact ⟨k + 1, _, _, hlt, by go_num, rfl, rfl, T2, BL⟩
          case measure => simp [intOf]; omega
        · have E := hid (rF_key (p := p) hn.out k hlt T.out e)
          obtain ⟨x, hx⟩ : ∃ x, x = kF ks[k] := ⟨_, rfl⟩
          rw [← hx] at e ⊢
          have X := hid hx
          have ne : (x != 0) = true := by rw [bne_iff_ne]; exact e
          clear hx
          replace e := hid e
          go_wp2
          try simp only [Exit.inBlock, Exit.then]
          refine bodyPost_ret (two_results rfl _ _ _) rfl ?_
          exact ⟨_, ret_t (X.out.trans E.out.symm), fun q => absurd ((X.out.trans E.out.symm).trans q) e.out, B2.out⟩
      · have hke : k = ks.length := by omega
        subst hke
        replace T := hid (show ∀ j (hj : j < ks.length), kF ks[j] = 0 from fun j hj => T.out j hj hj)
        replace V := hid (var_below BL.out V.out)
        replace H := hid (H.out.below BL.out)
        replace BB := hid (BB.out.trans (BL.out.mono BB.out.size))
        clear BL
        obtain ⟨w2, hw2⟩ : ∃ w', w' = wr := ⟨_, rfl⟩
        rw [← hw2] at V H BB ⊢
        clear hw2
        obtain ⟨f0, f1, -, -⟩ := var2_facts V.out
        go_wp2_with fail
        refine (idr _ ks _ H.out h1 (by omega)).mono ?_
        rintro e w3 ⟨t, rfl, ht, hf, hB⟩
        replace V := hid (var_below hB V.out)
        replace H := hid (H.out.below hB)
        replace BB := hid (BB.out.trans (hB.mono BB.out.size))
        clear hB f0 f1
        obtain ⟨f0, f1, -, -⟩ := var2_facts V.out
        cases t
        · have E := hid (rF_form (p := p) hn.out T.out (hf rfl))
          clear ht hf
          go_wp2
          try simp only [Exit.inBlock, Exit.then]
          refine bodyPost_ret (two_results rfl _ _ _) rfl ?_
          exact ⟨_, ret_t E.out.symm, fun q => absurd (E.out.symm.trans q) (by decide), BB.out⟩
        · have RR := hid (ht rfl)
          clear ht hf
          have F0 := fun x => cell_alloc f0 x
          have F1 := cell_alloc (cell_alloc f1 (.map #[] 0)) (.cells #[.int .i64 p, .map (some w3.heap.size)] 67)
          have M0 := hid (show MapK ((w3.alloc (.map #[] 0)).alloc (.cells #[.int .i64 p, .map (some w3.heap.size)] 67)) w3.heap.size 0 (.map []) from (World.ownsMap_made w3 Tryz.prog 2 Rv).alloc _)
          have VR := hid (heap_alloc2_new w3 (.map #[] 0) (.cells #[.int .i64 p, .map (some w3.heap.size)] 67))
          have hA := below_alloc2 w3 (.map #[] 0) (.cells #[.int .i64 p, .map (some w3.heap.size)] 67)
          replace V := hid (var_below hA V.out)
          replace H := hid (H.out.below hA)
          have SZ := hid BB.out.size
          replace BB := hid (BB.out.trans (hA.mono BB.out.size))
          clear hA
          go_wp2_with fail
          clear F0 F1 f0 f1
          generalize (w3.alloc (.map #[] 0)).alloc (.cells #[.int .i64 p, .map (some w3.heap.size)] 67) = w5 at *
          have SZ5 := hid (show w.heap.size ≤ w3.heap.size from SZ.out)
          generalize w3.heap.size = bM at *
          obtain ⟨gr, hgr⟩ : ∃ g, g = bM + 1 := ⟨_, rfl⟩
          rw [← hgr] at VR ⊢
          have GR5 := hid (show w.heap.size ≤ gr by rw [hgr]; exact Nat.le_succ_of_le SZ5.out)
          clear hgr
          go_loopw [9, 42] (fun s9 i wr => ∃ k : Nat, ∃ u9 : Value, ∃ D : DataW Value, k ≤ ks.length ∧ i = .int .i64 k ∧ s9 = u9 ∧ Hid (MapK wr bM k D) ∧ Hid (GoodM D) ∧ Hid (HasTo ks k D) ∧ Hid (AtTo ks k D) ∧ Hid (w5.grownBy wr (some bM))) (fun _ i _ => ks.length - (intOf i).toNat)
          case atStart => exact ⟨0, _, .map [], by omega, rfl, rfl, M0, hid GoodM.nil, hid (fun x => ⟨(fun h => by cases h), (fun ⟨j, _, h, _⟩ => absurd h (Nat.not_lt_zero j))⟩), hid (fun j _ h => absurd h (Nat.not_lt_zero j)), hid (World.grownBy.refl _ _)⟩
          case round =>
            obtain ⟨k, v9, D, hk', rfl, rfl, MK, GD, HT, AT, GG⟩ := hrel
            by_cases hlt' : k < ks.length
            · obtain ⟨⟨d1, d2⟩, d3⟩ := kF_ok (T.out k hlt')
              obtain ⟨a', ca', e, -, -, hcs⟩ := (rdk_grownM H.out M0.out GG.out).parts
              cases e
              obtain ⟨b, o, u, rfl, q1, q2, q3⟩ := hcs k hlt'
              obtain ⟨pu, cu, rfl, -, -, -⟩ := q3.parts
              rw [d3] at q2 q3
              have I1 := idx_kg b o ks.length cap k hlt'
              have k0 : (0 : Int) ≤ (k : Int) := by omega
              have k1 : (k : Int) < (ks.length : Int) := by omega
              have RU := hid q3
              have WF := hid (show (Lit.int .i64 (ks[k]).1).wf = true from WalkArith.wf_i64 (by omega))
              have VR2 := hid (var_grown GG.out VR.out (M0.out.apart VR.out))
              have VA := hid (var_alloc (.cells #[.int .i64 (ks[k]).1, .slice pu 16 cu] 54) VR2.out)
              have MA := hid (show MapK (wr.alloc (.cells #[.int .i64 (ks[k]).1, .slice pu 16 cu] 54)) bM k D from World.ownsMap.alloc MK.out _)
              have RA := hid (RU.out.below (below_alloc1 wr (.cells #[.int .i64 (ks[k]).1, .slice pu 16 cu] 54)))
              have GA := hid (World.grownBy_alloc wr (.cells #[.int .i64 (ks[k]).1, .slice pu 16 cu] 54) (some bM))
              have hk9 : k < 1000 := by omega
              have D3 := hid d3
              clear hcs q3 d3
              go_wp2_with fail
              refine (iput gr bM k p (ks[k]).1 (.slice pu 16 cu) (ks[k]).2 D _ VA.out MA.out hk9 RA.out D3.out WF.out).mono ?_
              rintro e w' ⟨⟨u', rfl⟩, hM', hG'⟩
              have NG := hid (grown_trans (grown_trans GG.out GA.out) hG')
              have NM := hid hM'
              have NK := lawK.key (Go.Maps.keyOf_int_mk Tryz.underlying2 WF.out)
              have ND := hid (GD.out.put MK.out.isMap _ NK (ks[k]).2 D3.out)
              have NA := hid (AT.out.next MK.out.isMap RR.out hlt' NK)
              have NH := hid (HT.out.next MK.out.isMap hlt' NK (.held (.agg (arr (ks[k]).2))))
              clear hM' hG' q1 q2 NK
              go_wp2
              go_roundw
              case rel => exact ⟨k + 1, _, _, hlt', by go_num, rfl, NM, ND, NH, NA, NG⟩
              case measure => simp [intOf]; omega
            · have hke : k = ks.length := by omega
              subst hke
              have BE := hid (BB.out.grown GG.out BB.out.size (fun x e => by cases e; exact SZ5.out))
              have VR2 := var_grown GG.out VR.out (M0.out.apart VR.out)
              have V2 := var_grown GG.out V.out (M0.out.apart V.out)
              obtain ⟨f0, f1, -, -⟩ := var2_facts V2
              have VR3 := hid VR2
              clear V2 VR2
              go_wp2_with fail
              refine (ihas _ _ _ _ _ D _ VR3.out MK.out GD.out hp).mono ?_
              rintro e w' ⟨rfl, hB⟩
              replace BE := hid (BE.out.trans (hB.mono BE.out.size))
              have HH := hid (HT.out p)
              have R1 := hid (show Ring1 w' gr bM p ks D from ⟨var_below hB VR3.out, MK.out.below hB, GD.out, HT.out, AT.out⟩)
              clear hB f0 f1
              cases hs : Maps.has D (.int .i64 p)
              · have E := hid (rF_none (p := p) hn.out T.out RR.out (fun ⟨j, hj, hx⟩ => by
                  have q := HH.out.2 ⟨j, hj, hj, hx⟩
                  rw [hs] at q
                  cases q))
                go_wp2
                try simp only [Exit.inBlock, Exit.then]
                refine bodyPost_ret (two_results rfl _ _ _) rfl ?_
                exact ⟨_, ret_t E.out.symm, fun q => absurd (E.out.symm.trans q) (by decide), BE.out⟩
              · have E := hid (rF_ok (p := p) hn.out T.out RR.out (by
                  obtain ⟨j, hj, -, hx⟩ := HH.out.1 hs
                  exact ⟨j, hj, hx⟩))
                go_wp2
                try simp only [Exit.inBlock, Exit.then]
                refine bodyPost_ret (two_results rfl _ _ _) rfl ?_
                exact ⟨_, ret_t E.out.symm, fun _ => ⟨gr, bM, D, rfl, GR5.out, SZ5.out, R1.out⟩, BE.out⟩
theorem ikr (p : Int) (v : Value) (ks : List (Int × List Nat)) (w : World) (h : RdK w v ks) (hp : (Lit.int .i64 p).wf = true) :
    Calls Tryz.prog 25 #[.agg #[.int .i64 p, v]] w fun e w' => ∃ r : Value, e = .returned (.tuple #[r, .int .i64 (rF p ks)]) ∧ Below w.heap.size w w' :=
  (ikrD p v ks w h hp).mono fun _ _ ⟨r, he, _, hB⟩ => ⟨r, he, hB⟩
end Go.Proofs.YtckgjghpfjinfakGreat.W

namespace Go.Proofs.YtckgjghpfjinfakGreat.W
open Go.ChangeShapes Go.WideShapes Go.ChangeAt Go.RowKit
open Go.Proofs.YtckgjghpfjinfakGreat.M

theorem look_at {b n : Nat} {D : DataW Value} (hG : GoodM D) (id' : Int) (hw : (Lit.int .i64 id').wf = true) : ∃ lx : List Nat, lx.length = 16 ∧ D.atKey (.int .i64 id') zK = .held (.agg (arr lx)) ∧
    ∀ w' : World, MapK w' b n D → (Instr.lookup 65 (.map (some b)) (.int .i64 id') true).run Tryz.prog w' = .ok (.tuple #[.agg (arr lx), .bool (Maps.has D (.int .i64 id'))]) w' := by
  obtain ⟨lx, h1, h2⟩ := hG (.int .i64 id')
  refine ⟨lx, h1, h2, fun w' hM => ?_⟩
  obtain ⟨v, ps, hr, hv⟩ := World.ownsMap.look_ok hM lawK Tryz.underlying65 (zeroH w') (zd := zK) (zp := []) rfl (Go.Maps.keyOf_int_mk Tryz.underlying2 hw)
  have h2' : D.atKey (.int .i64 id') zK = .held (.agg (arr lx)) := h2
  rw [h2'] at hv
  unfold Rv at hv
  simp only [Option.some.injEq, Prod.mk.injEq, DataW.held.injEq] at hv
  rw [hr, hv.1]
end Go.Proofs.YtckgjghpfjinfakGreat.W

namespace Go.Proofs.YtckgjghpfjinfakGreat.M
open Go.RowKit

theorem step_store_row {P : Program} {ops : Array Oper} {o : Oper} {a : Act} {w : World} {K : Act → World → Prop} {Q : Exit → Act → World → Prop} {E : Prop} (hgd : o.guard = none) (ty : TypeId) (x y : Operand) (ho : o.op = .store ty x y)
    (g : Nat) (cells : Array Value) (hx : a.eval x = .pointer (some ⟨g, 0, none⟩)) (hy : a.eval y = .agg cells)
    (t : TypeId) (old : Array Value) (hg : w.heap[g]? = some (.cells old t (0, 0))) (hi : (P.info? ty).map (·.size) = some cells.size)
    (hold : old.size = cells.size) (h1 : cells.all (·.oneCell') = true)
    (h : K (a.put o.dst undef) (w.setRow g cells)) : if Region.wanted o (yielded ops a.tmps) = true then Oper.wp P o a w K Q else E := by
  have hw : Region.wanted o (yielded ops a.tmps) = true := by simp [Region.wanted, hgd]
  rw [if_pos hw]
  exact wp_store_row ty x y ho g cells hx hy t old hg hi hold h1 h
theorem step_load_sub {P : Program} {ops : Array Oper} {op : Oper} {a : Act} {w : World} {K : Act → World → Prop} {Q : Exit → Act → World → Prop} {E : Prop} (hgd : op.guard = none) (ty : TypeId) (x : Operand) (ho : op.op = .load ty x)
    (b o : Nat) (hx : a.eval x = .pointer (some ⟨b, o, none⟩)) (l : List Nat) (hc : w.rangeAt b o (l.map bv)) (d : TypeDesc) (hu : P.underlying ty = some d) (hd : d.isRow = true) (hi : (P.info? ty).map (·.size) = some (arr l).size)
    (h : K (a.put op.dst (.agg (arr l))) w) : if Region.wanted op (yielded ops a.tmps) = true then Oper.wp P op a w K Q else E := by
  have hw : Region.wanted op (yielded ops a.tmps) = true := by simp [Region.wanted, hgd]
  rw [if_pos hw]
  exact wp_load_mid ty x ho b o hx (l.map bv) d hc hu hd (by rw [List.length_map, ← arr_size]; exact hi) h
end Go.Proofs.YtckgjghpfjinfakGreat.M

namespace Go.Proofs.YtckgjghpfjinfakGreat.W
open Go.ChangeShapes Go.WideShapes Go.ChangeAt Go.RowKit
open Go.Proofs.YtckgjghpfjinfakGreat.M

theorem mark_yes {s c : Int} (h : mOk s c) : (inB s 0 15 && inB c 0 1000000000) = true := by unfold mOk at h; unfold inB; simp; omega
theorem mark_no {s c : Int} (h : ¬ mOk s c) : (inB s 0 15 && inB c 0 1000000000) = false := by
  unfold mOk at h
  unfold inB
  by_cases h1 : 0 ≤ s ∧ s ≤ 15
  · rw [decide_eq_false (fun q : 0 ≤ c ∧ c ≤ 1000000000 => h ⟨h1, q⟩), Bool.and_false]
  · rw [decide_eq_false h1, Bool.false_and]

set_option maxRecDepth 100000 in
theorem imark (s c : Int) (w : World) :
    Calls Tryz.prog 61 #[.agg #[.int .i64 s, .int .i64 c]] w fun e w' => e = .returned (.bool (inB s 0 15 && inB c 0 1000000000)) ∧ Below w.heap.size w w' := by
  go_enter Tryz.func61, Tryz.ntmps61
  go_wp2_with fail
  refine (within2 _ _ _ _ _ _ _ _ (heap_alloc2_new w _ _)).mono ?_
  rintro e w1 ⟨rfl, hB⟩
  have hb1 := hid (show Below w.heap.size w w1 from (below_alloc2 w _ _).trans (hB.mono (by simp; omega)))
  clear hB
  obtain ⟨t, ht⟩ : ∃ t, t = (inB s 0 15 && inB c 0 1000000000) := ⟨_, rfl⟩
  rw [← ht]
  replace ht := hid ht
  go_wp2
  go_ret
  exact ⟨ret_b ht.out, hb1.out⟩

set_option maxRecDepth 100000 in
theorem iright (k s c : Int) (w : World) :
    Calls Tryz.prog 48 #[.agg #[.int .i64 s, .int .i64 c, .int .i64 k]] w fun e w' => ∃ t, e = .returned (.bool t) ∧ (hOk k s c → t = true) ∧ (¬ hOk k s c → t = false) ∧ Below w.heap.size w w' := by
  go_enter Tryz.func48, Tryz.ntmps48
  go_wp2_with fail
  refine (within1 _ _ _ _ _ (heap_alloc2_new w _ _)).mono ?_
  rintro e w1 ⟨rfl, hB⟩
  have V : w1.heap[w.heap.size]? = some (.cells #[.int .i64 s, .int .i64 c, .int .i64 k] 71) := by rw [hB.block _ (by simp; omega)]; exact heap_alloc2_old w _ _
  have c0 : w1.cell? ⟨w.heap.size, 0, none⟩ = some (.int .i64 s) := by rw [cell_of_row w1 w.heap.size 0 _ _ _ V]; rfl
  have c1 : w1.cell? ⟨w.heap.size, 1, none⟩ = some (.int .i64 c) := by rw [cell_of_row w1 w.heap.size 1 _ _ _ V]; rfl
  have c2 : w1.cell? ⟨w.heap.size, 2, none⟩ = some (.int .i64 k) := by rw [cell_of_row w1 w.heap.size 2 _ _ _ V]; rfl
  have hb1 := hid (show Below w.heap.size w w1 from (below_alloc2 w _ _).trans (hB.mono (by simp; omega)))
  clear hB V
  by_cases hk : 1 ≤ k ∧ k ≤ 255
  · rw [show inB k 1 255 = true by unfold inB; exact decide_eq_true hk]
    have HK := hid hk
    clear hk
    go_wp2_with fail
    refine (imark s c _).mono ?_
    rintro e w2 ⟨rfl, hB⟩
    have hb2 := hid (hb1.out.trans (hB.mono hb1.out.size))
    clear hB
    obtain ⟨t, ht⟩ : ∃ t, t = (inB s 0 15 && inB c 0 1000000000) := ⟨_, rfl⟩
    rw [← ht]
    replace ht := hid ht
    go_wp2
    go_ret
    exact ⟨t, rfl, fun h => ht.out.trans (mark_yes h.2), fun h => ht.out.trans (mark_no fun q => h ⟨HK.out, q⟩), hb2.out⟩
  · rw [show inB k 1 255 = false by unfold inB; exact decide_eq_false hk]
    have HK := hid hk
    clear hk
    go_wp2
    go_ret
    exact ⟨false, rfl, fun h => absurd h.1 HK.out, fun _ => rfl, hb1.out⟩
end Go.Proofs.YtckgjghpfjinfakGreat.W

namespace Go.Proofs.YtckgjghpfjinfakGreat.W
open Go.ChangeShapes Go.WideShapes Go.ChangeAt Go.RowKit
open Go.Proofs.YtckgjghpfjinfakGreat.M

set_option maxRecDepth 100000 in
theorem ihol (k s c : Int) (a : Option Addr) (n cap : Nat) (w : World) :
    Calls Tryz.prog 27 #[.agg #[.int .i64 k, .int .i64 s, .int .i64 c, .slice a n cap]] w fun e w' => e = .returned (.agg #[.int .i64 s, .int .i64 c, .int .i64 k]) ∧ Below w.heap.size w w' := by
  go_enter Tryz.func27, Tryz.ntmps27
  go_wp2
  exact bodyPost_ret (v := .agg #[.int .i64 s, .int .i64 c, .int .i64 k]) (results_cell_row rfl _ _ (w.heap.size + 1) 71 _ _ _ rfl (heap_alloc2_new w _ _) Tryz.underlying71 rfl (by kernel_rfl)) rfl ⟨rfl, below_alloc2 w _ _⟩
end Go.Proofs.YtckgjghpfjinfakGreat.W

namespace Go.Proofs.YtckgjghpfjinfakGreat.W
open Go.ChangeShapes Go.WideShapes Go.ChangeAt Go.RowKit
open Go.Proofs.YtckgjghpfjinfakGreat.M

set_option maxRecDepth 100000 in
theorem ilf (k s c : Int) (a : Option Addr) (n cap : Nat) (w : World) (hn : n ≤ maxLen) :
    Calls Tryz.prog 26 #[.agg #[.int .i64 k, .int .i64 s, .int .i64 c, .slice a n cap]] w fun e w' => e = .returned (.int .i64 (lF k s c n)) ∧ Below w.heap.size w w' := by
  unfold maxLen at hn
  have V := hid (heap_alloc_new w (.cells #[.int .i64 k, .int .i64 s, .int .i64 c, .slice a n cap] 37))
  have BB := hid (below_alloc1 w (.cells #[.int .i64 k, .int .i64 s, .int .i64 c, .slice a n cap] 37))
  obtain ⟨⟨d0, d1, d2, d3⟩, -⟩ := var4_facts V.out
  go_enter Tryz.func26, Tryz.ntmps26
  go_wp2_with fail
  refine (ihol _ _ _ _ _ _ _).mono ?_
  rintro e w1 ⟨rfl, hB⟩
  replace V := hid (var_below hB V.out)
  replace BB := hid (BB.out.trans (hB.mono BB.out.size))
  clear hB d0 d1 d2 d3
  go_wp2_with fail
  refine (iright _ _ _ _).mono ?_
  rintro e w2 ⟨b, rfl, hy, hno, hB⟩
  replace V := hid (var_below hB V.out)
  replace BB := hid (BB.out.trans (hB.mono BB.out.size))
  clear hB
  by_cases h : hOk k s c
  · obtain rfl := hy h
    clear hy hno
    obtain ⟨⟨-, -, -, d3⟩, -⟩ := var4_facts V.out
    go_wp2_with fail
    refine (within1 _ _ _ _ _ (heap_alloc_new w2 _)).mono ?_
    rintro e w3 ⟨rfl, hB⟩
    replace hB := (below_alloc1 w2 (.cells #[.int .i64 (n : Int), .int .i64 0, .int .i64 300] 89)).trans (hB.mono (by simp))
    replace BB := hid (BB.out.trans (hB.mono BB.out.size))
    clear hB d3 V
    by_cases h3 : n ≤ 300
    · have E := hid (lF_ok h h3)
      rw [show inB (n : Int) 0 300 = true by unfold inB; exact decide_eq_true (by omega)]
      replace h := hid h
      go_wp2
      go_ret
      exact ⟨ret_n E.out.symm, BB.out⟩
    · have E := hid (lF_many h h3)
      rw [show inB (n : Int) 0 300 = false by unfold inB; exact decide_eq_false (by omega)]
      replace h := hid h
      go_wp2
      go_ret
      exact ⟨ret_n E.out.symm, BB.out⟩
  · obtain rfl := hno h
    have E := hid (lF_range (n := n) h)
    replace h := hid h
    clear hy hno
    go_wp2
    go_ret
    exact ⟨ret_n E.out.symm, BB.out⟩
end Go.Proofs.YtckgjghpfjinfakGreat.W

namespace Go.Proofs.YtckgjghpfjinfakGreat.W
open Go.ChangeShapes Go.WideShapes Go.ChangeAt Go.RowKit
open Go.Proofs.YtckgjghpfjinfakGreat.M

theorem shift_no (n s : Nat) (h : n < 256 ^ s) : ((n : Int) / 2 ^ (8 * s) != 0) = false := by
  have e : ((n : Int) / 2 ^ (8 * s)) = ((n / 256 ^ s : Nat) : Int) := by rw [show (256 : Nat) ^ s = 2 ^ (8 * s) from (Nat.pow_mul 2 8 s).symm]; simp
  rw [e, Nat.div_eq_of_lt h]; rfl
theorem shift_yes (n s : Nat) (h : 256 ^ s ≤ n) : ((n : Int) / 2 ^ (8 * s) != 0) = true := by
  have e : ((n : Int) / 2 ^ (8 * s)) = ((n / 256 ^ s : Nat) : Int) := by rw [show (256 : Nat) ^ s = 2 ^ (8 * s) from (Nat.pow_mul 2 8 s).symm]; simp
  have h1 : 0 < n / 256 ^ s := Nat.div_pos h (Nat.pow_pos (by omega))
  rw [e, bne_iff_ne]; omega

set_option maxRecDepth 100000 in
theorem ipw_ok (n s : Nat) (w : World) (hs1 : 1 ≤ s) (hs : s ≤ 8) (hn : n < 9223372036854775808) (hp : n < 256 ^ s) :
    Calls Tryz.prog 49 #[.int .i64 (n : Int), .int .i64 (s : Int)] w fun e w' => ∃ v, e = .returned (.agg #[.int .i64 0, v]) ∧ Own w' w.heap.size v (packL n s) ∧ Below w.heap.size w w' := by
  have hin : (inB (s : Int) 1 8 && inB (n : Int) 0 9223372036854775807) = true := by unfold inB; simp; omega
  have hsh := shift_no n s hp
  obtain ⟨i0, hi, hz0, hz1, hz2⟩ := info_parts info8
  go_enter Tryz.func49, Tryz.ntmps49
  go_wp2_with fail
  refine (within2 _ _ _ _ _ _ _ _ (heap_alloc2_new w _ _)).mono ?_
  rintro e w1 ⟨rfl, hB⟩
  have hv : w1.heap[w.heap.size]? = some (.cells #[.int .i64 0, .slice none 0 0] 31) := by rw [hB.block _ (by simp; omega)]; exact heap_alloc2_old w _ _
  have hsz : w.heap.size < w1.heap.size := (Array.getElem?_eq_some_iff.1 hv).1
  have hb1 : Below w.heap.size w w1 := (below_alloc2 w _ _).trans (hB.mono (by simp; omega))
  clear hB
  go_wp2_with (at_make; refine wpList_make_full _ rfl _ _ 25 rfl w1.heap.size 5 i0 (.int .u8 0) 1 Tryz.underlying25 hi hz0 hz1 .i64 .i64 _ _ s rfl rfl rfl rfl (by rw [hz2]; omega) (by unfold maxLen; omega) (Nat.le_refl _) ?_; intro w0 hown0 hgrow0)
  have hown1 := own_made w1 w0 s hown0
  have hb0 := below_of_grown hgrow0 (Nat.le_refl _) (fun k hk => by simp at hk)
  clear hown0 hgrow0 hi hz0 hz1 hz2 hsh hin
  go_loopw [0, 6] (fun nn i wr => ∃ j : Nat, j ≤ s ∧ i = .int .i64 ((j : Int) - 1) ∧ nn = .int .i64 (n / 256 ^ (s - j) : Nat) ∧ Own wr w1.heap.size (.slice (some ⟨w1.heap.size, 0, none⟩) s s) (packed n s j) ∧ Below w1.heap.size w1 wr) (fun _ i _ => (intOf i + 1).toNat)
  case atStart => exact ⟨s, by omega, rfl, by simp, by rw [packed_all]; exact hown1, hb0⟩
  case round =>
    obtain ⟨j, hj, rfl, rfl, hown, hb⟩ := hrel
    by_cases hlt : 0 < j
    · obtain ⟨t, rfl⟩ : ∃ t, j = t + 1 := ⟨j - 1, by omega⟩
      have et : ((t + 1 : Nat) : Int) - 1 = (t : Int) := by omega
      rw [et]
      have hl1 := packed_len n s (t + 1) hj
      have hc2 : ∃ u, wr.cell? ⟨w1.heap.size, t, none⟩ = some u := ⟨_, hown.cell hl1 t (by omega)⟩
      obtain ⟨u, hc2⟩ := hc2
      have hf2 := hown.open hl1 t
      have hs2 := hown.stored hl1 t (n / 256 ^ (s - (t + 1)) % 256)
      rw [packed_set n s t (by omega)] at hs2
      have hb2 := hb.setCell (p := ⟨w1.heap.size, t, none⟩) (Nat.le_refl _) (bv (n / 256 ^ (s - (t + 1)) % 256))
      have hx : n / 256 ^ (s - (t + 1)) < 9223372036854775808 := Nat.lt_of_le_of_lt (Nat.div_le_self _ _) hn
      have Hq : Hid (n / 256 ^ (s - t) = n / 256 ^ (s - (t + 1)) / 256) := by unfold Hid; rw [quot_step, show s - (t + 1) + 1 = s - t by omega]
      generalize n / 256 ^ (s - (t + 1)) = x at *
      unfold bv at hs2 hb2
      have e : ((x % 256 : Nat) : Int) = (x : Int) % 256 := by omega
      rw [e] at hs2 hb2
      clear hown hb e et hv hb1 hown1 hb0
      go_wp2
      go_roundw
      case rel => exact ⟨t, by omega, rfl, by rw [Hq.out]; rfl, hs2.1, hb2⟩
      case measure => simp [intOf]
    · have hk8 : j = 0 := by omega
      subst hk8
      rw [packed_zero] at hown
      have hv2 : wr.heap[w.heap.size]? = some (.cells #[.int .i64 0, .slice none 0 0] 31) := by rw [hb.block _ hsz]; exact hv
      obtain ⟨f1, f2, f3, f4⟩ := var2_facts hv2
      have hset := var2_set (x' := .int .i64 0) (y' := .slice (some ⟨w1.heap.size, 0, none⟩) s s) hv2
      have hbel := below_set2 (x := .int .i64 0) (y := .slice (some ⟨w1.heap.size, 0, none⟩) s s) (hb1.trans (hb.mono (by omega))) (Nat.le_refl _)
      have hown2 := (hown.set2 (g := w.heap.size) (x := .int .i64 0) (y := .slice (some ⟨w1.heap.size, 0, none⟩) s s) hsz).mono (base' := w.heap.size) (by omega)
      clear hv hv2 hown hb hb1 hown1 hb0
      go_wp2
      exact bodyPost_ret (v := .agg #[.int .i64 0, .slice (some ⟨w1.heap.size, 0, none⟩) s s]) (results_cell_row rfl _ _ w.heap.size 31 _ _ _ rfl hset Tryz.underlying31 rfl (by kernel_rfl)) rfl ⟨_, rfl, hown2, hbel⟩
end Go.Proofs.YtckgjghpfjinfakGreat.W

namespace Go.Proofs.YtckgjghpfjinfakGreat.W
open Go.ChangeShapes Go.WideShapes Go.ChangeAt Go.RowKit
open Go.Proofs.YtckgjghpfjinfakGreat.M

theorem fld1 (x : Int) (v : Value) (w : World) : (Instr.field 31 (.agg #[.int .i64 x, v]) 1).run Tryz.prog w = .ok v w := by kernel_rfl
set_option maxRecDepth 100000 in
theorem inonce (s c : Nat) (w : World) (hs : s ≤ 15) (hc : c ≤ 1000000000) :
    Calls Tryz.prog 51 #[.agg #[.int .i64 (s : Int), .int .i64 (c : Int)]] w fun e w' => ∃ v, e = .returned v ∧ Own w' w.heap.size v (nonceL s c) ∧ Below w.heap.size w w' := by
  have P1 := hid (fun w => ipw_ok s 4 w (by omega) (by omega) (by omega) (by omega))
  have P2 := hid (fun w => ipw_ok c 8 w (by omega) (by omega) (by omega) (by omega))
  go_enter Tryz.func51, Tryz.ntmps51
  go_wp2_with fail
  obtain ⟨c0, c1, -, -⟩ := var2_facts (heap_alloc_new w (.cells #[.int .i64 (s : Int), .int .i64 (c : Int)] 69))
  have BB := hid (below_alloc1 w (.cells #[.int .i64 (s : Int), .int .i64 (c : Int)] 69))
  generalize w.alloc (.cells #[.int .i64 (s : Int), .int .i64 (c : Int)] 69) = w0 at *
  obtain ⟨g, hg⟩ : ∃ g, g = w.heap.size := ⟨_, rfl⟩
  rw [← hg] at c0 c1 ⊢
  replace hg := hid hg
  refine wp_region_held_drew (S := fun w' => Below w0.heap.size w0 w') (by kernel_rfl) (Below.refl _ _).drew (fun hH => ?_)
  generalize w0.drew = x at hH ⊢
  refine wpAnyH_take (i := 0) (v := .pointer (some ⟨g, 0, none⟩)) (by simp only [List.getElem?_toArray, List.getElem?_cons_zero]; rfl) (by kernel_rfl) (by kernel_rfl) (by kernel_rfl) (by intro _ _ _ h; exact h) (Or.inl ⟨by rfl, fun w hS => by go_simp⟩) hH ?_
  simp only [Act.put, List.setIfInBounds_toArray, List.set_cons_zero, List.set_cons_succ]
  refine wpAnyH_take (i := 1) (v := .int .i64 (s : Int)) (by simp only [List.getElem?_toArray, List.getElem?_cons_succ, List.getElem?_cons_zero]; rfl) (by kernel_rfl) (by kernel_rfl) (by kernel_rfl) (by intro _ _ _ h; exact h) (Or.inl ⟨by rfl, fun w hS => by (have y0 := cell_kept hS c0; go_simp)⟩) hH ?_
  simp only [Act.put, List.setIfInBounds_toArray, List.set_cons_zero, List.set_cons_succ]
  refine wpAnyH_take (i := 4) (v := .pointer (some ⟨g, 1, none⟩)) (by simp only [List.getElem?_toArray, List.getElem?_cons_succ, List.getElem?_cons_zero]; rfl) (by kernel_rfl) (by kernel_rfl) (by kernel_rfl) (by intro _ _ _ h; exact h) (Or.inl ⟨by rfl, fun w hS => by go_simp⟩) hH ?_
  simp only [Act.put, List.setIfInBounds_toArray, List.set_cons_zero, List.set_cons_succ]
  refine wpAnyH_take (i := 5) (v := .int .i64 (c : Int)) (by simp only [List.getElem?_toArray, List.getElem?_cons_succ, List.getElem?_cons_zero]; rfl) (by kernel_rfl) (by kernel_rfl) (by kernel_rfl) (by intro _ _ _ h; exact h) (Or.inl ⟨by rfl, fun w hS => by (have y0 := cell_kept hS c1; go_simp)⟩) hH ?_
  simp only [Act.put, List.setIfInBounds_toArray, List.set_cons_zero, List.set_cons_succ]
  refine wpAnyH_ready (rs := [2]) (by kernel_rfl) (by simp) ?_
  refine AllReadyH.cons (by simp only [List.getElem?_toArray, List.getElem?_cons_succ, List.getElem?_cons_zero]; rfl) (fun K hK => ?_) AllReadyH.nil
  go_simp
  refine (P1.out _).mono ?_
  rintro e x2 ⟨v2, rfl, hO, hM⟩
  obtain ⟨p2, k2, rfl, -, -, -⟩ := hO.rd.parts
  have SB := hid hH.size
  refine hK.out _ _ (hH.trans (hM.mono hH.size)) (fun hH => ?_)
  clear hK K
  have O1 := hid (hO.mono (base' := w0.heap.size) SB.out)
  clear hM SB
  refine wpAnyH_take (i := 3) (v := .slice p2 (packL s 4).length k2) (by simp only [List.getElem?_toArray, List.getElem?_cons_succ, List.getElem?_cons_zero]; rfl) (by kernel_rfl) (by kernel_rfl) (by kernel_rfl) (by intro _ _ _ h; exact h) (Or.inl ⟨by rfl, fun w hS => by (have hf1 := fld1; go_simp)⟩) hH ?_
  simp only [Act.put, List.setIfInBounds_toArray, List.set_cons_zero, List.set_cons_succ]
  refine wpAnyH_ready (rs := [6]) (by kernel_rfl) (by simp) ?_
  refine AllReadyH.cons (by simp only [List.getElem?_toArray, List.getElem?_cons_succ, List.getElem?_cons_zero]; rfl) (fun K hK => ?_) AllReadyH.nil
  go_simp
  refine (P2.out _).mono ?_
  rintro e x6 ⟨v6, rfl, hO, hM⟩
  obtain ⟨p6, k6, rfl, -, -, -⟩ := hO.rd.parts
  have SB := hid hH.size
  refine hK.out _ _ (hH.trans (hM.mono hH.size)) (fun hH => ?_)
  clear hK K
  replace O1 := hid (O1.out.below hM)
  have R2 := hid (hO.rd)
  clear hM SB
  refine wpAnyH_take (i := 7) (v := .slice p6 (packL c 8).length k6) (by simp only [List.getElem?_toArray, List.getElem?_cons_succ, List.getElem?_cons_zero]; rfl) (by kernel_rfl) (by kernel_rfl) (by kernel_rfl) (by intro _ _ _ h; exact h) (Or.inl ⟨by rfl, fun w hS => by (have hf1 := fld1; go_simp)⟩) hH ?_
  simp only [Act.put, List.setIfInBounds_toArray, List.set_cons_zero, List.set_cons_succ]
  refine wpAnyH_ready (rs := [8]) (by kernel_rfl) (by simp) ?_
  refine AllReadyH.cons (by simp only [List.getElem?_toArray, List.getElem?_cons_succ, List.getElem?_cons_zero]; rfl) (fun K hK => ?_) AllReadyH.nil
  refine step_app (by rfl) _ _ (by rfl) _ _ (packL s 4) (packL c 8) w0.heap.size (by rfl) (by rfl) O1.out R2.out (by rw [packL_len, packL_len]; omega) hH.size ?_
  intro v8 x8 hO hG
  refine hK.out _ _ (hH.grown hG hH.size (O1.out.row (Nat.le_refl _))) (fun hH => ?_)
  clear hK K hG
  have O6 := hid hO
  clear hO
  refine wpAnyH_take (i := 9) (v := v8) (by simp only [List.getElem?_toArray, List.getElem?_cons_succ, List.getElem?_cons_zero]; rfl) (by kernel_rfl) (by kernel_rfl) (by kernel_rfl) (by intro _ _ _ h; exact h) (Or.inl ⟨by rfl, fun w hS => by go_simp⟩) hH ?_
  simp only [Act.put, List.setIfInBounds_toArray, List.set_cons_zero, List.set_cons_succ]
  refine wpAnyH_done (by kernel_rfl) ?_ _
  go_wp2
  go_ret
  exact ⟨_, rfl, O6.out.mono BB.out.size, BB.out.trans (hH.mono BB.out.size)⟩
set_option maxRecDepth 100000 in
theorem ipacked (k s c : Nat) (w : World) (hk : k ≤ 255) (hs : s ≤ 15) (hc : c ≤ 1000000000) :
    Calls Tryz.prog 28 #[.agg #[.int .i64 (s : Int), .int .i64 (c : Int), .int .i64 (k : Int)]] w fun e w' => ∃ v, e = .returned v ∧ Own w' w.heap.size v (headL k s c) ∧ Below w.heap.size w w' := by
  have P2 := hid (fun w => ipw_ok c 8 w (by omega) (by omega) (by omega) (by omega))
  go_enter Tryz.func28, Tryz.ntmps28
  go_wp2_with fail
  have V := heap_alloc_new w (.cells #[.int .i64 (s : Int), .int .i64 (c : Int), .int .i64 (k : Int)] 71)
  have BB := hid (below_alloc1 w (.cells #[.int .i64 (s : Int), .int .i64 (c : Int), .int .i64 (k : Int)] 71))
  generalize w.alloc (.cells #[.int .i64 (s : Int), .int .i64 (c : Int), .int .i64 (k : Int)] 71) = w0 at *
  obtain ⟨g, hg⟩ : ∃ g, g = w.heap.size := ⟨_, rfl⟩
  rw [← hg] at V ⊢
  replace hg := hid hg
  have c0 : w0.cell? ⟨g, 0, none⟩ = some (.int .i64 (s : Int)) := by rw [cell_of_row w0 g 0 _ _ _ V]; rfl
  have c1 : w0.cell? ⟨g, 1, none⟩ = some (.int .i64 (c : Int)) := by rw [cell_of_row w0 g 1 _ _ _ V]; rfl
  have c2 : w0.cell? ⟨g, 2, none⟩ = some (.int .i64 (k : Int)) := by rw [cell_of_row w0 g 2 _ _ _ V]; rfl
  clear V
  refine wp_region_held_drew (S := fun w' => Below w0.heap.size w0 w') (by kernel_rfl) (Below.refl _ _).drew (fun hH => ?_)
  generalize w0.drew = x at hH ⊢
  refine wpAnyH_take (i := 0) (v := .pointer (some ⟨g, 2, none⟩)) (by simp only [List.getElem?_toArray, List.getElem?_cons_zero]; rfl) (by kernel_rfl) (by kernel_rfl) (by kernel_rfl) (by intro _ _ _ h; exact h) (Or.inl ⟨by rfl, fun w hS => by go_simp⟩) hH ?_
  simp only [Act.put, List.setIfInBounds_toArray, List.set_cons_zero, List.set_cons_succ]
  refine wpAnyH_take (i := 1) (v := .int .i64 (k : Int)) (by simp only [List.getElem?_toArray, List.getElem?_cons_succ, List.getElem?_cons_zero]; rfl) (by kernel_rfl) (by kernel_rfl) (by kernel_rfl) (by intro _ _ _ h; exact h) (Or.inl ⟨by rfl, fun w hS => by (have y0 := cell_kept hS c2; go_simp)⟩) hH ?_
  simp only [Act.put, List.setIfInBounds_toArray, List.set_cons_zero, List.set_cons_succ]
  refine wpAnyH_take (i := 2) (v := .int .u8 (k : Int)) (by simp only [List.getElem?_toArray, List.getElem?_cons_succ, List.getElem?_cons_zero]; rfl) (by kernel_rfl) (by kernel_rfl) (by kernel_rfl) (by intro _ _ _ h; exact h) (Or.inl ⟨by rfl, fun w hS => by (have y := wrap_s k (by omega); go_simp)⟩) hH ?_
  simp only [Act.put, List.setIfInBounds_toArray, List.set_cons_zero, List.set_cons_succ]
  refine wpAnyH_take (i := 3) (v := .pointer (some ⟨g, 0, none⟩)) (by simp only [List.getElem?_toArray, List.getElem?_cons_succ, List.getElem?_cons_zero]; rfl) (by kernel_rfl) (by kernel_rfl) (by kernel_rfl) (by intro _ _ _ h; exact h) (Or.inl ⟨by rfl, fun w hS => by go_simp⟩) hH ?_
  simp only [Act.put, List.setIfInBounds_toArray, List.set_cons_zero, List.set_cons_succ]
  refine wpAnyH_take (i := 4) (v := .pointer (some ⟨g, 0, none⟩)) (by simp only [List.getElem?_toArray, List.getElem?_cons_succ, List.getElem?_cons_zero]; rfl) (by kernel_rfl) (by kernel_rfl) (by kernel_rfl) (by intro _ _ _ h; exact h) (Or.inl ⟨by rfl, fun w hS => by go_simp⟩) hH ?_
  simp only [Act.put, List.setIfInBounds_toArray, List.set_cons_zero, List.set_cons_succ]
  refine wpAnyH_take (i := 5) (v := .int .i64 (s : Int)) (by simp only [List.getElem?_toArray, List.getElem?_cons_succ, List.getElem?_cons_zero]; rfl) (by kernel_rfl) (by kernel_rfl) (by kernel_rfl) (by intro _ _ _ h; exact h) (Or.inl ⟨by rfl, fun w hS => by (have y0 := cell_kept hS c0; go_simp)⟩) hH ?_
  simp only [Act.put, List.setIfInBounds_toArray, List.set_cons_zero, List.set_cons_succ]
  refine wpAnyH_take (i := 6) (v := .int .u8 (s : Int)) (by simp only [List.getElem?_toArray, List.getElem?_cons_succ, List.getElem?_cons_zero]; rfl) (by kernel_rfl) (by kernel_rfl) (by kernel_rfl) (by intro _ _ _ h; exact h) (Or.inl ⟨by rfl, fun w hS => by (have y := wrap_s s (by omega); go_simp)⟩) hH ?_
  simp only [Act.put, List.setIfInBounds_toArray, List.set_cons_zero, List.set_cons_succ]
  refine wpAnyH_take (i := 8) (v := .pointer (some ⟨g, 0, none⟩)) (by simp only [List.getElem?_toArray, List.getElem?_cons_succ, List.getElem?_cons_zero]; rfl) (by kernel_rfl) (by kernel_rfl) (by kernel_rfl) (by intro _ _ _ h; exact h) (Or.inl ⟨by rfl, fun w hS => by go_simp⟩) hH ?_
  simp only [Act.put, List.setIfInBounds_toArray, List.set_cons_zero, List.set_cons_succ]
  refine wpAnyH_take (i := 9) (v := .pointer (some ⟨g, 1, none⟩)) (by simp only [List.getElem?_toArray, List.getElem?_cons_succ, List.getElem?_cons_zero]; rfl) (by kernel_rfl) (by kernel_rfl) (by kernel_rfl) (by intro _ _ _ h; exact h) (Or.inl ⟨by rfl, fun w hS => by go_simp⟩) hH ?_
  simp only [Act.put, List.setIfInBounds_toArray, List.set_cons_zero, List.set_cons_succ]
  refine wpAnyH_take (i := 10) (v := .int .i64 (c : Int)) (by simp only [List.getElem?_toArray, List.getElem?_cons_succ, List.getElem?_cons_zero]; rfl) (by kernel_rfl) (by kernel_rfl) (by kernel_rfl) (by intro _ _ _ h; exact h) (Or.inl ⟨by rfl, fun w hS => by (have y0 := cell_kept hS c1; go_simp)⟩) hH ?_
  simp only [Act.put, List.setIfInBounds_toArray, List.set_cons_zero, List.set_cons_succ]
  refine wpAnyH_ready (rs := [7, 11]) (by kernel_rfl) (by simp) ?_
  refine AllReadyH.cons (by simp only [List.getElem?_toArray, List.getElem?_cons_succ, List.getElem?_cons_zero]; rfl) (fun K hK => ?_) ?_
  · go_simp
    have hM := below_alloc1 x (.cells #[.int .u8 1, .int .u8 (k : Int), .int .u8 (s : Int)] 5)
    have O3 := hid ((own_lit3 x 1 k s).mono (base' := w0.heap.size) hH.size)
    refine hK.out _ _ (hH.alloc hH.size _) (fun hH => ?_)
    clear hK K hM
    generalize x.alloc (.cells #[.int .u8 1, .int .u8 (k : Int), .int .u8 (s : Int)] 5) = x7 at *
    refine wpAnyH_ready (rs := [11]) (by kernel_rfl) (by simp) ?_
    refine AllReadyH.cons (by simp only [List.getElem?_toArray, List.getElem?_cons_succ, List.getElem?_cons_zero]; rfl) (fun K hK => ?_) AllReadyH.nil
    go_simp
    refine (P2.out _).mono ?_
    rintro e x11 ⟨v11, rfl, hO, hM⟩
    obtain ⟨p11, k11, rfl, -, -, -⟩ := hO.rd.parts
    have SB := hid hH.size
    refine hK.out _ _ (hH.trans (hM.mono hH.size)) (fun hH => ?_)
    clear hK K
    replace O3 := hid (O3.out.below hM)
    have R2 := hid (hO.rd)
    clear hM SB
    refine wpAnyH_take (i := 12) (v := .slice p11 (packL c 8).length k11) (by simp only [List.getElem?_toArray, List.getElem?_cons_succ, List.getElem?_cons_zero]; rfl) (by kernel_rfl) (by kernel_rfl) (by kernel_rfl) (by intro _ _ _ h; exact h) (Or.inl ⟨by rfl, fun w hS => by (have hf1 := fld1; go_simp)⟩) hH ?_
    simp only [Act.put, List.setIfInBounds_toArray, List.set_cons_zero, List.set_cons_succ]
    refine wpAnyH_ready (rs := [13]) (by kernel_rfl) (by simp) ?_
    refine AllReadyH.cons (by simp only [List.getElem?_toArray, List.getElem?_cons_succ, List.getElem?_cons_zero]; rfl) (fun K hK => ?_) AllReadyH.nil
    refine step_app (by rfl) _ _ (by rfl) _ _ ([1, k, s]) (packL c 8) w0.heap.size (by rfl) (by rfl) O3.out R2.out (by rw [packL_len]; simp) hH.size ?_
    intro v13 x13 hO hG
    refine hK.out _ _ (hH.grown hG hH.size (O3.out.row (Nat.le_refl _))) (fun hH => ?_)
    clear hK K hG
    have O6 := hid hO
    clear hO
    refine wpAnyH_take (i := 14) (v := v13) (by simp only [List.getElem?_toArray, List.getElem?_cons_succ, List.getElem?_cons_zero]; rfl) (by kernel_rfl) (by kernel_rfl) (by kernel_rfl) (by intro _ _ _ h; exact h) (Or.inl ⟨by rfl, fun w hS => by go_simp⟩) hH ?_
    simp only [Act.put, List.setIfInBounds_toArray, List.set_cons_zero, List.set_cons_succ]
    refine wpAnyH_done (by kernel_rfl) ?_ _
    go_wp2
    go_ret
    exact ⟨_, rfl, O6.out.mono BB.out.size, BB.out.trans (hH.mono BB.out.size)⟩
  refine AllReadyH.cons (by simp only [List.getElem?_toArray, List.getElem?_cons_succ, List.getElem?_cons_zero]; rfl) (fun K hK => ?_) ?_
  · go_simp
    refine (P2.out _).mono ?_
    rintro e x11 ⟨v11, rfl, hO, hM⟩
    obtain ⟨p11, k11, rfl, -, -, -⟩ := hO.rd.parts
    have SB := hid hH.size
    refine hK.out _ _ (hH.trans (hM.mono hH.size)) (fun hH => ?_)
    clear hK K
    have R2 := hid (hO.rd)
    clear hM SB
    refine wpAnyH_take (i := 12) (v := .slice p11 (packL c 8).length k11) (by simp only [List.getElem?_toArray, List.getElem?_cons_succ, List.getElem?_cons_zero]; rfl) (by kernel_rfl) (by kernel_rfl) (by kernel_rfl) (by intro _ _ _ h; exact h) (Or.inl ⟨by rfl, fun w hS => by (have hf1 := fld1; go_simp)⟩) hH ?_
    simp only [Act.put, List.setIfInBounds_toArray, List.set_cons_zero, List.set_cons_succ]
    refine wpAnyH_ready (rs := [7]) (by kernel_rfl) (by simp) ?_
    refine AllReadyH.cons (by simp only [List.getElem?_toArray, List.getElem?_cons_succ, List.getElem?_cons_zero]; rfl) (fun K hK => ?_) AllReadyH.nil
    go_simp
    have hM := below_alloc1 x11 (.cells #[.int .u8 1, .int .u8 (k : Int), .int .u8 (s : Int)] 5)
    replace R2 := hid (R2.out.below hM)
    have O3 := hid ((own_lit3 x11 1 k s).mono (base' := w0.heap.size) hH.size)
    refine hK.out _ _ (hH.alloc hH.size _) (fun hH => ?_)
    clear hK K hM
    generalize x11.alloc (.cells #[.int .u8 1, .int .u8 (k : Int), .int .u8 (s : Int)] 5) = x7 at *
    refine wpAnyH_ready (rs := [13]) (by kernel_rfl) (by simp) ?_
    refine AllReadyH.cons (by simp only [List.getElem?_toArray, List.getElem?_cons_succ, List.getElem?_cons_zero]; rfl) (fun K hK => ?_) AllReadyH.nil
    refine step_app (by rfl) _ _ (by rfl) _ _ ([1, k, s]) (packL c 8) w0.heap.size (by rfl) (by rfl) O3.out R2.out (by rw [packL_len]; simp) hH.size ?_
    intro v13 x13 hO hG
    refine hK.out _ _ (hH.grown hG hH.size (O3.out.row (Nat.le_refl _))) (fun hH => ?_)
    clear hK K hG
    have O6 := hid hO
    clear hO
    refine wpAnyH_take (i := 14) (v := v13) (by simp only [List.getElem?_toArray, List.getElem?_cons_succ, List.getElem?_cons_zero]; rfl) (by kernel_rfl) (by kernel_rfl) (by kernel_rfl) (by intro _ _ _ h; exact h) (Or.inl ⟨by rfl, fun w hS => by go_simp⟩) hH ?_
    simp only [Act.put, List.setIfInBounds_toArray, List.set_cons_zero, List.set_cons_succ]
    refine wpAnyH_done (by kernel_rfl) ?_ _
    go_wp2
    go_ret
    exact ⟨_, rfl, O6.out.mono BB.out.size, BB.out.trans (hH.mono BB.out.size)⟩
  exact AllReadyH.nil
end Go.Proofs.YtckgjghpfjinfakGreat.W

namespace Go.Proofs.YtckgjghpfjinfakGreat.W
open Go.ChangeShapes Go.WideShapes Go.ChangeAt Go.RowKit
open Go.Proofs.YtckgjghpfjinfakGreat.M

theorem below_alloc3 (w : World) (a b c : Obj) : Below w.heap.size w (((w.alloc a).alloc b).alloc c) := (below_alloc2 w a b).alloc (by simp; omega) _
/-- A group element's cells, and it as a value. -/
def ec (p : Nat × Nat) : Array Value := #[.int .u64 (p.1 : Int), .int .u64 (p.2 : Int)]
def ev (p : Nat × Nat) : Value := .agg (ec p)
theorem ec_size (p : Nat × Nat) : (Tryz.prog.info? 106).map (·.size) = some (ec p).size := by
  rw [show (ec p).size = 2 from rfl]; kernel_rfl
theorem ec_one (p : Nat × Nat) : (ec p).all (·.oneCell') = true := by
  rw [Array.all_eq_true_iff_forall_mem]
  intro v hv
  simp only [ec, List.mem_toArray, List.mem_cons, List.not_mem_nil, or_false] at hv
  rcases hv with rfl | rfl <;> rfl
/-- The block g is a group element. -/
def El (w : World) (g : Nat) (p : Nat × Nat) : Prop := w.heap[g]? = some (.cells (ec p) 106)
theorem El.below {w w' : World} {g : Nat} {p : Nat × Nat} (h : El w g p) (hb : Below w.heap.size w w') : El w' g p := var_below hb h
theorem El.row {w : World} {g : Nat} {p q : Nat × Nat} (h : El w g p) : El (w.setRow g (ec q)) g q := setRow_heap w g _ _ _ _ h
theorem El.far {w : World} {g g' : Nat} {p : Nat × Nat} (h : El w g p) (cs : Array Value) (hne : g ≠ g') : El (w.setRow g' cs) g p := by
  unfold El
  rw [setRow_other w g' g cs hne]
  exact h
theorem El.drew {w : World} {g : Nat} {p : Nat × Nat} (h : El w g p) : El w.drew g p := h

end Go.Proofs.YtckgjghpfjinfakGreat.W

namespace Go.Proofs.YtckgjghpfjinfakGreat.W
open Go.ChangeShapes Go.WideShapes Go.ChangeAt Go.RowKit
open Go.Proofs.YtckgjghpfjinfakGreat.M

theorem blk_size (l : List Nat) (hl : l.length = 16) : (Tryz.prog.info? 107).map (·.size) = some (arr l).size := by rw [arr_size, hl]; kernel_rfl

end Go.Proofs.YtckgjghpfjinfakGreat.W

namespace Go.Proofs.YtckgjghpfjinfakGreat.W
open Go.ChangeShapes Go.WideShapes Go.ChangeAt Go.RowKit
open Go.Proofs.YtckgjghpfjinfakGreat.M

/-- The cells of a sealer: its cipher, its group element, its first block. -/
def sc (gc : Nat) (h : Nat × Nat) (j : List Nat) : Array Value := #[.pointer (some ⟨gc, 0, none⟩), .int .u64 (h.1 : Int), .int .u64 (h.2 : Int)] ++ arr j
theorem sc_size (gc : Nat) (h : Nat × Nat) (j : List Nat) (hj : j.length = 16) : (sc gc h j).size = 19 := by rw [sc, Array.size_append, arr_size, hj]; rfl
theorem sc_info (gc : Nat) (h : Nat × Nat) (j : List Nat) (hj : j.length = 16) : (Tryz.prog.info? 109).map (·.size) = some (sc gc h j).size := by rw [sc_size gc h j hj]; kernel_rfl
theorem sc_one (gc : Nat) (h : Nat × Nat) (j : List Nat) : (sc gc h j).all (·.oneCell') = true := by
  rw [Array.all_eq_true_iff_forall_mem]
  intro v hv
  rcases Array.mem_append.1 hv with q | q
  · simp only [List.mem_toArray, List.mem_cons, List.not_mem_nil, or_false] at q
    rcases q with rfl | rfl | rfl <;> rfl
  · exact (Array.all_eq_true_iff_forall_mem.1 (arr_one j)) v q
/-- The block g is a sealer. -/
def Sv (w : World) (g gc : Nat) (h : Nat × Nat) (j : List Nat) : Prop := w.heap[g]? = some (.cells (sc gc h j) 109)
theorem Sv.below {w w' : World} {g gc : Nat} {h : Nat × Nat} {j : List Nat} (q : Sv w g gc h j) (hb : Below w.heap.size w w') : Sv w' g gc h j := var_below hb q
theorem sc_low (gc : Nat) (h : Nat × Nat) (j : List Nat) (i : Nat) (hi : i < 3) : (sc gc h j)[i]? = #[.pointer (some ⟨gc, 0, none⟩), .int .u64 (h.1 : Int), .int .u64 (h.2 : Int)][i]? := by
  unfold sc
  rw [Array.getElem?_append_left (by simpa using hi)]
theorem sc_high (gc : Nat) (h : Nat × Nat) (j : List Nat) (i : Nat) : (sc gc h j)[3 + i]? = (arr j)[i]? := by
  unfold sc
  rw [Array.getElem?_append_right (by simp)]
  simp
theorem Sv.c0 {w : World} {g gc : Nat} {h : Nat × Nat} {j : List Nat} (q : Sv w g gc h j) : w.cell? ⟨g, 0, none⟩ = some (.pointer (some ⟨gc, 0, none⟩)) := by rw [cell_of_row w g 0 _ _ _ q, sc_low _ _ _ _ (by omega)]; rfl
theorem Sv.c1 {w : World} {g gc : Nat} {h : Nat × Nat} {j : List Nat} (q : Sv w g gc h j) : w.cell? ⟨g, 1, none⟩ = some (.int .u64 (h.1 : Int)) := by rw [cell_of_row w g 1 _ _ _ q, sc_low _ _ _ _ (by omega)]; rfl
theorem Sv.c2 {w : World} {g gc : Nat} {h : Nat × Nat} {j : List Nat} (q : Sv w g gc h j) : w.cell? ⟨g, 2, none⟩ = some (.int .u64 (h.2 : Int)) := by rw [cell_of_row w g 2 _ _ _ q, sc_low _ _ _ _ (by omega)]; rfl
theorem Sv.range {w : World} {g gc : Nat} {h : Nat × Nat} {j : List Nat} (q : Sv w g gc h j) : w.rangeAt g 3 (j.map bv) := fun i v hv => by
  rw [cell_of_row w g (3 + i) _ _ _ q, sc_high]
  simp [arr, hv]
theorem sc_built (gc : Nat) (h : Nat × Nat) (j : List Nat) (hj : j.length = 16) : Tryz.prog.built 109 [(0, .pointer (some ⟨gc, 0, none⟩)), (1, .agg (ec h)), (2, .agg (arr j))] = some (sc gc h j) := by
  obtain ⟨a0, a1, a2, a3, a4, a5, a6, a7, a8, a9, b0, b1, b2, b3, b4, b5, rfl⟩ := list16 j hj
  kernel_rfl
theorem sc_eq {x : List (Nat × Value)} (gc : Nat) (h : Nat × Nat) (j : List Nat) (hj : j.length = 16) (hx : x = [(0, .pointer (some ⟨gc, 0, none⟩)), (1, .agg (ec h)), (2, .agg (arr j))]) : Tryz.prog.built 109 x = some (sc gc h j) := by rw [hx]; exact sc_built gc h j hj
theorem j_built : Tryz.prog.built 107 [(15, .int .u8 1)] = some (arr (zs 15 ++ [1])) := by kernel_rfl
theorem step_build {ops : Array Oper} {o : Oper} {a : Act} {w : World} {K : Act → World → Prop} {Q : Exit → Act → World → Prop} {E : Prop} (hgd : o.guard = none) (t : TypeId) (parts : Array (Nat × Operand)) (ho : o.op = .build t parts) (cells : Array Value)
    (hb : Tryz.prog.built t (parts.map fun (i, x) => (i, a.eval x)).toList = some cells) (h : K (a.put o.dst (.agg cells)) w) : if Region.wanted o (yielded ops a.tmps) = true then Oper.wp Tryz.prog o a w K Q else E := by
  have hw : Region.wanted o (yielded ops a.tmps) = true := by simp [Region.wanted, hgd]
  rw [if_pos hw]
  refine wp_build t parts ho (by rw [hb]; rfl) ?_
  rw [hb]
  exact h
theorem cut_blk (g : Nat) (w : World) : (Instr.sliceAt 107 (.pointer (some ⟨g, 0, none⟩)) none none none).run Tryz.prog w = .ok (.slice (some ⟨g, 0, none⟩) 16 16) w := by
  have hs : ∀ w : World, (sizeOf (Tryz.prog.elem 107)).run Tryz.prog w = .ok 1 w := fun _ => by kernel_rfl
  have hl : Tryz.prog.arrayLen 107 = 16 := by kernel_rfl
  rw [run_sliceAt_array_all (P := Tryz.prog) w 107 _ (by kernel_rfl), hs]
  simp [Result.andThen, slicedAt, Addr.add_lit, hl]
theorem cut_non (g : Nat) (w : World) : (Instr.sliceAt 111 (.pointer (some ⟨g, 0, none⟩)) none none none).run Tryz.prog w = .ok (.slice (some ⟨g, 0, none⟩) 12 12) w := by
  have hs : ∀ w : World, (sizeOf (Tryz.prog.elem 111)).run Tryz.prog w = .ok 1 w := fun _ => by kernel_rfl
  have hl : Tryz.prog.arrayLen 111 = 12 := by kernel_rfl
  rw [run_sliceAt_array_all (P := Tryz.prog) w 111 _ (by kernel_rfl), hs]
  simp [Result.andThen, slicedAt, Addr.add_lit, hl]
end Go.Proofs.YtckgjghpfjinfakGreat.W

namespace Go.Proofs.YtckgjghpfjinfakGreat.W
open Go.ChangeShapes Go.WideShapes Go.ChangeAt Go.RowKit
open Go.Proofs.YtckgjghpfjinfakGreat.M

set_option maxHeartbeats 2000000 in
set_option maxRecDepth 100000 in
theorem turnd (a0 a1 a2 a3 c gx : Nat) (w : World) (x0 : a0 < 256) (x1 : a1 < 256) (x2 : a2 < 256) (x3 : a3 < 256) (xc : c < 256) (hX : ∀ a, a < 256 → w.cell? ⟨gx, a, none⟩ = some (.int .u8 (sbx a : Nat))) :
    Calls Tryz.prog 97 #[.agg (arr [a0, a1, a2, a3]), .pointer (some ⟨gx, 0, none⟩), .int .u8 (c : Int)] w fun e w' => e = .returned (.agg (arr [sbx a1 ^^^ c, sbx a2, sbx a3, sbx a0])) ∧ Below w.heap.size w w' := by
  have T := (Ar.new w 131 [a0, a1, a2, a3]).alloc (.cells #[.int .u8 0, .int .u8 0, .int .u8 0, .int .u8 0] 131)
  have R : Ar ((w.alloc (.cells (arr [a0, a1, a2, a3]) 131)).alloc (.cells #[.int .u8 0, .int .u8 0, .int .u8 0, .int .u8 0] 131)) (w.heap.size + 1) 131 [0, 0, 0, 0] := heap_alloc2_new w _ _
  have B := below_alloc2 w (.cells (arr [a0, a1, a2, a3]) 131) (.cells #[.int .u8 0, .int .u8 0, .int .u8 0, .int .u8 0] 131)
  have X0 := cell_kept B (hX a0 x0)
  have X1 := cell_kept B (hX a1 x1)
  have X2 := cell_kept B (hX a2 x2)
  have X3 := cell_kept B (hX a3 x3)
  have c0 := T.cell 0 (by simp)
  have c1 := T.cell 1 (by simp)
  have c2 := T.cell 2 (by simp)
  have c3 := T.cell 3 (by simp)
  rw [show gt [a0, a1, a2, a3] 0 = a0 from rfl] at c0
  rw [show gt [a0, a1, a2, a3] 1 = a1 from rfl] at c1
  rw [show gt [a0, a1, a2, a3] 2 = a2 from rfl] at c2
  rw [show gt [a0, a1, a2, a3] 3 = a3 from rfl] at c3
  have E := xor8 _ _ (sbx_lt a1 x1) xc
  have Z4 := hid (show (Tryz.prog.info? 131).map (·.size) = some (arr [sbx a1 ^^^ c, sbx a2, sbx a3, sbx a0]).size by rw [arr_size]; kernel_rfl)
  go_enter Tryz.func97, Tryz.ntmps97
  go_wp2_with fail
  generalize (w.alloc (.cells (arr [a0, a1, a2, a3]) 131)).alloc (.cells #[.int .u8 0, .int .u8 0, .int .u8 0, .int .u8 0] 131) = W at *
  replace R := hid R
  replace B := hid B
  clear T hX
  have p0 : (0 : Int) ≤ (a0 : Int) := by omega
  have q0 : (a0 : Int) < 256 := by omega
  have p1 : (0 : Int) ≤ (a1 : Int) := by omega
  have q1 : (a1 : Int) < 256 := by omega
  have p2 : (0 : Int) ≤ (a2 : Int) := by omega
  have q2 : (a2 : Int) < 256 := by omega
  have p3 : (0 : Int) ≤ (a3 : Int) := by omega
  have q3 : (a3 : Int) < 256 := by omega
  refine wp_region_still_tail 27 (by kernel_rfl) (by kernel_rfl) ?_
  change wpStill _ _ (World.drew _) (fun a' => wpList _ _ _ _ a' (World.drew _)) _ _
  simp only [List.take_succ_cons, List.take_zero, List.drop_succ_cons, List.drop_zero]
  repeat still_step
  refine wpStill_nil ?_
  have S := hid (R.out.drew.row (l' := [sbx a1 ^^^ c, sbx a2, sbx a3, sbx a0]))
  have SB := hid (below_row B.out.drew (g := w.heap.size + 1) (by omega) (arr [sbx a1 ^^^ c, sbx a2, sbx a3, sbx a0]))
  refine wpList_store_row rfl 131 _ _ rfl (w.heap.size + 1) (arr [sbx a1 ^^^ c, sbx a2, sbx a3, sbx a0]) rfl rfl 131 _ R.out.drew Z4.out (by rw [arr_size, arr_size]; rfl) (arr_one _) ?_
  go_wp2
  exact bodyPost_ret (v := .agg (arr [sbx a1 ^^^ c, sbx a2, sbx a3, sbx a0])) (results_cell_row rfl _ _ (w.heap.size + 1) 131 _ _ _ rfl S.out Tryz.underlying131 rfl Z4.out) rfl ⟨rfl, SB.out⟩
end Go.Proofs.YtckgjghpfjinfakGreat.W

namespace Go.Proofs.YtckgjghpfjinfakGreat.W
open Go.ChangeShapes Go.WideShapes Go.ChangeAt Go.RowKit
open Go.Proofs.YtckgjghpfjinfakGreat.M

theorem tp1 (a : Nat) (ha : a < 256) (w : World) :
    Calls Tryz.prog 95 #[.int .u8 (a : Int)] w fun e w' => e = .returned (.int .u8 (xt a : Nat)) ∧ w' = w := by
  go_enter Tryz.func95, Tryz.ntmps95
  go_wp2
  · go_ret
    exact ⟨ret_int (xt_hi' a ‹_› ha), rfl⟩
  · go_ret
    exact ⟨ret_int (xt_lo' a ‹_› ha), rfl⟩

end Go.Proofs.YtckgjghpfjinfakGreat.W

namespace Go.Proofs.YtckgjghpfjinfakGreat.W
open Go.ChangeShapes Go.WideShapes Go.ChangeAt Go.RowKit
open Go.Proofs.YtckgjghpfjinfakGreat.M

/-- The code and the value. -/
def rcC (i : Int) : Int := if 1 ≤ i ∧ i ≤ 10 then 0 else 3
def rcV (i : Int) : Int := if 1 ≤ i ∧ i ≤ 10 then ((xtN 1 (i.toNat - 1) : Nat) : Int) else 0
theorem xtN1_lt (k : Nat) : xtN 1 k < 256 := xtN_lt 1 (by omega) k
set_option maxRecDepth 100000 in
theorem ircon (i : Int) (w : World) :
    Calls Tryz.prog 98 #[.int .i64 i] w fun e w' => e = .returned (.agg #[.int .i64 (rcC i), .int .i64 (rcV i)]) ∧ Below w.heap.size w w' := by
  by_cases h : 1 ≤ i ∧ i ≤ 10
  · have hin : inB i 1 10 = true := by unfold inB; exact decide_eq_true h
    have C : Hid (rcC i = 0) := by unfold Hid rcC; rw [if_pos h]
    have V : Hid (rcV i = ((xtN 1 (i.toNat - 1) : Nat) : Int)) := by unfold Hid rcV; rw [if_pos h]
    obtain ⟨n, rfl⟩ : ∃ t : Nat, i = t := ⟨i.toNat, by omega⟩
    rw [C.out, V.out, Int.toNat_natCast]
    go_enter Tryz.func98, Tryz.ntmps98
    go_wp2_with fail
    refine (within1 _ _ _ _ _ (heap_alloc2_new w _ _)).mono ?_
    rintro e w1 ⟨rfl, hB⟩
    have hv : w1.heap[w.heap.size]? = some (.cells #[.int .i64 0, .int .i64 0] 147) := by rw [hB.block _ (by simp; omega)]; exact heap_alloc2_old w _ _
    have hb1 : Below w.heap.size w w1 := (below_alloc2 w _ _).trans (hB.mono (by simp; omega))
    clear hB
    go_wp2
    go_loop [3, 12] (fun p j => ∃ k : Nat, k + 1 ≤ n ∧ j = .int .i64 k ∧ p = .int .u8 (xtN 1 k : Nat)) (fun _ j => n - (intOf j).toNat)
    case atStart => exact ⟨0, by omega, rfl, rfl⟩
    case round =>
      obtain ⟨k, hk, rfl, rfl⟩ := hrel
      have hx := xtN1_lt k
      by_cases hlt : k + 1 < n
      · have X := hid (show xtN 1 (k + 1) = xt (xtN 1 k) from rfl)
        generalize xtN 1 k = x at *
        go_wp2_with fail
        refine (tp1 x hx _).mono ?_
        rintro e w' ⟨rfl, rfl⟩
        go_wp2_with fail
        exact ⟨⟨k + 1, by omega, by go_num, by rw [X.out]⟩, by simp [intOf]; omega⟩
      · have hk8 : k = n - 1 := by omega
        subst hk8
        obtain ⟨f1, f2, f3, f4⟩ := var2_facts hv
        have hset := var2_set (x' := .int .i64 0) (y' := .int .i64 (xtN 1 (n - 1) : Nat)) hv
        have hbel := below_set2 (x := .int .i64 0) (y := .int .i64 (xtN 1 (n - 1) : Nat)) hb1 (Nat.le_refl _)
        clear hv hb1
        go_wp2
        exact bodyPost_ret (v := .agg #[.int .i64 0, .int .i64 (xtN 1 (n - 1) : Nat)]) (results_cell_row rfl _ _ w.heap.size 147 _ _ _ rfl hset Tryz.underlying147 rfl (by kernel_rfl)) rfl ⟨rfl, hbel⟩
  · have hin : inB i 1 10 = false := by unfold inB; exact decide_eq_false h
    have C : Hid (rcC i = 3) := by unfold Hid rcC; rw [if_neg h]
    have V : Hid (rcV i = 0) := by unfold Hid rcV; rw [if_neg h]
    rw [C.out, V.out]
    clear h
    go_enter Tryz.func98, Tryz.ntmps98
    go_wp2_with fail
    refine (within1 _ _ _ _ _ (heap_alloc2_new w _ _)).mono ?_
    rintro e w1 ⟨rfl, hB⟩
    have hv : w1.heap[w.heap.size]? = some (.cells #[.int .i64 0, .int .i64 0] 147) := by rw [hB.block _ (by simp; omega)]; exact heap_alloc2_old w _ _
    have hb1 : Below w.heap.size w w1 := (below_alloc2 w _ _).trans (hB.mono (by simp; omega))
    obtain ⟨f1, f2, f3, f4⟩ := var2_facts hv
    have hset := var2_set (x' := .int .i64 3) (y' := .int .i64 0) hv
    have hbel := below_set2 (x := .int .i64 3) (y := .int .i64 0) hb1 (Nat.le_refl _)
    clear hB hv hb1
    go_wp2
    exact bodyPost_ret (v := .agg #[.int .i64 3, .int .i64 0]) (results_cell_row rfl _ _ w.heap.size 147 _ _ _ rfl hset Tryz.underlying147 rfl (by kernel_rfl)) rfl ⟨rfl, hbel⟩
end Go.Proofs.YtckgjghpfjinfakGreat.W
