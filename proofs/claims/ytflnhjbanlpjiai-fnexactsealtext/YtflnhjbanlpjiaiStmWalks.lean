/-
  What is hidden: the program's stream.
-/
import Derived.Test.YtflnhjbanlpjiaiEncWalks
import Derived.Test.YtflnhjbanlpjiaiCntWalks
import Derived.Test.YtflnhjbanlpjiaiStmF
namespace Go.Proofs.Ytflnhjbanlpjiai.W
open Go.ChangeShapes Go.WideShapes Go.ChangeAt Go.RowKit
open Go.Proofs.Ytflnhjbanlpjiai.M

theorem own_madeAt (w0 : World) (base g n : Nat) (h : w0.ownsRow base 5 1 (.slice (some ⟨g, 0, none⟩) n n) n (madeCells (Value.int .u8 0).cells (n * 1)).toList) :
    Own w0 base (.slice (some ⟨g, 0, none⟩) n n) (List.replicate n 0) := by
  have e : (madeCells (Value.int .u8 0).cells (n * 1)).toList = (List.replicate n 0).map bv := by
    rw [List.map_replicate, Nat.mul_one]; exact toList_madeCells_one _ _
  rw [e] at h
  unfold Own
  rw [List.length_replicate]
  exact h
theorem own_rowOff {w : World} {base g g' cap n : Nat} {l : List Nat} (h : Own w base (.slice (some ⟨g, 0, none⟩) n cap) l) (cs : Array Value) (hne : g ≠ g') : Own (w.setRow g' cs) base (.slice (some ⟨g, 0, none⟩) n cap) l := by
  refine ⟨h.1, ?_⟩
  rcases h.2 with hn | ⟨h1, cap', cur, e, hbb, hgg, rest⟩
  · exact .inl hn
  · cases e
    exact .inr ⟨g, _, cur, rfl, hbb, by rw [setRow_other w g' g cs hne]; exact hgg, rest⟩
theorem ar_old {w w' : World} {B g : Nat} {T : TypeId} {l : List Nat} (h : Ar w g T l) (hb : Below B w w') (hg : g < B) : Ar w' g T l := h.keep hb hg
set_option maxHeartbeats 2000000 in
set_option maxRecDepth 100000 in
theorem istream (gc : Nat) (b : List Nat) (vd : Value) (d : List Nat) (F : Nat → Nat) (w : World) (hC : Ar w gc 73 (cph F 176)) (hF : ∀ j, F j < 256) (hb : b.length = 16) (yb : Byt b) (hd : Rd w vd d) (yd : Byt d) (nd : d.length ≤ 1048576) :
    Calls Try.prog 34 #[.pointer (some ⟨gc, 0, none⟩), .agg (arr b), vd] w fun e w' => e = .returned (.slice (some ⟨w.heap.size + 1, 0, none⟩) d.length d.length) ∧ Own w' w.heap.size (.slice (some ⟨w.heap.size + 1, 0, none⟩) d.length d.length) (strm F b d) ∧ Below w.heap.size w w' := by
  obtain ⟨i0, hi, hz0, hz1, hz2⟩ := info_parts info8
  obtain ⟨pd, capd, rfl, -, -, hcd⟩ := hd.parts
  have HC := hid hC
  have HG := hid hC.lt
  have HF := hid hF
  have NB := hid hb
  have HCD := hid hcd
  have A0 := Ar.new w 39 b
  have B0 := below_alloc1 w (.cells (arr b) 39)
  clear hC hF hb hcd hd
  go_enter Try.func34, Try.ntmps34
  go_wp2_with (at_make; refine wpList_make_full _ rfl _ _ 22 rfl w.heap.size 5 i0 (.int .u8 0) 1 Try.underlying22 hi hz0 hz1 .i64 .i64 _ _ d.length rfl rfl rfl rfl (by rw [hz2]; omega) (by unfold maxLen; omega) (by simp) ?_; intro w0 hown0 hgrow0)
  rw [World.size_alloc] at hown0
  have O0 := own_madeAt w0 w.heap.size (w.heap.size + 1) d.length hown0
  have go1 := World.ownsRow.lt hown0 (w.heap.size + 1) rfl
  have HO := hid (O0.below (below_alloc1 w0 (.cells (arr (zs 16)) 39)))
  have HN := hid (Ar.alloc (show Ar w0 w.heap.size 39 b from var_grown hgrow0 A0 (by simp)) (.cells (arr (zs 16)) 39))
  have HM := hid (Ar.new w0 39 (zs 16))
  have HB := hid ((B0.grown hgrow0 (by simp) (fun k e => by cases e)).alloc (by omega) (.cells (arr (zs 16)) 39))
  have HZ := hid go1.2
  clear hown0 hgrow0 O0 A0 B0 go1 hi hz0 hz1 hz2
  generalize w0.heap.size = gm at *
  have SL := hid (strm_len F b d)
  go_loopw [9, 10, 16] (fun a9 a10 a16 ws => ∃ i : Nat, ∃ u v : Value, i ≤ d.length ∧ a9 = u ∧ a10 = v ∧ a16 = .int .i64 (i : Nat) ∧ Hid (Own ws w.heap.size (.slice (some ⟨w.heap.size + 1, 0, none⟩) d.length d.length) (front (strm F b d) i)) ∧ Hid (Ar ws w.heap.size 39 (cti b i)) ∧ Hid (Ar ws gm 39 (mki F b i)) ∧ Hid (Below w.heap.size w ws)) (fun _ _ a16 _ => d.length - (intOf a16).toNat)
  case atStart => exact ⟨0, _, _, by omega, rfl, rfl, rfl, hid (by rw [front_zero, SL.out]; exact HO.out), HN, HM, HB⟩
  case round =>
    clear HO HN HM HB
    obtain ⟨i, u, v, hi, rfl, rfl, rfl, HO, HN, HM, HB⟩ := hrel
    by_cases hlt : i < d.length
    · obtain ⟨bd, od, rfl, cd⟩ := HCD.out i hlt
      replace cd := cell_kept HB.out cd
      unfold bv at cd
      rw [← gt_eq d i hlt] at cd
      have i0 : (0 : Int) ≤ (i : Int) := by omega
      have i1 : (i : Int) < (d.length : Int) := by omega
      have hx := gt_byt d yd i
      have ML := hid (mki_len F b NB.out (i + 1))
      have MY := hid (show Byt (mki F b (i + 1)) by rw [mki_succ]; exact stt_byt F HF.out _ (cuN_byt b yb _) 10)
      have SN := hid (strm_next F b d i hlt)
      have FS := hid (front_set (strm F b d) i (by rw [SL.out]; exact hlt))
      have FL := hid (front_len (strm F b d) i (by rw [SL.out]; omega))
      have GE := hid (gt_eq (strm F b d) i (by rw [SL.out]; exact hlt))
      have CL := hid (cti_len b NB.out i)
      have CL2 := hid (cti_len b NB.out (i + 1))
      have CY := hid (cti_byt b yb i)
      have ML0 := hid (mki_len F b NB.out i)
      by_cases h16 : i % 16 = 0
      · obtain ⟨CT1, CT2⟩ := cti_new b i h16
        replace CT1 := hid CT1
        replace CT2 := hid CT2
        have MS := hid (mki_succ F b i)
        have c16 : ((i : Int) % 16 == 0) = true := by rw [beq_iff_eq]; omega
        replace h16 := hid h16
        have HCr := hid (HC.out.keep HB.out HG.out)
        have ZC := hid (blk_size (cti b i) CL.out)
        have ZM := hid (blk_size (mki F b (i + 1)) ML.out)
        have ZN := hid (blk_size (cti b (i + 1)) CL2.out)
        go_wp2_with (refine wpList_load_row rfl 39 _ rfl (w.heap.size) rfl 39 (arr (cti b i)) _ _ HN.out Try.underlying39 rfl ZC.out ?_)
        refine (encr (cti b i) F gc _ CL.out CY.out HF.out HCr.out).mono ?_
        rintro e w1 ⟨rfl, hB1⟩
        rw [CT1.out, ← MS.out]
        have K1 := hid (HM.out.below hB1)
        have N1 := hid ((HN.out.below hB1).rowFar (g' := gm) (arr (mki F b (i + 1))) (by have := HZ.out; omega))
        have M1 := hid (K1.out.row (l' := mki F b (i + 1)))
        have O1 := hid (own_rowOff (HO.out.below hB1) (g' := gm) (arr (mki F b (i + 1))) (by have := HZ.out; omega))
        have B1 := hid (below_row (HB.out.trans (hB1.mono HB.out.size)) (g := gm) (by have := HZ.out; omega) (arr (mki F b (i + 1))))
        clear HO HN HM HB hB1
        go_wp2_with (first | refine wpList_store_row rfl 39 _ _ rfl (gm) (arr (mki F b (i + 1))) rfl rfl 39 _ K1.out ZM.out (by rw [arr_size, arr_size, ML0.out, ML.out]) (arr_one _) ?_ | refine wpList_load_row rfl 39 _ rfl (w.heap.size) rfl 39 (arr (cti b i)) _ _ N1.out Try.underlying39 rfl ZC.out ?_)
        refine (counted (cti b i) _ CL.out CY.out).mono ?_
        rintro e w2 ⟨rfl, hB2⟩
        rw [CT2.out]
        have K2 := hid (N1.out.below hB2)
        have N2 := hid (K2.out.row (l' := cti b (i + 1)))
        have M2 := hid ((M1.out.below hB2).rowFar (g' := w.heap.size) (arr (cti b (i + 1))) (by have := HZ.out; omega))
        have O2 := hid (own_rowOff (O1.out.below hB2) (g' := w.heap.size) (arr (cti b (i + 1))) (by omega))
        have B2 := hid (below_row (B1.out.trans (hB2.mono B1.out.size)) (g := w.heap.size) (Nat.le_refl _) (arr (cti b (i + 1))))
        clear N1 M1 O1 B1 hB2 K1
        have xm := M2.out.cell (i % 16) (by rw [ML.out]; omega)
        have ym := gt_byt _ MY.out (i % 16)
        have co : ∃ u, (w2.setRow w.heap.size (arr (cti b (i + 1)))).cell? ⟨w.heap.size + 1, i, none⟩ = some u := ⟨_, O2.out.cell (FL.out.trans SL.out) i (by rw [FL.out, SL.out]; exact hlt)⟩
        obtain ⟨u0, co⟩ := co
        have fo := O2.out.open (FL.out.trans SL.out) i
        have SO := O2.out.stored (FL.out.trans SL.out) i (gt (strm F b d) i)
        rw [GE.out, FS.out, ← GE.out, SN.out] at SO
        have E := xor8' _ _ hx ym
        have SB := B2.out.setCell (p := ⟨w.heap.size + 1, i, none⟩) (by show w.heap.size ≤ w.heap.size + 1; omega) (bv (gt d i ^^^ gt (mki F b (i + 1)) (i % 16)))
        have SNN := N2.out.far (g' := w.heap.size + 1) (k := i) (bv (gt d i ^^^ gt (mki F b (i + 1)) (i % 16))) (by omega)
        have SM := M2.out.far (g' := w.heap.size + 1) (k := i) (bv (gt d i ^^^ gt (mki F b (i + 1)) (i % 16))) (by have := HZ.out; omega)
        replace SO := SO.1
        unfold bv at SO SB SNN SM
        generalize gt d i ^^^ gt (mki F b (i + 1)) (i % 16) = z at *
        generalize gt (mki F b (i + 1)) (i % 16) = m1 at *
        generalize gt d i = x1 at *
        replace SO := hid SO
        replace SB := hid SB
        replace SNN := hid SNN
        replace SM := hid SM
        have r0 : (0 : Int) ≤ (i : Int) % 16 := by omega
        have r1 : (i : Int) % 16 < 16 := by omega
        clear O2 N2 M2 B2
        go_wp2_with (refine wpList_store_row rfl 39 _ _ rfl (w.heap.size) (arr (cti b (i + 1))) rfl rfl 39 _ K2.out ZN.out (by rw [arr_size, arr_size, CL.out, CL2.out]) (arr_one _) ?_; generalize w2.setRow w.heap.size (arr (cti b (i + 1))) = W2 at *)
        exact ⟨⟨i + 1, _, _, by omega, rfl, rfl, num_succ i, SO, SNN, SM, SB⟩, by simp [intOf]; omega⟩
      · have c16 : ((i : Int) % 16 == 0) = false := by rw [beq_eq_false_iff_ne]; omega
        rw [mki_same F b i h16] at HM
        rw [cti_same b i h16] at HN
        have xm := HM.out.cell (i % 16) (by rw [ML.out]; omega)
        have ym := gt_byt _ MY.out (i % 16)
        have co : ∃ u, wr.cell? ⟨w.heap.size + 1, i, none⟩ = some u := ⟨_, HO.out.cell (FL.out.trans SL.out) i (by rw [FL.out, SL.out]; exact hlt)⟩
        obtain ⟨u0, co⟩ := co
        have fo := HO.out.open (FL.out.trans SL.out) i
        have SO := HO.out.stored (FL.out.trans SL.out) i (gt (strm F b d) i)
        rw [GE.out, FS.out, ← GE.out, SN.out] at SO
        have E := xor8' _ _ hx ym
        have SB := HB.out.setCell (p := ⟨w.heap.size + 1, i, none⟩) (by show w.heap.size ≤ w.heap.size + 1; omega) (bv (gt d i ^^^ gt (mki F b (i + 1)) (i % 16)))
        have SNN := HN.out.far (g' := w.heap.size + 1) (k := i) (bv (gt d i ^^^ gt (mki F b (i + 1)) (i % 16))) (by omega)
        have SM := HM.out.far (g' := w.heap.size + 1) (k := i) (bv (gt d i ^^^ gt (mki F b (i + 1)) (i % 16))) (by have := HZ.out; omega)
        replace SO := SO.1
        unfold bv at SO SB SNN SM
        generalize gt d i ^^^ gt (mki F b (i + 1)) (i % 16) = z at *
        generalize gt (mki F b (i + 1)) (i % 16) = m1 at *
        generalize gt d i = x1 at *
        replace SO := hid SO
        replace SB := hid SB
        replace SNN := hid SNN
        replace SM := hid SM
        have r0 : (0 : Int) ≤ (i : Int) % 16 := by omega
        have r1 : (i : Int) % 16 < 16 := by omega
        clear HO HN HM HB
        go_wp2
        exact ⟨⟨i + 1, _, _, by omega, rfl, rfl, num_succ i, SO, SNN, SM, SB⟩, by simp [intOf]; omega⟩
    · have hk8 : i = d.length := by omega
      subst hk8
      have i1 : ¬ ((d.length : Nat) : Int) < (d.length : Int) := by omega
      have FE := front_end (strm F b d)
      rw [SL.out] at FE
      rw [FE] at HO
      go_wp2
      go_ret
      exact ⟨rfl, HO.out, HB.out⟩
end Go.Proofs.Ytflnhjbanlpjiai.W
