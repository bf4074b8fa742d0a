/-
  Bytes by the box: what the model's l2Sub and SubBytes answer.
-/
import Derived.Test.YtaopocjagikacaaBlkC
import Derived.Test.YtaopocjagikacaaBox
import Derived.Test.YtaopocjagikacaaSsubWalks
import Derived.Deep.AppendLies
namespace Go.Proofs.Ytaopocjagikacaa.W
open Go.ChangeShapes Go.WideShapes Go.ChangeAt Go.RowKit
open Go.Proofs.Ytaopocjagikacaa.M

set_option maxHeartbeats 1000000 in
set_option maxRecDepth 100000 in
theorem l2sb (v : Value) (l : List Nat) (w : World) (h : Rd w v l) (y : Byt l) (hl : l.length = 16) :
    Calls Try.prog 74 #[v] w fun e w' => ∃ r, e = .returned r ∧ Own w' w.heap.size r (sbl l) ∧ Below w.heap.size w w' := by
  obtain ⟨i0, hi, hz0, hz1, hz2⟩ := info_parts info8
  obtain ⟨b, o, cap, rfl, hcap, hb0⟩ := h.spot (by omega)
  have HC := hid (fun i hi => h.cells i hi)
  rw [hl] at hcap ⊢
  have hO0 := own_lit0 w
  clear h
  go_enter Try.func74, Try.ntmps74
  go_wp2
  go_loopw [3, 4] (fun u i wr => ∃ (k gg cap : Nat), k ≤ 16 ∧ i = .int .i64 k ∧ u = .slice (some ⟨gg, 0, none⟩) k cap ∧ Own wr w.heap.size (.slice (some ⟨gg, 0, none⟩) k cap) ((sbl l).take k) ∧ Below w.heap.size w wr) (fun _ i _ => 16 - (intOf i).toNat)
  case atStart => exact ⟨0, _, _, by omega, rfl, rfl, by rw [List.take_zero]; exact hO0, below_alloc1 w _⟩
  case round =>
    obtain ⟨k, gg, cp, hk, rfl, rfl, hown, hB⟩ := hrel
    clear hO0
    by_cases hlt : k < 16
    · have c1 := cell_kept hB (HC.out k (by omega))
      have hx := gt_byt l y k
      have hn : ((sbl l).take k).length = k := by rw [List.length_take, sbl_len]; omega
      have hsn := take_snoc (sbl l) k (by rw [sbl_len]; omega)
      have e : (sbl l)[k]'(by rw [sbl_len]; omega) = sbx (gt l k) := by rw [gt_eq l k (by omega)]; simp [sbl]
      rw [e] at hsn
      have hownK : wr.ownsRow w.heap.size 5 1 (.slice (some ⟨gg, 0, none⟩) k cp) k (((sbl l).take k).map bv) := by
        have q := hown
        unfold Own at q
        rw [hn] at q
        exact q
      have HS := hid hsn
      have HN := hid hn
      have z1 := hB.size
      have hrow : ∀ x, (Value.slice (some ⟨gg, 0, none⟩) k cp).ownBlock = some x → w.heap.size ≤ x := hown.row (Nat.le_refl _)
      replace hB := hid hB
      have hrow := hid hrow
      clear hsn hn e hown
      generalize gt l k = x at *
      go_wp2_with fail
      refine (ssub x hx _).mono ?_
      rintro e w1 ⟨rfl, rfl⟩
      generalize sbx x = z at *
      go_wp2_with (at_builtin; refine wpList_append_lies _ rfl _ _ _ rfl w.heap.size 5 i0 (.int .u8 0) 1 1 Try.underlying22 hi hz0 hz1 hz2 rfl (by omega) _ _ _ rfl (hownK.alloc _) ⟨w1.heap.size, 0, none⟩ 1 1 [.int .u8 (z : Int)] rfl rfl (World.news_of_block (cs := #[.int .u8 (z : Int)]) (t := 5) (fr := (0, 0)) (heap_alloc_new w1 _)) (by simp [Value.oneCell']) (by omega) (by unfold maxLen; omega) (by omega) (by simp; omega) (w1.heap.size + 1) (by simp) ?_; intro g2 cap2 w2 hown2 hgrow2 hat2 hlt2)
      have hO2 : Own w2 w.heap.size (.slice (some ⟨g2, 0, none⟩) (k + 1) cap2) ((sbl l).take (k + 1)) := by
        rw [HS.out]
        exact own_snoc (by rw [HN.out]; exact hown2)
      have hB2 : Below w.heap.size w w2 := (hB.out.alloc z1 _).grown hgrow2 (by simp; omega) hrow.out
      exact ⟨⟨k + 1, g2, cap2, by omega, by go_num, rfl, hO2, hB2⟩, by simp [intOf]; omega⟩
    · have hk8 : k = 16 := by omega
      subst hk8
      rw [List.take_of_length_le (by rw [sbl_len]; omega)] at hown
      go_wp2
      go_ret
      exact ⟨_, rfl, hown, hB⟩

set_option maxRecDepth 100000 in
theorem ssb_ok (v : Value) (l : List Nat) (w : World) (h : Rd w v l) (y : Byt l) (hl : l.length = 16) :
    Calls Try.prog 41 #[v] w fun e w' => ∃ r, e = .returned (.agg #[.int .i64 0, r]) ∧ Owx w' w.heap.size r (sbl l) ∧ Below w.heap.size w w' := by
  have L := hid (fun w => l2sb v l w)
  obtain ⟨b, o, cap, rfl, hcap, hb0⟩ := h.spot (by omega)
  rw [hl] at *
  have A := hid (h.below (below_alloc1 w (.cells #[.int .i64 0, .slice none 0 0] 33)))
  have H2 := hid hl
  clear h hl
  go_enter Try.func41, Try.ntmps41
  go_wp2_with fail
  refine (L.out _ A.out y H2.out).mono ?_
  rintro e w' ⟨r, rfl, hO, hB⟩
  obtain ⟨p, cp, rfl, -, -, -⟩ := hO.rd.parts
  have hv := var2 hB (by simp)
  obtain ⟨f1, f2, f3, f4⟩ := var2_facts hv
  have hset := hid (var2_set (x' := .int .i64 0) (y' := .slice p (sbl l).length cp) hv)
  have hbel := hid (below_set2 (x := .int .i64 0) (y := .slice p (sbl l).length cp) ((below_alloc1 w _).trans (hB.mono (by simp))) (Nat.le_refl _))
  have hown := hid ((hO.set2 (g := w.heap.size) (x := .int .i64 0) (y := .slice p (sbl l).length cp) (by simp)).mono (base' := w.heap.size) (by simp)).x
  clear hv hB hO A L
  go_wp2
  exact bodyPost_ret (v := .agg #[.int .i64 0, .slice p (sbl l).length cp]) (results_cell_row rfl _ _ w.heap.size 33 _ _ _ rfl hset.out Try.underlying33 rfl (by kernel_rfl)) rfl ⟨_, rfl, hown.out, hbel.out⟩

set_option maxRecDepth 100000 in
theorem ssb_no (v : Value) (l : List Nat) (w : World) (h : Rd w v l) (hl : l.length ≠ 16) :
    Calls Try.prog 41 #[v] w fun e w' => e = .returned (.agg #[.int .i64 2, .slice none 0 0]) ∧ Below w.heap.size w w' := by
  obtain ⟨p, cap, rfl, -, -, -⟩ := h.parts
  have hne : ((l.length : Int) != 16) = true := by rw [bne_iff_ne]; omega
  clear h
  go_enter Try.func41, Try.ntmps41
  go_wp2
  exact bodyPost_ret (v := .agg #[.int .i64 2, .slice none 0 0]) (by simp [results, Try.results41, go_sem]) rfl ⟨rfl, below_alloc1 w _⟩

theorem ssb (v : Value) (l : List Nat) (w : World) (h : Rd w v l) (y : Byt l) :
    Calls Try.prog 41 #[v] w fun e w' => ∃ r, e = .returned (.agg #[.int .i64 (blkC l), r]) ∧ Owx w' w.heap.size r (blkB sbl l) ∧ Below w.heap.size w w' := by
  by_cases hl : l.length = 16
  · rw [show blkC l = 0 by rw [blkC, if_pos hl], show blkB sbl l = sbl l by rw [blkB, if_pos hl]]
    exact ssb_ok v l w h y hl
  · rw [show blkC l = 2 by rw [blkC, if_neg hl], show blkB sbl l = [] by rw [blkB, if_neg hl]]
    exact (ssb_no v l w h hl).mono fun e w' ⟨he, hb⟩ => ⟨_, he, Owx.nil _ _, hb⟩
end Go.Proofs.Ytaopocjagikacaa.W
