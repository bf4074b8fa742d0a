/-
  A block by a key: what the model's EncryptBlock answers.
-/
import Derived.Test.YtaopocjagikacaaL2kWalks
import Derived.Test.YtaopocjagikacaaL2eWalks
import Derived.Test.YtaopocjagikacaaEncC
namespace Go.Proofs.Ytaopocjagikacaa.W
open Go.ChangeShapes Go.WideShapes Go.ChangeAt Go.RowKit
open Go.Proofs.Ytaopocjagikacaa.M

set_option maxRecDepth 100000 in
theorem senc_ok (vk vb : Value) (k l : List Nat) (w : World) (hk : Rd w vk k) (hb : Rd w vb l) (yk : Byt k) (yb : Byt l) (lk : k.length = 16) (lb : l.length = 16) :
    Calls Try.prog 46 #[vk, vb] w fun e w' => ∃ r, e = .returned (.agg #[.int .i64 0, r]) ∧ Owx w' w.heap.size r (enc (kf k) l) ∧ Below w.heap.size w w' := by
  obtain ⟨b1, o1, cap1, rfl, -, -⟩ := hk.spot (by omega)
  obtain ⟨b2, o2, cap2, rfl, -, -⟩ := hb.spot (by omega)
  have H1 := hid lk
  have H2 := hid lb
  rw [lk] at hk
  rw [lb] at hb
  rw [lk, lb]
  have A := hid (hk.below (below_alloc1 w (.cells #[.int .i64 0, .slice none 0 0] 33)))
  have D := hid (hb.below (below_alloc1 w (.cells #[.int .i64 0, .slice none 0 0] 33)))
  clear hk hb lk lb
  go_enter Try.func46, Try.ntmps46
  go_wp2_with fail
  refine (l2keys _ k _ A.out yk H1.out).mono ?_
  rintro e w1 ⟨rfl, K1, B1⟩
  simp only [World.size_alloc] at K1
  have D1 := hid (D.out.below B1)
  have V1 := hid (var_below B1 (heap_alloc_new w (.cells #[.int .i64 0, .slice none 0 0] 33)))
  have B2 := hid ((below_alloc1 w (.cells #[.int .i64 0, .slice none 0 0] 33)).trans (B1.mono (by simp)))
  replace K1 := hid K1
  clear B1 D A
  go_wp2_with fail
  refine (l2enc _ l (kf k) _ _ D1.out yb H2.out K1.out (kf_lt k yk)).mono ?_
  rintro e w2 ⟨r, rfl, hO, hB⟩
  obtain ⟨p, cp, rfl, -, -, -⟩ := hO.rd.parts
  have hv := var_below hB V1.out
  have hz := var_lt V1.out
  have hB3 := B2.out.trans (hB.mono B2.out.size)
  obtain ⟨f1, f2, f3, f4⟩ := var2_facts hv
  have EL := hid (stt_len (kf k) l H2.out 10)
  have hset := hid (var2_set (x' := .int .i64 0) (y' := .slice p (enc (kf k) l).length cp) hv)
  have hbel := hid (below_set2 (x := .int .i64 0) (y := .slice p (enc (kf k) l).length cp) hB3 (Nat.le_refl _))
  have hown := hid ((hO.set2 (g := w.heap.size) (x := .int .i64 0) (y := .slice p (enc (kf k) l).length cp) hz).mono (base' := w.heap.size) (by have := B2.out.size; omega)).x
  clear hv hB hO V1 B2 D1 K1 hB3
  go_wp2
  exact bodyPost_ret (v := .agg #[.int .i64 0, .slice p (enc (kf k) l).length cp]) (results_cell_row rfl _ _ w.heap.size 33 _ _ _ rfl hset.out Try.underlying33 rfl (by kernel_rfl)) rfl ⟨_, rfl, hown.out, hbel.out⟩

set_option maxRecDepth 100000 in
theorem senc_no (vk vb : Value) (k l : List Nat) (w : World) (hk : Rd w vk k) (hb : Rd w vb l) (h : ¬ (k.length = 16 ∧ l.length = 16)) :
    Calls Try.prog 46 #[vk, vb] w fun e w' => e = .returned (.agg #[.int .i64 2, .slice none 0 0]) ∧ Below w.heap.size w w' := by
  obtain ⟨p1, cap1, rfl, -, -, -⟩ := hk.parts
  obtain ⟨p2, cap2, rfl, -, -, -⟩ := hb.parts
  clear hk hb
  by_cases h1 : k.length = 16
  · have n1 : ((k.length : Int) != 16) = false := by rw [h1]; rfl
    have n2 : ((l.length : Int) != 16) = true := by rw [bne_iff_ne]; omega
    have H := hid h1
    clear h1 h
    go_enter Try.func46, Try.ntmps46
    go_wp2
    exact bodyPost_ret (v := .agg #[.int .i64 2, .slice none 0 0]) (by simp [results, Try.results46, go_sem]) rfl ⟨rfl, below_alloc1 w _⟩
  · have n1 : ((k.length : Int) != 16) = true := by rw [bne_iff_ne]; omega
    clear h1 h
    go_enter Try.func46, Try.ntmps46
    go_wp2
    exact bodyPost_ret (v := .agg #[.int .i64 2, .slice none 0 0]) (by simp [results, Try.results46, go_sem]) rfl ⟨rfl, below_alloc1 w _⟩

theorem senc (vk vb : Value) (k l : List Nat) (w : World) (hk : Rd w vk k) (hb : Rd w vb l) (yk : Byt k) (yb : Byt l) :
    Calls Try.prog 46 #[vk, vb] w fun e w' => ∃ r, e = .returned (.agg #[.int .i64 (encC k l), r]) ∧ Owx w' w.heap.size r (encB k l) ∧ Below w.heap.size w w' := by
  by_cases h : k.length = 16 ∧ l.length = 16
  · rw [show encC k l = 0 by rw [encC, if_pos h], show encB k l = enc (kf k) l by rw [encB, if_pos h]]
    exact senc_ok vk vb k l w hk hb yk yb h.1 h.2
  · rw [show encC k l = 2 by rw [encC, if_neg h], show encB k l = [] by rw [encB, if_neg h]]
    exact (senc_no vk vb k l w hk hb h).mono fun e w' ⟨he, hb⟩ => ⟨_, he, Owx.nil _ _, hb⟩
end Go.Proofs.Ytaopocjagikacaa.W
