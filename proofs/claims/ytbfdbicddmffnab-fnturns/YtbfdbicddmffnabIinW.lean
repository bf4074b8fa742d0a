/-
  A ring with one key more: what the program's install answers.
-/
import Derived.Test.YtbfdbicddmffnabTellW
import Derived.Test.YtbfdbicddmffnabIkF
namespace Go.Proofs.Ytbfdbicddmffnab.W
open Go.ChangeShapes Go.WideShapes Go.ChangeAt Go.RowKit Go.Maps
open Go.Proofs.Ytbfdbicddmffnab.M

set_option maxHeartbeats 2000000 in
set_option maxRecDepth 100000 in
theorem iins (g b : Nat) (p id' : Int) (v : Value) (l : List Nat) (ks : List (Int × List Nat)) (D : DataW Value) (w : World) (hR : Ring1 w g b p ks D) (h : Rd w v l) (hw : (Lit.int .i64 id').wf = true) (code : Int) (hc : (kF (id', l) ≠ 0 ∧ code = kF (id', l)) ∨ (kF (id', l) = 0 ∧ Has ks id' ∧ code = 6) ∨ (kF (id', l) = 0 ∧ ¬ Has ks id' ∧ 3 ≤ ks.length ∧ code = 7) ∨ (kF (id', l) = 0 ∧ ¬ Has ks id' ∧ ks.length < 3 ∧ code = 0)) (hl : ks.length ≤ 3) (hr : Rise ks) :
    Calls Try.prog 82 #[.pointer (some ⟨g, 0, none⟩), .agg #[.int .i64 id', v]] w fun e w' => e = .returned (.int .i64 code) ∧ (code = 0 → ∃ (D' : DataW Value) (nn : Nat), nn ≤ 1000 ∧ w'.heap[g]? = some (.cells #[.int .i64 p, .map (some b)] 119) ∧ MapK w' b nn D' ∧ HasTo (insK (id', l) ks) (insK (id', l) ks).length D' ∧ AtTo (insK (id', l) ks) (insK (id', l) ks).length D') ∧ ∀ B, B ≤ g → B ≤ b → B ≤ w.heap.size → Below B w w' := by
  have R1 := hid hR
  have HV := hid h
  have HCC := hid hc
  have NB := hid (show some g ≠ some b from MapK.apart hR.map hR.block)
  obtain ⟨a, cap, rfl, -, -, -⟩ := h.parts
  clear hR h hc
  go_enter Try.func82, Try.ntmps82
  go_wp2_with fail
  have VK := hid (heap_alloc_new w (.cells #[.int .i64 id', .slice a l.length cap] 40))
  have BB := hid (below_alloc1 w (.cells #[.int .i64 id', .slice a l.length cap] 40))
  replace R1 := hid (R1.out.below BB.out)
  replace HV := hid (HV.out.below BB.out)
  generalize w.alloc (.cells #[.int .i64 id', .slice a l.length cap] 40) = w0 at *
  generalize w.heap.size = gk at VK ⊢
  refine (ikf id' a l.length cap _ l rfl).mono ?_
  rintro e w1 ⟨rfl, hB⟩
  replace VK := hid (var_below hB VK.out)
  replace R1 := hid (R1.out.below hB)
  replace HV := hid (HV.out.below hB)
  replace BB := hid (BB.out.trans (hB.mono BB.out.size))
  clear hB
  by_cases h0 : kF (id', l) = 0
  case neg =>
    have HCD := hid (show code = kF (id', l) by
      rcases HCC.out with ⟨-, q⟩ | ⟨q, -⟩ | ⟨q, -⟩ | ⟨q, -⟩
      · exact q
      all_goals exact absurd q h0)
    have H0 := hid h0
    obtain ⟨cc, hcc⟩ : ∃ c, c = kF (id', l) := ⟨_, rfl⟩
    rw [← hcc] at h0 HCD H0 ⊢
    have ne : (cc != 0) = true := by rw [bne_iff_ne]; exact h0
    clear hcc h0 HCC
    go_wp2
    go_ret
    exact ⟨by rw [HCD.out]; rfl, fun q => absurd (HCD.out.symm.trans q) H0.out, fun B _ _ h3 => BB.out.mono h3⟩
  rw [h0]
  have H0 := hid h0
  obtain ⟨d1, d3⟩ := kF_ok h0
  have N16 := hid (show l.length = 16 from d3)
  obtain ⟨k0, k1, -, -⟩ := var2_facts VK.out
  clear h0 d1 d3
  go_wp2_with fail
  clear k0 k1
  refine (ihas g b ks.length p id' D _ R1.out.block R1.out.map R1.out.good hw).mono ?_
  rintro e w2 ⟨rfl, hB⟩
  replace VK := hid (var_below hB VK.out)
  replace R1 := hid (R1.out.below hB)
  replace HV := hid (HV.out.below hB)
  replace BB := hid (BB.out.trans (hB.mono BB.out.size))
  clear hB
  have HT := hid (hasTo_mem.1 R1.out.has)
  cases hh : Maps.has D (.int .i64 id') with
  | true =>
    have HH := hid ((HT.out id').1 hh)
    have C6 := hid (show code = 6 by
      rcases HCC.out with ⟨q, -⟩ | ⟨-, -, q⟩ | ⟨-, q, -⟩ | ⟨-, q, -⟩
      · exact absurd H0.out q
      · exact q
      all_goals exact absurd HH.out q)
    clear hh HCC
    go_wp2
    go_ret
    exact ⟨by rw [C6.out]; rfl, fun q => absurd (C6.out.symm.trans q) (by decide), fun B _ _ h3 => BB.out.mono h3⟩
  | false =>
    have HN := hid (show ¬ Has ks id' from fun q => by have := (HT.out id').2 q; rw [hh] at this; cases this)
    clear hh
    have SZ := hid (size_ring R1.out.map R1.out.has hr)
    obtain ⟨f0, f1, -, -⟩ := var2_facts R1.out.block
    by_cases h3 : 3 ≤ ks.length
    · have C7 := hid (show code = 7 by
        rcases HCC.out with ⟨q, -⟩ | ⟨-, q, -⟩ | ⟨-, -, -, q⟩ | ⟨-, -, q, -⟩
        · exact absurd H0.out q
        · exact absurd q HN.out
        · exact q
        · omega)
      have e3 : ((Maps.size D : Nat) : Int) = 3 := by rw [SZ.out]; omega
      clear HCC h3
      go_wp2_with (at_len; refine wpList_len_own _ rfl _ 117 rfl 2 115 Try.underlying117 Rv b ks.length D rfl R1.out.map ?_)
      go_ret
      exact ⟨by rw [C7.out]; rfl, fun q => absurd (C7.out.symm.trans q) (by decide), fun B _ _ h3 => BB.out.mono h3⟩
    · have C0 := hid (show code = 0 by
        rcases HCC.out with ⟨q, -⟩ | ⟨-, q, -⟩ | ⟨-, -, q, -⟩ | ⟨-, -, -, q⟩
        · exact absurd H0.out q
        · exact absurd q HN.out
        · omega
        · exact q)
      have e3 : (((Maps.size D : Nat) : Int) == 3) = false := by rw [SZ.out]; simp; omega
      obtain ⟨k0, k1, -, -⟩ := var2_facts VK.out
      clear HCC
      go_wp2_with (at_len; refine wpList_len_own _ rfl _ 117 rfl 2 115 Try.underlying117 Rv b ks.length D rfl R1.out.map ?_)
      refine (iput g b ks.length p id' _ l D _ R1.out.block R1.out.map (by omega) HV.out N16.out hw).mono ?_
      rintro e w3 ⟨⟨u, rfl⟩, hm3, hG3⟩
      have V3 := hid (var_grown hG3 R1.out.block NB.out)
      have M3 := hid hm3
      have IM := hid (World.ownsMap.isMap R1.out.map)
      have G3 := hid (fun B h2 h3 => below_of_grown (B := B) hG3 h3 (fun k e => by cases e; exact h2))
      have A3 := hid (insK_at (x := (id', l)) R1.out.bytes IM.out HN.out)
      have T3 := hid (insK_has (x := (id', l)) R1.out.has IM.out (.held (.agg (arr l))))
      clear hm3 hG3
      go_wp2
      go_ret
      exact ⟨by rw [C0.out]; rfl, fun _ => ⟨_, ks.length + 1, by omega, V3.out, M3.out, T3.out, A3.out⟩, fun B h1 h2 h3 => (BB.out.mono h3).trans (G3.out B h2 (Nat.le_trans h3 BB.out.size))⟩
end Go.Proofs.Ytbfdbicddmffnab.W
