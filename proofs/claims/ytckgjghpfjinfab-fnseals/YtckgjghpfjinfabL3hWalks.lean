/-
  The hash of blocks: the model's l3Hash.
-/
import Derived.Test.YtckgjghpfjinfabL3tWalks
import Derived.Test.YtckgjghpfjinfabL1xWalks
import Derived.Test.YtckgjghpfjinfabHshF
namespace Go.Proofs.Ytckgjghpfjinfab.W
open Go.ChangeShapes Go.WideShapes Go.ChangeAt Go.RowKit
open Go.Proofs.Ytckgjghpfjinfab.M

set_option maxHeartbeats 1000000 in
set_option maxRecDepth 100000 in
theorem l3hash (vh vd : Value) (h d : List Nat) (w : World) (hh : Rd w vh h) (hd : Rd w vd d) (yh : Byt h) (yd : Byt d) (nh : h.length = 16) (nd : d.length ≤ 1048576) :
    Calls Try.prog 151 #[vh, vd] w fun e w' => ∃ g, e = .returned (.slice (some ⟨g, 0, none⟩) 16 16) ∧ Own w' w.heap.size (.slice (some ⟨g, 0, none⟩) 16 16) (hshB h d) ∧ Below w.heap.size w w' := by
  obtain ⟨i0, hi, hz0, hz1, hz2⟩ := info_parts info8
  obtain ⟨ph, caph, rfl, -, -, -⟩ := hh.parts
  obtain ⟨pd, capd, rfl, ec, -, hcd⟩ := hd.parts
  have HH := hid hh
  have HD := hid hd
  have NH := hid nh
  have HC := hid hcd
  clear hh hd nh hcd
  go_enter Try.func151, Try.ntmps151
  go_wp2_with (at_make; refine wpList_make_full _ rfl _ _ 22 rfl w.heap.size 5 i0 (.int .u8 0) 1 Try.underlying22 hi hz0 hz1 .i64 .i64 _ _ 16 rfl rfl rfl rfl (by rw [hz2]; omega) (by unfold maxLen; omega) (Nat.le_refl _) ?_; intro w0 hown0 hgrow0)
  have hown1 := hid (own_made w w0 16 hown0)
  have hb0 := hid (below_of_grown hgrow0 (Nat.le_refl _) (fun k hk => by simp at hk))
  clear hown0 hgrow0 hi hz0 hz1 hz2
  go_loopw [5, 6] (fun o5 a6 ws => ∃ n g : Nat, 16 * n ≤ d.length ∧ a6 = .int .i64 ((16 * n : Nat) : Int) ∧ o5 = .slice (some ⟨g, 0, none⟩) 16 16 ∧ Hid (Own ws w.heap.size (.slice (some ⟨g, 0, none⟩) 16 16) (eb (hsh (elt h) d n))) ∧ Hid (Below w.heap.size w ws)) (fun _ a6 _ => d.length - (intOf a6).toNat)
  case atStart => exact ⟨0, _, by omega, rfl, rfl, hid (by rw [hsh, eb_g0]; exact hown1.out), hb0⟩
  case round =>
    clear hown1 hb0
    obtain ⟨n, g, hn, rfl, rfl, HO, HB⟩ := hrel
    by_cases hlt : 16 * n + 16 ≤ d.length
    · obtain ⟨b, o, rfl, -⟩ := HC.out 0 (by omega)
      have RP := run_piece b o d.length capd (16 * n) 16 (by omega) (by omega)
      have PD := hid (rd_piece (HD.out.below HB.out) (16 * n) 16 (by omega))
      have SL := hid (sub_len d (16 * n) 16 hlt)
      have c1 : ((16 * n + 16 : Nat) : Int) ≤ (d.length : Int) := by omega
      have m0 : (0 : Int) ≤ ((16 * n : Nat) : Int) := by omega
      have HM := hid (show 16 * n + 16 = 16 * (n + 1) by omega)
      generalize HMm : 16 * n = m at *
      rw [show ((m + 16 : Nat) : Int) = (m : Int) + 16 by omega] at RP c1
      have XN := hid (show gtm (xl (eb (hsh (elt h) d n)) (sub d m 16)) h = eb (hsh (elt h) d (n + 1)) by
        rw [hsh, gtm, elt_xl _ _ (eb_byt _) (sub_byt d yd _ _) (eb_len _) SL.out, elt_eb _ (hsh_64 _ (elt_64 h yh) d n), HMm])
      replace HMm := hid HMm
      go_wp2_with fail
      refine (l1xor _ _ (eb (hsh (elt h) d n)) (sub d m 16) _ HO.out.rd PD.out (eb_byt _) (sub_byt d yd _ _) (by rw [eb_len]; omega) (by rw [eb_len, SL.out])).mono ?_
      rintro e w1 ⟨v, rfl, O1, B1⟩
      obtain ⟨p1, cp1, rfl, -, -, -⟩ := O1.rd.parts
      have H1 := hid (HH.out.below (HB.out.trans (B1.mono HB.out.size)))
      have Q1 := hid O1
      have R1 := hid (HB.out.trans (B1.mono HB.out.size))
      clear O1 B1
      go_wp2_with fail
      refine (l3times _ _ (xl (eb (hsh (elt h) d n)) (sub d m 16)) h _ Q1.out.rd H1.out (xlb_byt _ _ (eb_byt _) (sub_byt d yd _ _) (by rw [eb_len, SL.out])) yh (by rw [xl_len, eb_len]) NH.out).mono ?_
      rintro e w2 ⟨rfl, O2, B2⟩
      rw [XN.out] at O2
      have Q2 := hid (O2.mono (base' := w.heap.size) (R1.out.size))
      have R2 := hid (R1.out.trans (B2.mono R1.out.size))
      clear O2 B2
      go_wp2
      go_roundw
      case rel => exact ⟨n + 1, _, by have := HM.out; omega, i64_eq (by have := HM.out; omega), rfl, Q2, R2⟩
      case measure => simp [intOf]; omega
    · have c1 : ¬ ((16 * n : Nat) : Int) + 16 ≤ (d.length : Int) := by omega
      have m0 : (0 : Int) ≤ ((16 * n : Nat) : Int) := by omega
      have m1 : ((16 * n : Nat) : Int) ≤ 1048576 := by omega
      have E := hid (show d.length / 16 = n by omega)
      generalize 16 * n = m at *
      go_wp2
      go_ret
      exact ⟨g, rfl, by unfold hshB; rw [E.out]; exact HO.out, HB.out⟩
end Go.Proofs.Ytckgjghpfjinfab.W
