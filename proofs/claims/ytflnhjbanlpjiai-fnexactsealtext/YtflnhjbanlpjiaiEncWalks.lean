/-
  A block by a key that is worked out: what the program's method encrypt answers.
-/
import Derived.Test.YtflnhjbanlpjiaiCipWalks
import Derived.Test.YtflnhjbanlpjiaiSubmWalks
import Derived.Test.YtflnhjbanlpjiaiShmWalks
import Derived.Test.YtflnhjbanlpjiaiMxmWalks
import Derived.Test.YtflnhjbanlpjiaiAddmWalks
namespace Go.Proofs.Ytflnhjbanlpjiai.W
open Go.ChangeShapes Go.WideShapes Go.ChangeAt Go.RowKit
open Go.Proofs.Ytflnhjbanlpjiai.M

theorem rk_sub (F : Nat → Nat) (r : Nat) (hr : r < 11) : sub (cph F 176) (256 + 16 * r) 16 = rkl F r := by
  have l1 := sub_len (cph F 176) (256 + 16 * r) 16 (by rw [cph_len]; omega)
  apply List.ext_getElem (by rw [l1, rkl_len])
  intro i h1 h2
  have hi : i < 16 := by rw [rkl_len] at h2; exact h2
  rw [← gt_eq _ i h1, ← gt_eq _ i h2, sub_gt _ _ _ _ hi, rkl_gt _ _ _ hi, show 256 + 16 * r + i = 256 + (16 * r + i) by omega, cph_word, rowTo_gt _ _ _ _ (by omega) (Nat.le_refl _)]

theorem ar_grown {w w' : World} {g gb : Nat} {T : TypeId} {l : List Nat} (h : Ar w g T l) (hG : w.grownBy w' (some gb)) (hne : g ≠ gb) : Ar w' g T l := var_grown hG h (by intro e; exact hne (Option.some.inj e))
theorem cph_cells {w : World} {g : Nat} {T : TypeId} {F : Nat → Nat} (h : Ar w g T (cph F 176)) (a : Nat) (ha : a < 256) : w.cell? ⟨g, a, none⟩ = some (.int .u8 (sbx a : Nat)) := by
  rw [h.cell a (by rw [cph_len]; omega), cph_box _ _ _ ha]
theorem cph_rk {w : World} {g : Nat} {T : TypeId} {F : Nat → Nat} (h : Ar w g T (cph F 176)) (r : Nat) (hr : r < 11) : w.rangeAt g (256 + 16 * r) ((rkl F r).map bv) := by
  have q := h.range (256 + 16 * r) 16
  rw [rk_sub F r hr] at q
  exact q

set_option maxHeartbeats 2000000 in
set_option maxRecDepth 100000 in
theorem encr (l : List Nat) (F : Nat → Nat) (g : Nat) (w : World) (hl : l.length = 16) (y : Byt l) (hF : ∀ j, F j < 256) (hC : Ar w g 73 (cph F 176)) :
    Calls Try.prog 52 #[.pointer (some ⟨g, 0, none⟩), .agg (arr l)] w fun e w' => e = .returned (.agg (arr (enc F l))) ∧ Below w.heap.size w w' := by
  have hmf : ∀ (fn : Fn) (first cap : Array Value) (w : World), (Instr.makeFunc fn first cap).run Try.prog w = .ok (.func fn first cap) w := fun _ _ _ _ => rfl
  have HF := hid hF
  have HL := hid hl
  have hgl := hC.lt
  clear hl hF
  go_enter Try.func52, Try.ntmps52
  have X : Ar ((w.alloc (.cells (arr l) 39)).alloc (.cells #[.int .u8 0, .int .u8 0, .int .u8 0, .int .u8 0, .int .u8 0, .int .u8 0, .int .u8 0, .int .u8 0, .int .u8 0, .int .u8 0, .int .u8 0, .int .u8 0, .int .u8 0, .int .u8 0, .int .u8 0, .int .u8 0] 39)) w.heap.size 39 l := heap_alloc2_old w _ _
  have R : Ar ((w.alloc (.cells (arr l) 39)).alloc (.cells #[.int .u8 0, .int .u8 0, .int .u8 0, .int .u8 0, .int .u8 0, .int .u8 0, .int .u8 0, .int .u8 0, .int .u8 0, .int .u8 0, .int .u8 0, .int .u8 0, .int .u8 0, .int .u8 0, .int .u8 0, .int .u8 0] 39)) (w.heap.size + 1) 39 (zs 16) := heap_alloc2_new w _ _
  have B := below_alloc2 w (.cells (arr l) 39) (.cells #[.int .u8 0, .int .u8 0, .int .u8 0, .int .u8 0, .int .u8 0, .int .u8 0, .int .u8 0, .int .u8 0, .int .u8 0, .int .u8 0, .int .u8 0, .int .u8 0, .int .u8 0, .int .u8 0, .int .u8 0, .int .u8 0] 39)
  have C := (hC.alloc (.cells (arr l) 39)).alloc (.cells #[.int .u8 0, .int .u8 0, .int .u8 0, .int .u8 0, .int .u8 0, .int .u8 0, .int .u8 0, .int .u8 0, .int .u8 0, .int .u8 0, .int .u8 0, .int .u8 0, .int .u8 0, .int .u8 0, .int .u8 0, .int .u8 0] 39)
  clear hC
  have RG := hid (cph_rk C 0 (by omega))
  go_wp2_with (refine load_sub rfl 39 _ rfl g (256) rfl (rkl F (0)) RG.out _ Try.underlying39 rfl (blk_size _ (rkl_len _ _)) ?_)
  generalize (w.alloc (.cells (arr l) 39)).alloc (.cells #[.int .u8 0, .int .u8 0, .int .u8 0, .int .u8 0, .int .u8 0, .int .u8 0, .int .u8 0, .int .u8 0, .int .u8 0, .int .u8 0, .int .u8 0, .int .u8 0, .int .u8 0, .int .u8 0, .int .u8 0, .int .u8 0] 39) = W at *
  obtain ⟨gb, hgb⟩ : ∃ b, b = w.heap.size := ⟨_, rfl⟩
  rw [← hgb] at X R ⊢
  have Hgb := hid hgb
  clear hgb
  refine (addm gb l (rkl F 0) _ HL.out (rkl_len _ _) y (rkl_byt F HF.out 0) X).mono ?_
  rintro e w1 ⟨rfl, XN, hG⟩
  replace C := ar_grown C hG (by have := Hgb.out; omega)
  replace R := ar_grown R hG (by have := Hgb.out; omega)
  replace B := B.grown hG B.size (fun k e => by cases e; have := Hgb.out; omega)
  replace X := XN
  clear XN hG
  rw [show xl l (rkl F 0) = stt F l 0 from rfl] at X
  clear RG
  have XH := hid X
  have CH := hid C
  have RH := hid R
  have BH := hid B
  clear X C R B
  go_wp2_with fail
  go_loopw [9] (fun s9 ws => ∃ n r : Nat, n ≤ 9 ∧ Hid (r = n + 1) ∧ s9 = .int .i64 (r : Nat) ∧ Ar ws gb 39 (stt F l n) ∧ Ar ws g 73 (cph F 176) ∧ Ar ws (gb + 1) 39 (zs 16) ∧ Below w.heap.size w ws) (fun s9 _ => 10 - (intOf s9).toNat)
  case atStart => exact ⟨0, 1, by omega, hid rfl, rfl, XH.out, CH.out, RH.out, BH.out⟩
  case round =>
    obtain ⟨n, r, hn, Hr, rfl, X, C, R, B⟩ := hrel
    clear XH CH RH BH
    have sl := hid (stt_len F l HL.out n)
    have sb := hid (stt_byt F HF.out l y n)
    have I0 := idx_rk g 256 r (by have := Hr.out; omega)
    by_cases hlt : n < 9
    · have r1 : (r : Int) < 10 := by have := Hr.out; omega
      have r0 : (0 : Int) ≤ (r : Int) := by omega
      have SE := hid (show stt F l (n + 1) = xl (mxl (shl (sbl (stt F l n)))) (rkl F (n + 1)) by rw [stt, if_pos (by omega)])
      have XH := hid X
      have CH := hid C
      have RH := hid R
      have BH := hid B
      clear X C R B
      go_wp2_with fail
      have X := XH.out
      have C := CH.out
      have R := RH.out
      have B := BH.out
      clear XH CH RH BH
      refine (subm gb g (stt F l n) _ sl.out sb.out X (cph_cells C) (by have := Hgb.out; omega)).mono ?_
      rintro e w2 ⟨rfl, XN, hG⟩
      replace C := ar_grown C hG (by have := Hgb.out; omega)
      replace R := ar_grown R hG (by have := Hgb.out; omega)
      replace B := B.grown hG B.size (fun k e => by cases e; have := Hgb.out; omega)
      replace X := XN
      clear XN hG
      have XH := hid X
      have CH := hid C
      have RH := hid R
      have BH := hid B
      clear X C R B
      go_wp2_with fail
      have X := XH.out
      have C := CH.out
      have R := RH.out
      have B := BH.out
      clear XH CH RH BH
      refine (shm gb (sbl (stt F l n)) _ (sbl_len16 _ sl.out) X).mono ?_
      rintro e w3 ⟨rfl, XN, hG⟩
      replace C := ar_grown C hG (by have := Hgb.out; omega)
      replace R := ar_grown R hG (by have := Hgb.out; omega)
      replace B := B.grown hG B.size (fun k e => by cases e; have := Hgb.out; omega)
      replace X := XN
      clear XN hG
      have XH := hid X
      have CH := hid C
      have RH := hid R
      have BH := hid B
      clear X C R B
      go_wp2_with fail
      have X := XH.out
      have C := CH.out
      have R := RH.out
      have B := BH.out
      clear XH CH RH BH
      refine (mxm gb (shl (sbl (stt F l n))) _ (shl_len _) (shl_byt _ (sbl_byt _ sb.out)) X).mono ?_
      rintro e w4 ⟨rfl, XN, hG⟩
      replace C := ar_grown C hG (by have := Hgb.out; omega)
      replace R := ar_grown R hG (by have := Hgb.out; omega)
      replace B := B.grown hG B.size (fun k e => by cases e; have := Hgb.out; omega)
      replace X := XN
      clear XN hG
      have RG := hid (cph_rk C r (by have := Hr.out; omega))
      have XH := hid X
      have CH := hid C
      have RH := hid R
      have BH := hid B
      clear X C R B
      go_wp2_with (refine load_sub rfl 39 _ rfl g (256 + 16 * r) rfl (rkl F (r)) RG.out _ Try.underlying39 rfl (blk_size _ (rkl_len _ _)) ?_)
      have X := XH.out
      have C := CH.out
      have R := RH.out
      have B := BH.out
      clear XH CH RH BH
      refine (addm gb (mxl (shl (sbl (stt F l n)))) (rkl F r) _ (mxl_len _) (rkl_len _ _) (mxl_byt _ (shl_byt _ (sbl_byt _ sb.out))) (rkl_byt F HF.out r) X).mono ?_
      rintro e w5 ⟨rfl, XN, hG⟩
      replace C := ar_grown C hG (by have := Hgb.out; omega)
      replace R := ar_grown R hG (by have := Hgb.out; omega)
      replace B := B.grown hG B.size (fun k e => by cases e; have := Hgb.out; omega)
      replace X := XN
      clear XN hG
      clear RG
      have XH := hid X
      have CH := hid C
      have RH := hid R
      have BH := hid B
      clear X C R B
      go_wp2_with fail
      refine ⟨⟨n + 1, r + 1, by omega, hid (by rw [Hr.out]), num_succ r, ?_, CH.out, RH.out, BH.out⟩, ?_⟩
      · rw [SE.out]
        have q := XH.out
        rw [Hr.out] at q
        exact q
      · have hr := Hr.out
        simp [intOf]
        omega
    · have hn9 : n = 9 := by omega
      subst hn9
      have r1 : ¬ (r : Int) < 10 := by have := Hr.out; omega
      have SE := hid (show enc F l = xl (shl (sbl (stt F l 9))) (rkl F 10) by rw [enc, stt, if_neg (by omega)])
      clear I0 hn hlt
      have XH := hid X
      have CH := hid C
      have RH := hid R
      have BH := hid B
      clear X C R B
      go_wp2_with fail
      have X := XH.out
      have C := CH.out
      have R := RH.out
      have B := BH.out
      clear XH CH RH BH
      refine (subm gb g (stt F l 9) _ sl.out sb.out X (cph_cells C) (by have := Hgb.out; omega)).mono ?_
      rintro e w2 ⟨rfl, XN, hG⟩
      replace C := ar_grown C hG (by have := Hgb.out; omega)
      replace R := ar_grown R hG (by have := Hgb.out; omega)
      replace B := B.grown hG B.size (fun k e => by cases e; have := Hgb.out; omega)
      replace X := XN
      clear XN hG
      have XH := hid X
      have CH := hid C
      have RH := hid R
      have BH := hid B
      clear X C R B
      go_wp2_with fail
      have X := XH.out
      have C := CH.out
      have R := RH.out
      have B := BH.out
      clear XH CH RH BH
      refine (shm gb (sbl (stt F l 9)) _ (sbl_len16 _ sl.out) X).mono ?_
      rintro e w3 ⟨rfl, XN, hG⟩
      replace C := ar_grown C hG (by have := Hgb.out; omega)
      replace R := ar_grown R hG (by have := Hgb.out; omega)
      replace B := B.grown hG B.size (fun k e => by cases e; have := Hgb.out; omega)
      replace X := XN
      clear XN hG
      have RG := hid (cph_rk C 10 (by omega))
      have XH := hid X
      have CH := hid C
      have RH := hid R
      have BH := hid B
      clear X C R B
      go_wp2_with (refine load_sub rfl 39 _ rfl g (416) rfl (rkl F (10)) RG.out _ Try.underlying39 rfl (blk_size _ (rkl_len _ _)) ?_)
      have X := XH.out
      have C := CH.out
      have R := RH.out
      have B := BH.out
      clear XH CH RH BH
      refine (addm gb (shl (sbl (stt F l 9))) (rkl F 10) _ (shl_len _) (rkl_len _ _) (shl_byt _ (sbl_byt _ sb.out)) (rkl_byt F HF.out 10) X).mono ?_
      rintro e w5 ⟨rfl, XN, hG⟩
      replace C := ar_grown C hG (by have := Hgb.out; omega)
      replace R := ar_grown R hG (by have := Hgb.out; omega)
      replace B := B.grown hG B.size (fun k e => by cases e; have := Hgb.out; omega)
      replace X := XN
      clear XN hG
      clear RG
      rw [← SE.out] at X
      have Z := hid (blk_size (enc F l) (stt_len F l HL.out 10))
      have SR := hid (R.row (l' := enc F l))
      have SB := hid (below_row B (g := gb + 1) (by have := Hgb.out; omega) (arr (enc F l)))
      have ho := hid (show (arr (zs 16)).size = (arr (enc F l)).size by rw [arr_size, arr_size, zs_len]; exact (stt_len F l HL.out 10).symm)
      have XH := hid X
      have CH := hid C
      have RH := hid R
      have BH := hid B
      clear X C R B
      go_wp2_with (first | refine wpList_load_row rfl 39 _ rfl gb rfl 39 (arr (enc F l)) _ _ XH.out Try.underlying39 rfl Z.out ?_ | refine wpList_store_row rfl 39 _ _ rfl (gb + 1) (arr (enc F l)) rfl rfl 39 _ RH.out Z.out ho.out (arr_one _) ?_)
      exact bodyPost_ret (v := .agg (arr (enc F l))) (results_cell_row rfl _ _ (gb + 1) 39 _ _ _ rfl SR.out Try.underlying39 rfl Z.out) rfl ⟨rfl, SB.out⟩
end Go.Proofs.Ytflnhjbanlpjiai.W
