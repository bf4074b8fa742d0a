/-
  A block counted up; the first block of a nonce; whole blocks: the model's l1Copy, l3Count, l3First, l3Whole.
  An element of an array of bytes that is a value.
  The box: what the model's table answers.
  A block by a key: what the model's l2Double and l2Encrypt answer.
  What is hidden: the model's l3Stream.
  Products of blocks: the model's l3Half, l3Bytes, l3Times.
  The xor of slices of bytes: the model's l1Xor.
  The hash of blocks: the model's l3Hash.
  The products of bytes: what the model's FieldTimes answers.
  The words of a key: what the model's l2Keys answers.
  The tag, and what is sealed: the model's l3Tag, l3Seal.
  What is sealed: what the model's l3Seal answers.
  A copy of bytes that can be read: what the model's l1Copy answers.
  A letter that is sealed: what the model's l5Seal and SealLetter answer.
-/
import Derived.Test.YtckgjghpfjinfakGreatAppM
import Derived.Test.YtckgjghpfjinfakGreatCut
import Derived.Test.YtckgjghpfjinfakGreatL1pWalks
import Derived.Test.YtckgjghpfjinfakGreatL1rWalks
import Derived.Test.YtckgjghpfjinfakGreatCtrF
import Derived.Test.YtckgjghpfjinfakGreatWhoF
import Derived.Test.YtckgjghpfjinfakGreatArr
import Derived.Test.YtckgjghpfjinfakGreatBase
import Derived.Test.YtckgjghpfjinfakGreatField
import Derived.Test.YtckgjghpfjinfakGreatEncF
import Derived.Test.YtckgjghpfjinfakGreatSlX
import Derived.StillTailTactics
import Derived.Deep.CutRange
import Derived.Test.YtckgjghpfjinfakGreatSealF
import Derived.Deep.RegionHeld3
import Derived.Deep.AppendLies
import Derived.Test.YtckgjghpfjinfakGreatGrpF
import Derived.Test.YtckgjghpfjinfakGreatXor
import Derived.Test.YtckgjghpfjinfakGreatHshF
import Derived.Test.YtckgjghpfjinfakGreatRows
import Derived.Test.YtckgjghpfjinfakGreatBytes
import Derived.WalkKit
import Derived.ProofKit
import Derived.WalkSpells
import Derived.Test.YtckgjghpfjinfakGreatKeysF
import Derived.Test.YtckgjghpfjinfakGreatAskF
import Derived.Test.YtckgjghpfjinfakGreatSlF
import Derived.Test.YtckgjghpfjinfakGreatSrfW
import Derived.Test.YtckgjghpfjinfakGreatLfS
import Derived.Test.YtckgjghpfjinfakGreatEnvW

namespace Go.Proofs.YtckgjghpfjinfakGreat.W
open Go.ChangeShapes Go.WideShapes Go.ChangeAt Go.RowKit
open Go.Proofs.YtckgjghpfjinfakGreat.M

theorem copyA (v : Value) (l : List Nat) (w : World) (h : Rd w v l) (hl : l.length ≤ 1048576) :
    Calls Tryz.prog 39 #[v] w fun e w' => ∃ v', e = .returned v' ∧ Own w' w.heap.size v' l ∧ Below w.heap.size w w' := by
  obtain ⟨a, cap, rfl, -, -, -⟩ := h.parts
  have O0 := own_lit0 w
  have H := hid (h.below (below_alloc1 w (.cells #[] 5)))
  clear h
  go_enter Tryz.func39, Tryz.ntmps39
  go_wp2_with (at_builtin; refine list_app rfl _ _ rfl _ _ [] l w.heap.size rfl rfl O0 H.out (by simp; omega) (by simp) ?_; intro v' w1 O G)
  rw [List.nil_append] at O
  have hB1 : Below w.heap.size w w1 := (below_alloc1 w _).grown G (by simp) (fun x e => by cases e; exact Nat.le_refl _)
  clear G
  go_wp2
  go_ret
  exact ⟨v', rfl, O, hB1⟩

set_option maxRecDepth 100000 in
theorem l3count' (v : Value) (l t r : List Nat) (n : Nat) (w : World) (h : Rd w v l) (y : Byt l) (hl : l.length = 16) (ht : l.take 12 = t) (hn : vt l 12 4 = n) (hr : packL ((n + 1) % 4294967296) 4 = r) :
    Calls Tryz.prog 57 #[v] w fun e w' => ∃ v', e = .returned v' ∧ Own w' w.heap.size v' (t ++ r) ∧ Below w.heap.size w w' := by
  obtain ⟨b, o, cap, rfl, ecap, -⟩ := h.spot (by omega)
  have TL := hid (show t.length = 12 by rw [← ht]; simp [hl])
  have RL := hid (show r.length = 4 by rw [← hr, packL_len])
  rw [hl] at h ecap ⊢
  have H := hid h
  have HL := hid hl
  have n1 : n < 4294967296 := by rw [← hn]; exact vt_lt l y 12 4
  have RU := run_upto b o 16 cap 12 (by omega) (by omega)
  have PD := hid (rd_piece h 0 12 (by omega))
  rw [Nat.add_zero, Nat.sub_zero, sub_take, ht] at PD
  have w1 : IntKind.i64.wrap ((n : Int) + 1) = (n : Int) + 1 := by rw [IntKind.wrap_i64]; omega
  have e1 : ((n : Int) + 1) % 4294967296 = (((n + 1) % 4294967296 : Nat) : Int) := by omega
  have HN := hid hn
  have HR := hid hr
  replace e1 := hid e1
  clear h hl ht hn hr
  go_enter Tryz.func57, Tryz.ntmps57
  go_wp2_with fail
  refine (l1read _ l 12 4 _ H.out y (by omega) (by rw [HL.out]; omega) (by omega) (by rw [HL.out]; omega)).mono ?_
  rintro e w' ⟨rfl, rfl⟩
  rw [HN.out]
  go_wp2_with fail
  refine (copyA _ t _ PD.out (by rw [TL.out]; omega)).mono ?_
  rintro e w1 ⟨v1, rfl, O1, B1⟩
  obtain ⟨p1, c1, rfl, -, -, -⟩ := O1.rd.parts
  rw [TL.out] at O1 ⊢
  replace O1 := hid O1
  replace B1 := hid B1
  go_wp2_with fail
  rw [e1.out]
  refine (l1pack ((n + 1) % 4294967296) 4 _ (by omega) (by omega) (by omega)).mono ?_
  rintro e w2 ⟨rfl, O2, B2⟩
  rw [HR.out] at O2
  have Q1 := hid (O1.out.below B2)
  have R2 := hid (B1.out.trans (B2.mono B1.out.size))
  have S2 := hid O2.rd
  clear O2 B2
  go_wp2_with (at_builtin; refine list_app rfl _ _ rfl _ _ t r w'.heap.size rfl rfl Q1.out S2.out (by rw [TL.out, RL.out]; omega) (R2.out.size) ?_; intro v' w3 O G)
  have hB : Below w'.heap.size w' w3 := R2.out.grown G R2.out.size (Q1.out.row (Nat.le_refl _))
  clear G
  go_wp2
  go_ret
  exact ⟨v', rfl, O, hB⟩
theorem l3count (v : Value) (l : List Nat) (w : World) (h : Rd w v l) (y : Byt l) (hl : l.length = 16) :
    Calls Tryz.prog 57 #[v] w fun e w' => ∃ v', e = .returned v' ∧ Own w' w.heap.size v' (cu l) ∧ Below w.heap.size w w' := l3count' v l _ _ _ w h y hl rfl rfl rfl

theorem own_4 (w : World) : Own (w.alloc (.cells #[.int .u8 0, .int .u8 0, .int .u8 0, .int .u8 1] 5)) w.heap.size (.slice (some ⟨w.heap.size, 0, none⟩) 4 4) [0, 0, 0, 1] :=
  World.ownsRow_lit w #[.int .u8 0, .int .u8 0, .int .u8 0, .int .u8 1] 4 (Nat.le_refl _) (by unfold maxLen; omega) rfl
theorem own_0 (w : World) : Own (w.alloc (.cells #[.int .u8 0] 5)) w.heap.size (.slice (some ⟨w.heap.size, 0, none⟩) 1 1) [0] :=
  World.ownsRow_lit w #[.int .u8 0] 1 (Nat.le_refl _) (by unfold maxLen; omega) rfl
set_option maxRecDepth 100000 in
theorem l3first (v : Value) (l : List Nat) (w : World) (h : Rd w v l) (hl : l.length ≤ 1048576) :
    Calls Tryz.prog 58 #[v] w fun e w' => ∃ v', e = .returned v' ∧ Own w' w.heap.size v' (jb l) ∧ Below w.heap.size w w' := by
  obtain ⟨a, cap, rfl, -, -, -⟩ := h.parts
  have H := hid h
  have HL := hid hl
  clear h
  go_enter Tryz.func58, Tryz.ntmps58
  go_wp2_with fail
  refine (copyA _ l _ H.out hl).mono ?_
  rintro e w1 ⟨v1, rfl, O1, B1⟩
  obtain ⟨p1, c1, rfl, -, -, -⟩ := O1.rd.parts
  have Q1 := hid (O1.below (below_alloc1 w1 (.cells #[.int .u8 0, .int .u8 0, .int .u8 0, .int .u8 1] 5)))
  have S2 := hid (own_4 w1).rd
  have R2 := hid (B1.alloc B1.size (.cells #[.int .u8 0, .int .u8 0, .int .u8 0, .int .u8 1] 5))
  clear O1 B1
  go_wp2_with (at_builtin; refine list_app rfl _ _ rfl _ _ l [0, 0, 0, 1] w.heap.size rfl rfl Q1.out S2.out (by have := HL.out; simp; omega) (R2.out.size) ?_; intro v' w3 O G)
  have hB : Below w.heap.size w w3 := R2.out.grown G R2.out.size (Q1.out.row (Nat.le_refl _))
  clear G
  go_wp2
  go_ret
  exact ⟨v', rfl, O, hB⟩

/-- How long a slice is. -/
def slen : Value → Nat
  | .slice _ n _ => n
  | _ => 0
/-- k zeros behind. -/
theorem whole_at (l : List Nat) (k : Nat) (h : k = (16 - l.length % 16) % 16) : l ++ zs k = whole l := by rw [whole, h]
theorem zs_snoc (l : List Nat) (k : Nat) : l ++ zs k ++ [0] = l ++ zs (k + 1) := by
  rw [List.append_assoc, zs, zs, List.replicate_succ']
set_option maxRecDepth 100000 in
theorem l3whole (v : Value) (l : List Nat) (w : World) (h : Rd w v l) (hl : l.length ≤ 1000000) :
    Calls Tryz.prog 70 #[v] w fun e w' => ∃ v', e = .returned v' ∧ Own w' w.heap.size v' (whole l) ∧ Below w.heap.size w w' := by
  obtain ⟨a, cap, rfl, -, -, -⟩ := h.parts
  have H := hid h
  have HL := hid hl
  clear h
  go_enter Tryz.func70, Tryz.ntmps70
  go_wp2_with fail
  refine (copyA _ l _ H.out (by omega)).mono ?_
  rintro e w1 ⟨v1, rfl, O1, B1⟩
  replace O1 := hid O1
  replace B1 := hid B1
  go_wp2_with fail
  go_loopw [3] (fun o3 ws => ∃ k : Nat, k ≤ (16 - l.length % 16) % 16 ∧ Hid (Own ws w.heap.size o3 (l ++ zs k)) ∧ Hid (Below w.heap.size w ws)) (fun o3 _ => 32 + l.length - slen o3)
  case atStart => exact ⟨0, by omega, hid (by rw [show zs 0 = [] from rfl, List.append_nil]; exact O1.out), B1⟩
  case round =>
    clear O1 B1
    obtain ⟨k, hk, HO, HB⟩ := hrel
    have LK : (l ++ zs k).length = l.length + k := by rw [List.length_append, zs_len]
    obtain ⟨p, c, e, -, -, -⟩ := HO.out.rd.parts
    rw [LK] at e
    subst e
    by_cases hlt : k < (16 - l.length % 16) % 16
    · have c1 : (((l.length + k : Nat) : Int) % 16 != 0) = true := by rw [bne_iff_ne]; omega
      have SN := hid (zs_snoc l k)
      have Q1 := hid (HO.out.below (below_alloc1 wr (.cells #[.int .u8 0] 5)))
      have S2 := hid (own_0 wr).rd
      have R2 := hid (HB.out.alloc HB.out.size (.cells #[.int .u8 0] 5))
      have LKH := hid LK
      have HM := hid (rfl : l.length + k = l.length + k)
      generalize hm : l.length + k = m at *
      clear HO HB LK HM
      go_wp2_with (at_builtin; refine list_app rfl _ _ rfl _ _ (l ++ zs k) [0] w.heap.size rfl rfl Q1.out S2.out (by rw [LKH.out]; have := HL.out; simp; omega) (R2.out.size) ?_; intro v' w3 O G)
      rw [SN.out] at O
      have hB : Below w.heap.size w w3 := R2.out.grown G R2.out.size (Q1.out.row (Nat.le_refl _))
      have hV : slen v' = m + 1 := by
        obtain ⟨p3, c3, rfl, -, -, -⟩ := O.rd.parts
        show (l ++ zs (k + 1)).length = m + 1
        rw [List.length_append, zs_len]
        omega
      clear G
      go_wp2
      go_roundw
      case rel => exact ⟨k + 1, by omega, hid O, hid hB⟩
      case measure => rw [hV]; simp only [slen]; omega
    · have hk8 : k = (16 - l.length % 16) % 16 := by omega
      have c1 : (((l.length + k : Nat) : Int) % 16 != 0) = false := by rw [bne_eq_false_iff_eq]; omega
      rw [whole_at l k hk8] at HO
      generalize l.length + k = m at *
      go_wp2
      go_ret
      exact ⟨_, rfl, HO.out, HB.out⟩
end Go.Proofs.YtckgjghpfjinfakGreat.W

namespace Go.Proofs.YtckgjghpfjinfakGreat.W
open Go.ChangeShapes Go.WideShapes Go.ChangeAt Go.RowKit
open Go.Proofs.YtckgjghpfjinfakGreat.M

theorem size8 (w : World) : (sizeOf 5).run Tryz.prog w = .ok 1 w := by kernel_rfl
theorem agg8 (w : World) : (isAgg 5).run Tryz.prog w = .ok false w := by kernel_rfl
theorem idx_arr (T : TypeId) (n : Nat) (hu : Tryz.prog.underlying T = some (.array n 5)) (l : List Nat) (hl : l.length = n) (k : Nat) (hk : k < n) (w : World) :
    (Instr.index T (.agg (arr l)) (.int .i64 (k : Int))).run Tryz.prog w = .ok (.int .u8 (gt l k : Nat)) w := by
  have h2 : (arr l)[k]? = some (.int .u8 (gt l k : Nat)) := arr_get l k (by omega)
  simp [Instr.index, run_underlying hu, asIntOf, part, h2, go_sem]
  intro h
  omega
/-- A slice as an array that is pointed at. -/
theorem arr_at (T e : TypeId) (n : Nat) (hu : Tryz.prog.underlying T = some (.array n e)) (a : Option Addr) (len cap : Nat) (h : n ≤ len) (w : World) :
    (Instr.arrayAt T (.slice a len cap)).run Tryz.prog w = .ok (.pointer a) w := by
  simp [Instr.arrayAt, run_underlying hu, show ¬ len < n by omega, go_sem]
end Go.Proofs.YtckgjghpfjinfakGreat.W

namespace Go.Proofs.YtckgjghpfjinfakGreat.W
open Go.ChangeShapes Go.WideShapes Go.ChangeAt Go.RowKit
open Go.Proofs.YtckgjghpfjinfakGreat.M

set_option maxRecDepth 100000 in
theorem ssub (a : Nat) (ha : a < 256) (w : World) :
    Calls Tryz.prog 66 #[.int .u8 (a : Int)] w fun e w' => e = .returned (.int .u8 (sbx a : Nat)) ∧ w' = w := by
  go_enter Tryz.func66, Tryz.ntmps66
  go_wp2
  go_ret
  exact ⟨ret_int (congrArg (fun n : Nat => (n : Int)) (box_fin ⟨a, ha⟩)), rfl⟩

end Go.Proofs.YtckgjghpfjinfakGreat.W

namespace Go.Proofs.YtckgjghpfjinfakGreat.W
open Go.ChangeShapes Go.WideShapes Go.ChangeAt Go.RowKit
open Go.Proofs.YtckgjghpfjinfakGreat.M

theorem dbl (a : Nat) (ha : a < 256) (w : World) :
    Calls Tryz.prog 82 #[.int .u8 (a : Int)] w fun e w' => e = .returned (.int .u8 (xt a : Nat)) ∧ w' = w := by
  have e : bits .xor .u8 ((a : Int) * 2 % 256) ((a : Int) / 128 * 27) = ((xt a : Nat) : Int) := by
    have e1 : ((a : Int) * 2 % 256) = ((a * 2 % 256 : Nat) : Int) := by omega
    have e2 : ((a : Int) / 128 * 27) = ((a / 128 * 27 : Nat) : Int) := by omega
    rw [e1, e2, xor8 _ _ (by omega) (by omega), dbl_fin ⟨a, ha⟩]
  go_enter Tryz.func82, Tryz.ntmps82
  go_wp2
  go_ret
  exact ⟨rfl, rfl⟩

theorem idx_16 (g j : Nat) (hj : j < 16) (w : World) : (Instr.indexAt 61 (.pointer (some ⟨g, 0, none⟩)) (.int .i64 (j : Int))).run Tryz.prog w = .ok (.pointer (some ⟨g, j, none⟩)) w := by
  have hs : ∀ w : World, (sizeOf (Tryz.prog.elem 61)).run Tryz.prog w = .ok 1 w := fun _ => by kernel_rfl
  have hl : Tryz.prog.arrayLen 61 = 16 := by kernel_rfl
  rw [run_indexAt_array (P := Tryz.prog) w 61 _ .i64 (j : Int) (by kernel_rfl), hl, if_pos (by omega), hs]
  simp [Result.andThen, Addr.add_lit]
theorem idx_sl (g o n c j : Nat) (hj : j < n) (w : World) : (Instr.indexAt 25 (.slice (some ⟨g, o, none⟩) n c) (.int .i64 (j : Int))).run Tryz.prog w = .ok (.pointer (some ⟨g, o + j, none⟩)) w := by
  have hs : ∀ w : World, (sizeOf (Tryz.prog.elem 25)).run Tryz.prog w = .ok 1 w := fun _ => by kernel_rfl
  rw [run_indexAt_slice (P := Tryz.prog) w 25 _ n c .i64 (j : Int) (by kernel_rfl)]
  simp [hs, hj, Result.andThen, Addr.add_lit]
theorem wrap_nat (n : Nat) (h : n < 1000000) : IntKind.i64.wrap (n : Int) = (n : Int) := by rw [IntKind.wrap_i64]; omega

set_option maxHeartbeats 4000000 in
set_option maxRecDepth 100000 in
theorem l2enc (v : Value) (l : List Nat) (F : Nat → Nat) (gk : Nat) (w : World) (h : Rd w v l) (y : Byt l) (hl : l.length = 16) (hK : Ar w gk 5 (rowTo 176 F 176)) (hF : ∀ j, F j < 256) :
    Calls Tryz.prog 68 #[.slice (some ⟨gk, 0, none⟩) 176 176, v] w fun e w' => ∃ r, e = .returned r ∧ Own w' w.heap.size r (enc F l) ∧ Below w.heap.size w w' := by
  obtain ⟨i0, hi, hz0, hz1, hz2⟩ := info_parts info8
  obtain ⟨b, o, cap, rfl, hcap, hb0⟩ := h.spot (by omega)
  have HC := hid (fun i hi => h.cells i hi)
  have HL := hid hl
  have HK := hid (fun j (hj : j < 176) => show w.cell? ⟨gk, j, none⟩ = some (.int .u8 (F j : Nat)) by rw [hK.cell j (by rw [rowTo_len]; exact hj), rowTo_gt _ _ _ _ hj (Nat.le_refl _)])
  rw [hl] at hcap ⊢
  clear h hl hK
  go_enter Tryz.func68, Tryz.ntmps68
  go_wp2_with fail
  have X0 : Ar ((w.alloc (.cells #[.int .u8 0, .int .u8 0, .int .u8 0, .int .u8 0, .int .u8 0, .int .u8 0, .int .u8 0, .int .u8 0, .int .u8 0, .int .u8 0, .int .u8 0, .int .u8 0, .int .u8 0, .int .u8 0, .int .u8 0, .int .u8 0] 61)).alloc (.cells #[.int .u8 0, .int .u8 0, .int .u8 0, .int .u8 0, .int .u8 0, .int .u8 0, .int .u8 0, .int .u8 0, .int .u8 0, .int .u8 0, .int .u8 0, .int .u8 0, .int .u8 0, .int .u8 0, .int .u8 0, .int .u8 0] 61)) w.heap.size 61 (zs 16) := heap_alloc2_old w _ _
  have Y0 : Ar ((w.alloc (.cells #[.int .u8 0, .int .u8 0, .int .u8 0, .int .u8 0, .int .u8 0, .int .u8 0, .int .u8 0, .int .u8 0, .int .u8 0, .int .u8 0, .int .u8 0, .int .u8 0, .int .u8 0, .int .u8 0, .int .u8 0, .int .u8 0] 61)).alloc (.cells #[.int .u8 0, .int .u8 0, .int .u8 0, .int .u8 0, .int .u8 0, .int .u8 0, .int .u8 0, .int .u8 0, .int .u8 0, .int .u8 0, .int .u8 0, .int .u8 0, .int .u8 0, .int .u8 0, .int .u8 0, .int .u8 0] 61)) (w.heap.size + 1) 61 (zs 16) := heap_alloc2_new w _ _
  have B0 := below_alloc2 w (.cells #[.int .u8 0, .int .u8 0, .int .u8 0, .int .u8 0, .int .u8 0, .int .u8 0, .int .u8 0, .int .u8 0, .int .u8 0, .int .u8 0, .int .u8 0, .int .u8 0, .int .u8 0, .int .u8 0, .int .u8 0, .int .u8 0] 61) (.cells #[.int .u8 0, .int .u8 0, .int .u8 0, .int .u8 0, .int .u8 0, .int .u8 0, .int .u8 0, .int .u8 0, .int .u8 0, .int .u8 0, .int .u8 0, .int .u8 0, .int .u8 0, .int .u8 0, .int .u8 0, .int .u8 0] 61)
  generalize (w.alloc (.cells #[.int .u8 0, .int .u8 0, .int .u8 0, .int .u8 0, .int .u8 0, .int .u8 0, .int .u8 0, .int .u8 0, .int .u8 0, .int .u8 0, .int .u8 0, .int .u8 0, .int .u8 0, .int .u8 0, .int .u8 0, .int .u8 0] 61)).alloc (.cells #[.int .u8 0, .int .u8 0, .int .u8 0, .int .u8 0, .int .u8 0, .int .u8 0, .int .u8 0, .int .u8 0, .int .u8 0, .int .u8 0, .int .u8 0, .int .u8 0, .int .u8 0, .int .u8 0, .int .u8 0, .int .u8 0] 61) = W at *
  obtain ⟨gy, hgy⟩ : ∃ g, g = w.heap.size + 1 := ⟨_, rfl⟩
  rw [← hgy] at Y0 ⊢
  have Hgy := hid hgy
  have HF := hid hF
  have HI := hid (And.intro hi (And.intro hz0 (And.intro hz1 hz2)))
  clear hgy hF hi hz0 hz1 hz2
  go_loopw [7] (fun i ws => ∃ k : Nat, k ≤ 16 ∧ i = .int .i64 k ∧ Ar ws w.heap.size 61 (upd (stt F l 0) (zs 16) k) ∧ Ar ws gy 61 (zs 16) ∧ Below w.heap.size w ws) (fun i _ => 16 - (intOf i).toNat)
  case atStart => exact ⟨0, by omega, rfl, by rw [upd_zero]; exact X0, Y0, B0⟩
  case round =>
    obtain ⟨k, hk, rfl, X, Y, B⟩ := hrel
    clear X0 Y0 B0
    have hs : (stt F l 0).length = (zs 16).length := by rw [stt_len F l HL.out, zs_len]
    by_cases hlt : k < 16
    · have c1 := cell_kept B (HC.out k (by rw [HL.out]; exact hlt))
      have c2 := cell_kept B (HK.out k (by omega))
      have c3 : ∃ u, wr.cell? ⟨w.heap.size, k, none⟩ = some u := ⟨_, X.cell k (by rw [upd_len _ _ hs, zs_len]; exact hlt)⟩
      obtain ⟨u3, c3⟩ := c3
      have f3 := X.open k
      have e : gt (stt F l 0) k = gt l k ^^^ F k := by
        rw [stt, xl_gt _ _ _ (by rw [HL.out]; exact hlt), rkl_gt _ _ _ hlt, Nat.mul_zero, Nat.zero_add]
      have S := X.stored k (gt (stt F l 0) k)
      rw [upd_set _ _ hs k (by rw [zs_len]; exact hlt)] at S
      have SY := Y.far (g' := w.heap.size) (k := k) (.int .u8 (gt (stt F l 0) k : Nat)) (by have := Hgy.out; omega)
      have SB := B.setCell (p := ⟨w.heap.size, k, none⟩) (Nat.le_refl _) (.int .u8 (gt (stt F l 0) k : Nat))
      have y1 := gt_byt l y k
      have y2 := HF.out k
      have E : bits .xor .u8 (gt l k : Nat) (F k : Nat) = ((gt (stt F l 0) k : Nat) : Int) := by rw [xor8 _ _ y1 y2, e]
      have k0 : (0 : Int) ≤ (k : Int) := by omega
      have k1 : (k : Int) < 16 := by omega
      have I1 := idx_sl b o 16 cap k hlt
      have I2 := idx_sl gk 0 176 176 k (by omega)
      rw [Nat.zero_add] at I2
      have I3 := idx_16 w.heap.size k hlt
      replace S := hid S
      replace SY := hid SY
      replace SB := hid SB
      clear X Y B e hs
      generalize gt l k = z1 at *
      generalize F k = z2 at *
      generalize gt (stt F l 0) k = z3 at *
      go_wp2_with fail
      refine wp_region_still_tail 11 (by kernel_rfl) (by kernel_rfl) ?_
      change wpStill _ _ (World.drew _) (fun a' => wpList _ _ _ _ a' (World.drew _)) _ _
      simp only [List.take_succ_cons, List.take_zero, List.drop_succ_cons, List.drop_zero]
      repeat still_step
      refine wpStill_nil ?_
      go_wp2
      exact ⟨⟨k + 1, hlt, num_succ k, S.out.drew, SY.out.drew, SB.out.drew⟩, meas 16 k hlt⟩
    · have hk16 : k = 16 := by omega
      subst hk16
      rw [upd_end _ _ hs 16 (by rw [zs_len])] at X
      clear hk hlt hs
      rw [show ((16 : Nat) : Int) = 16 from rfl]
      have X1 := hid X
      have Y1 := hid Y
      have B1 := hid B
      obtain ⟨w1, rfl⟩ : ∃ w1, w1 = wr := ⟨_, rfl⟩
      clear X Y B
      go_wp2_with fail
      go_loopw [8, 9, 10, 11, 12] (fun s8 s9 s10 s11 s12 ws => ∃ n r : Nat, ∃ u9 u10 u11 u12 : Value, ∃ yl : List Nat, n ≤ 10 ∧ Hid (r = n + 1) ∧ s8 = .int .i64 (r : Nat) ∧ s9 = u9 ∧ s10 = u10 ∧ s11 = u11 ∧ s12 = u12 ∧ yl.length = 16 ∧ Ar ws w.heap.size 61 (stt F l n) ∧ Ar ws gy 61 yl ∧ Below w.heap.size w ws) (fun s8 _ _ _ _ _ => 12 - (intOf s8).toNat)
      case atStart => exact ⟨0, 1, _, _, _, _, zs 16, by omega, hid rfl, rfl, rfl, rfl, rfl, rfl, zs_len 16, X1.out, Y1.out, B1.out⟩
      case round =>
        obtain ⟨n, r, v9, v10, v11, v12, yl, hn, Hr, rfl, rfl, rfl, rfl, rfl, hyl, X, Y, B⟩ := hrel
        clear X1 Y1 B1
        by_cases hlt : n < 10
        · have n1 : (r : Int) ≤ 10 := by have := Hr.out; omega
          have n2 : (1 : Int) ≤ (r : Int) := by have := Hr.out; omega
          have sl := stt_len F l HL.out n
          have sb := stt_byt F HF.out l y n
          have X1 := hid X
          have Y1 := hid Y
          have B1 := hid B
          have Hyl := hid hyl
          have Hsl := hid sl
          clear X Y B hyl sl
          go_wp2_with fail
          go_loopw [9] (fun s9 ws => ∃ k : Nat, k ≤ 16 ∧ s9 = .int .i64 k ∧ Ar ws w.heap.size 61 (stt F l n) ∧ Ar ws gy 61 (upd (shl (sbl (stt F l n))) yl k) ∧ Below w.heap.size w ws) (fun s9 _ => 16 - (intOf s9).toNat)
          case atStart => exact ⟨0, by omega, rfl, X1.out, by rw [upd_zero]; exact Y1.out, B1.out⟩
          case round =>
            obtain ⟨k, hk, rfl, X, Y, B⟩ := hrel
            clear X1 Y1 B1
            have hs : (shl (sbl (stt F l n))).length = yl.length := by rw [shl_len, Hyl.out]
            by_cases hlk : k < 16
            · obtain ⟨q, hq⟩ : ∃ q, q = (k + 4 * (k % 4)) % 16 := ⟨_, rfl⟩
              have c1 := X.cell q (by rw [Hsl.out]; omega)
              have c3 : ∃ u, wr.cell? ⟨gy, k, none⟩ = some u := ⟨_, Y.cell k (by rw [upd_len _ _ hs, Hyl.out]; exact hlk)⟩
              obtain ⟨u3, c3⟩ := c3
              have f3 := Y.open k
              have e : gt (shl (sbl (stt F l n))) k = sbx (gt (stt F l n) q) := by rw [shs_gt _ Hsl.out k hlk, hq]
              have S := Y.stored k (gt (shl (sbl (stt F l n))) k)
              rw [upd_set _ _ hs k (by rw [Hyl.out]; exact hlk), e] at S
              have SX := X.far (g' := gy) (k := k) (.int .u8 (sbx (gt (stt F l n) q) : Nat)) (by have := Hgy.out; omega)
              have SB := B.setCell (p := ⟨gy, k, none⟩) (by have := Hgy.out; simp; omega) (.int .u8 (sbx (gt (stt F l n) q) : Nat))
              have y1 := gt_byt _ sb q
              have e1 : ((k : Int) + 4 * ((k : Int) % 4)) % 16 = (q : Int) := by omega
              have q1 : (q : Int) < 16 := by omega
              have q0 : (0 : Int) ≤ (q : Int) := by omega
              have k0 : (0 : Int) ≤ (k : Int) := by omega
              have k1 : (k : Int) < 16 := by omega
              replace S := hid S
              replace SX := hid SX
              replace SB := hid SB
              clear X Y B e hs hq sb
              generalize gt (stt F l n) q = z at *
              go_wp2_with fail
              refine (ssub z y1 _).mono ?_
              rintro e w' ⟨rfl, rfl⟩
              go_wp2_with fail
              exact ⟨⟨k + 1, hlk, num_succ k, SX.out, S.out, SB.out⟩, meas 16 k hlk⟩
            · have hk16 : k = 16 := by omega
              subst hk16
              rw [upd_end _ _ hs 16 (by rw [Hyl.out])] at Y
              clear hk hlk hs
              rw [show ((16 : Nat) : Int) = 16 from rfl]
              obtain ⟨YL, hYL⟩ : ∃ Y, Y = shl (sbl (stt F l n)) := ⟨_, rfl⟩
              have yb : Byt YL := by rw [hYL]; exact shl_byt _ (sbl_byt _ sb)
              have yn : YL.length = 16 := by rw [hYL, shl_len]
              rw [← hYL] at Y
              have HY := hid hYL
              have X1 := hid X
              have Y1 := hid Y
              have B1 := hid B
              have Hyn := hid yn
              obtain ⟨w2, rfl⟩ : ∃ w2, w2 = wr := ⟨_, rfl⟩
              clear X Y B hYL yn sb
              go_wp2_with fail
              go_loopw [10, 11, 12] (fun s10 s11 s12 ws => ∃ m c : Nat, ∃ u11 u12 : Value, m ≤ 4 ∧ Hid (c = 4 * m) ∧ s10 = .int .i64 (c : Nat) ∧ s11 = u11 ∧ s12 = u12 ∧ Ar ws w.heap.size 61 (upd (stt F l (n + 1)) (stt F l n) c) ∧ Ar ws gy 61 YL ∧ Below w.heap.size w ws) (fun s10 _ _ _ => 16 - (intOf s10).toNat)
              case atStart => exact ⟨0, 0, _, _, by omega, hid rfl, rfl, rfl, rfl, by rw [upd_zero]; exact X1.out, Y1.out, B1.out⟩
              case round =>
                obtain ⟨m, c, v11', v12', hm, Hc, rfl, rfl, rfl, X, Y, B⟩ := hrel
                clear X1 Y1 B1
                have hs : (stt F l (n + 1)).length = (stt F l n).length := by rw [stt_len F l HL.out, Hsl.out]
                by_cases hlm : m < 4
                · have hc := Hc.out
                  obtain ⟨c1, h1⟩ : ∃ q, q = c + 1 := ⟨_, rfl⟩
                  obtain ⟨c2, h2⟩ : ∃ q, q = c + 2 := ⟨_, rfl⟩
                  obtain ⟨c3, h3⟩ : ∃ q, q = c + 3 := ⟨_, rfl⟩
                  have d0 := Y.cell c (by rw [Hyn.out]; omega)
                  have d1 := Y.cell c1 (by rw [Hyn.out]; omega)
                  have d2 := Y.cell c2 (by rw [Hyn.out]; omega)
                  have d3 := Y.cell c3 (by rw [Hyn.out]; omega)
                  have y0 := gt_byt YL yb c
                  have y1 := gt_byt YL yb c1
                  have y2 := gt_byt YL yb c2
                  have y3 := gt_byt YL yb c3
                  obtain ⟨al, hal⟩ : ∃ a, a = ((gt YL c ^^^ gt YL c1) ^^^ gt YL c2) ^^^ gt YL c3 := ⟨_, rfl⟩
                  have E : bits .xor .u8 (bits .xor .u8 (bits .xor .u8 (gt YL c : Nat) (gt YL c1 : Nat)) (gt YL c2 : Nat)) (gt YL c3 : Nat) = (al : Int) := by
                    rw [xor8 _ _ y0 y1, xor8 _ _ (xor_lt _ _ y0 y1) y2, xor8 _ _ (xor_lt _ _ (xor_lt _ _ y0 y1) y2) y3, hal]
                  have hal2 : al < 256 := by rw [hal]; exact xor_lt _ _ (xor_lt _ _ (xor_lt _ _ y0 y1) y2) y3
                  have AL := hid (show al = ((gt YL (4 * m) ^^^ gt YL (4 * m + 1)) ^^^ gt YL (4 * m + 2)) ^^^ gt YL (4 * m + 3) by rw [hal, h1, h2, h3, hc])
                  have e1 : (c : Int) + 1 = (c1 : Int) := by omega
                  have e2 : (c : Int) + 2 = (c2 : Int) := by omega
                  have e3 : (c : Int) + 3 = (c3 : Int) := by omega
                  have p0 : (0 : Int) ≤ (c : Int) := by omega
                  have q0 : (c : Int) < 16 := by omega
                  have I0 := idx_16 gy c (by omega)
                  have I1 := idx_16 gy c1 (by omega)
                  have I2 := idx_16 gy c2 (by omega)
                  have I3 := idx_16 gy c3 (by omega)
                  have v1 := wrap_nat c1 (by omega)
                  have v2 := wrap_nat c2 (by omega)
                  have v3 := wrap_nat c3 (by omega)
                  have X1 := hid X
                  have Y1 := hid Y
                  have B1 := hid B
                  clear X Y B hal hc h1 h2 h3 hs
                  generalize gt YL c = z0 at *
                  generalize gt YL c1 = z1 at *
                  generalize gt YL c2 = z2 at *
                  generalize gt YL c3 = z3 at *
                  go_wp2_with fail
                  refine wp_region_still_lit (by kernel_rfl) (by kernel_rfl) ?_
                  change wpStill _ _ (World.drew _) _ _ _
                  repeat still_step
                  refine wpStill_nil ?_
                  have X2 := hid X1.out.drew
                  have Y2 := hid Y1.out.drew
                  have B2 := hid B1.out.drew
                  clear X1 Y1 B1 d0 d1 d2 d3 E e1 e2 e3 I0 I1 I2 I3 v1 v2 v3 y0 y1 y2 y3
                  change Exit.then _ _ _ _ (World.drew _)
                  generalize World.drew _ = x3 at *
                  go_wp2_with fail
                  go_loopw [12] (fun s12 ws => ∃ k : Nat, k ≤ 4 ∧ s12 = .int .i64 k ∧ Ar ws w.heap.size 61 (upd (stt F l (n + 1)) (stt F l n) (c + k)) ∧ Ar ws gy 61 YL ∧ Below w.heap.size w ws) (fun s12 _ => 4 - (intOf s12).toNat)
                  case atStart => exact ⟨0, by omega, rfl, X2.out, Y2.out, B2.out⟩
                  case round =>
                    obtain ⟨k, hk, rfl, X, Y, B⟩ := hrel
                    clear X2 Y2 B2
                    have hs : (stt F l (n + 1)).length = (stt F l n).length := by rw [stt_len F l HL.out, Hsl.out]
                    by_cases hlk : k < 4
                    · have hc := Hc.out
                      have hr := Hr.out
                      obtain ⟨t, ht⟩ : ∃ t, t = c + k := ⟨_, rfl⟩
                      obtain ⟨a1, ha1⟩ : ∃ a, a = 16 * r := ⟨_, rfl⟩
                      obtain ⟨a2, ha2⟩ : ∃ a, a = a1 + c := ⟨_, rfl⟩
                      obtain ⟨q, hq⟩ : ∃ q, q = a2 + k := ⟨_, rfl⟩
                      rw [← ht] at X
                      have t16 : t < 16 := by omega
                      have d1 := Y.cell t (by rw [Hyn.out]; exact t16)
                      have d2 := cell_kept B (HK.out q (by omega))
                      have d3 : ∃ u, wr.cell? ⟨w.heap.size, t, none⟩ = some u := ⟨_, X.cell t (by rw [upd_len _ _ hs, Hsl.out]; exact t16)⟩
                      obtain ⟨u3, d3⟩ := d3
                      have f3 := X.open t
                      have y1 := gt_byt YL yb t
                      have y2 := HF.out q
                      obtain ⟨v1, hv1⟩ : ∃ v, v = gt YL t ^^^ F q := ⟨_, rfl⟩
                      have E : bits .xor .u8 (gt YL t : Nat) (F q : Nat) = (v1 : Int) := by rw [xor8 _ _ y1 y2, hv1]
                      have hv2 : v1 < 256 := by rw [hv1]; exact xor_lt _ _ y1 y2
                      have e1 : (c : Int) + (k : Int) = (t : Int) := by omega
                      have e2 : 16 * (r : Int) = (a1 : Int) := by omega
                      have e3 : (a1 : Int) + (c : Int) = (a2 : Int) := by omega
                      have e4 : (a2 : Int) + (k : Int) = (q : Int) := by omega
                      have w1 := wrap_nat t (by omega)
                      have w2 := wrap_nat a1 (by omega)
                      have w3 := wrap_nat a2 (by omega)
                      have w4 := wrap_nat q (by omega)
                      have k0 : (0 : Int) ≤ (k : Int) := by omega
                      have k1 : (k : Int) < 4 := by omega
                      have I1 := idx_16 gy t t16
                      have I2 := idx_sl gk 0 176 176 q (by omega)
                      rw [Nat.zero_add] at I2
                      have I3 := idx_16 w.heap.size t t16
                      have hg := Hgy.out
                      have S1 := X.stored t v1
                      have SY1 := Y.far (g' := w.heap.size) (k := t) (.int .u8 (v1 : Nat)) (by omega)
                      have SB1 := B.setCell (p := ⟨w.heap.size, t, none⟩) (Nat.le_refl _) (.int .u8 (v1 : Nat))
                      have Ht := hid ht
                      have VQ := hid (show v1 = gt YL t ^^^ F (16 * (n + 1) + t) by rw [hv1, show 16 * (n + 1) + t = q by omega])
                      have US := hid (upd_set _ _ hs t (by rw [Hsl.out]; exact t16))
                      clear X Y B hs ht ha1 ha2 hq hc hr hg hv1
                      replace S1 := hid S1
                      replace SY1 := hid SY1
                      replace SB1 := hid SB1
                      generalize hy1 : gt YL t = z1 at *
                      have Hy1 := hid hy1
                      clear hy1
                      generalize F q = z2 at *
                      go_wp2_with fail
                      refine wp_region_still_tail 19 (by kernel_rfl) (by kernel_rfl) ?_
                      change wpStill _ _ (World.drew _) (fun a' => wpList _ _ _ _ a' (World.drew _)) _ _
                      simp only [List.take_succ_cons, List.take_zero, List.drop_succ_cons, List.drop_zero]
                      repeat still_step
                      refine wpStill_nil ?_
                      have S2 := hid S1.out.drew
                      have SY2 := hid SY1.out.drew
                      have SB2 := hid SB1.out.drew
                      by_cases h10 : n + 1 < 10
                      · have t10 : (r : Int) < 10 := by have := Hr.out; omega
                        go_wp2_with fail
                        generalize (wr.setCell ⟨w.heap.size, t, none⟩ (.int .u8 (v1 : Nat))).drew = x4 at *
                        obtain ⟨kk, hkk⟩ : ∃ j, j = (k + 1) % 4 := ⟨_, rfl⟩
                        obtain ⟨t2, ht2⟩ : ∃ j, j = c + kk := ⟨_, rfl⟩
                        have hc := Hc.out
                        have t216 : t2 < 16 := by omega
                        have g1 := S2.out.cell t (by rw [List.length_set, upd_len _ _ (by rw [stt_len F l HL.out, Hsl.out]), Hsl.out]; exact t16)
                        rw [gt_set_same _ _ _ (by rw [upd_len _ _ (by rw [stt_len F l HL.out, Hsl.out]), Hsl.out]; exact t16)] at g1
                        have g2 := SY2.out.cell t (by rw [Hyn.out]; exact t16)
                        rw [Hy1.out] at g2
                        have g3 := SY2.out.cell t2 (by rw [Hyn.out]; exact t216)
                        have y3 := gt_byt YL yb t2
                        have f4 := S2.out.open t
                        have FE := stt_mix F l YL n m k h10 HY.out yb hlm hlk
                        rw [← AL.out, ← hkk, ← hc, ← Ht.out, ← ht2, Hy1.out] at FE
                        rw [show F (16 * (n + 1) + t) = F (16 * (n + 1) + t) from rfl] at FE
                        have VQ2 := VQ.out
                        obtain ⟨m1, hm1⟩ : ∃ v, v = v1 ^^^ al := ⟨_, rfl⟩
                        obtain ⟨m2, hm2⟩ : ∃ v, v = z1 ^^^ gt YL t2 := ⟨_, rfl⟩
                        obtain ⟨v2, hv2'⟩ : ∃ v, v = gt (stt F l (n + 1)) t := ⟨_, rfl⟩
                        have E1 : bits .xor .u8 (v1 : Nat) (al : Nat) = (m1 : Int) := by rw [xor8 _ _ hv2 hal2, hm1]
                        have E2 : bits .xor .u8 (z1 : Nat) (gt YL t2 : Nat) = (m2 : Int) := by rw [xor8 _ _ y1 y3, hm2]
                        have m1l : m1 < 256 := by rw [hm1]; exact xor_lt _ _ hv2 hal2
                        have m2l : m2 < 256 := by rw [hm2]; exact xor_lt _ _ y1 y3
                        have E3 : bits .xor .u8 (m1 : Nat) (xt m2 : Nat) = (v2 : Int) := by rw [xor8 _ _ m1l (xt_lt m2), hv2', FE, hm1, hm2, VQ2]
                        have S3 := S2.out.stored t v2
                        rw [List.set_set, hv2', US.out] at S3
                        have VE := hid hv2'
                        have SY3 := SY2.out.far (g' := w.heap.size) (k := t) (.int .u8 (v2 : Nat)) (by have := Hgy.out; omega)
                        have SB3 := SB2.out.setCell (p := ⟨w.heap.size, t, none⟩) (Nat.le_refl _) (.int .u8 (v2 : Nat))
                        have J1 := idx_16 gy t2 t216
                        have b1 : ((k : Int) + 1) % 4 = (kk : Int) := by omega
                        have b2 : ((k : Int) + 1).tmod 4 = (kk : Int) := by rw [Int.tmod_eq_emod_of_nonneg (by omega)]; omega
                        have b3 : (c : Int) + (kk : Int) = (t2 : Int) := by omega
                        have b4 := wrap_nat kk (by omega)
                        have b5 := wrap_nat t2 (by omega)
                        have b6 : IntKind.i64.wrap ((k : Int) + 1) = (k : Int) + 1 := by rw [IntKind.wrap_i64]; omega
                        replace S3 := hid S3
                        replace SY3 := hid SY3
                        replace SB3 := hid SB3
                        clear FE VQ2 hm1 hm2 hv2' hc hkk ht2 h10 E d1 d2 d3 S2 SY2 SB2
                        generalize gt YL t2 = z4 at *
                        refine wp_region_still_tail 26 (by kernel_rfl) (by kernel_rfl) ?_
                        change wpStill _ _ (World.drew _) (fun a' => wpList _ _ _ _ a' (World.drew _)) _ _
                        simp only [List.take_succ_cons, List.take_zero, List.drop_succ_cons, List.drop_zero]
                        repeat still_step
                        still_call (dbl m2 m2l _)
                        repeat still_step
                        refine wpStill_nil ?_
                        go_wp2
                        refine ⟨⟨k + 1, hlk, num_succ k, ?_, SY3.out.drew, SB3.out.drew⟩, meas 4 k hlk⟩
                        rw [show c + (k + 1) = t + 1 by have := Ht.out; omega]
                        have q := S3.out.drew
                        rw [← VE.out] at q
                        exact q
                      · have t10 : ¬ (r : Int) < 10 := by have := Hr.out; omega
                        have VE := hid (show v1 = gt (stt F l (n + 1)) t by rw [VQ.out, ← Hy1.out, stt_last F l YL n t h10 HY.out t16])
                        clear h10
                        go_wp2
                        refine ⟨⟨k + 1, hlk, num_succ k, ?_, SY2.out, SB2.out⟩, meas 4 k hlk⟩
                        have q := S2.out
                        rw [VE.out, US.out] at q
                        rw [show c + (k + 1) = t + 1 by have := Ht.out; omega, VE.out]
                        exact q
                    · have hk4 : k = 4 := by omega
                      subst hk4
                      have hc := Hc.out
                      have CE := hid (show c + 4 = 4 * (m + 1) by omega)
                      clear hc hk hlk hs
                      go_wp2
                      refine ⟨⟨m + 1, c + 4, _, _, hlm, CE, rfl, rfl, rfl, X, Y, B⟩, ?_⟩
                      have hc := Hc.out
                      simp [intOf]
                      omega
                · have hm4 : m = 4 := by omega
                  subst hm4
                  have hc := Hc.out
                  rw [upd_end _ _ hs c (by rw [Hsl.out]; omega)] at X
                  have c16 : ¬ (c : Int) < 16 := by omega
                  clear hc hs
                  go_wp2
                  refine ⟨⟨n + 1, r + 1, _, _, _, _, YL, hlt, hid (by rw [Hr.out]), num_succ r, rfl, rfl, rfl, rfl, Hyn.out, X, Y, B⟩, ?_⟩
                  have hr := Hr.out
                  simp [intOf]
                  omega
        · have hn10 : n = 10 := by omega
          subst hn10
          have r11 : ¬ (r : Int) ≤ 10 := by have := Hr.out; omega
          have hO0 := own_lit0 wr
          obtain ⟨hi, hz0, hz1, hz2⟩ := HI.out
          have X1 := X.alloc (.cells #[] 5)
          have B1 := B.alloc B.size (.cells #[] 5)
          have sl := stt_len F l HL.out 10
          have HN : Hid (∀ j u, ((stt F l 10).map bv)[j]? = some u → (wr.alloc (.cells #[] 5)).cell? ((⟨w.heap.size, 0, none⟩ : Addr).add j) = some u) := fun j u hj => by
            have hj' : j < (stt F l 10).length := by
              rcases Nat.lt_or_ge j (stt F l 10).length with q | q
              · exact q
              · rw [List.getElem?_eq_none (by simpa using q)] at hj; cases hj
            rw [List.getElem?_map, List.getElem?_eq_getElem hj'] at hj
            cases hj
            rw [Addr.add_lit, Nat.zero_add, X1.cell j hj', gt_eq _ j hj']
            rfl
          have H1 : Hid (∀ u ∈ (stt F l 10).map bv, u.oneCell' = true) := fun u hu => by
            obtain ⟨x, _, rfl⟩ := List.mem_map.1 hu
            rfl
          have HS := hid sl
          have HB := hid B
          have HB1 := hid B1
          clear sl X1 B1 X Y B
          go_wp2_with (at_builtin; refine wpList_append_own _ rfl _ _ _ rfl wr.heap.size 5 i0 (.int .u8 0) 1 1 Tryz.underlying25 hi hz0 hz1 hz2 rfl (by omega) _ _ _ rfl hO0 ⟨w.heap.size, 0, none⟩ 16 16 ((stt F l 10).map bv) rfl (by simp [HS.out]) HN.out H1.out (by unfold maxLen; simp) (by simp) (by simp) ?_; intro v' w1 hown1 hgrow1 _)
          have hO1 : Own w1 wr.heap.size v' (enc F l) := by
            unfold Own enc
            rw [HS.out]
            simpa using hown1
          have hB1 : Below w.heap.size w w1 := HB1.out.grown hgrow1 (by have := HB.out.size; simp; omega) (fun x e => by have q : wr.heap.size = x := Option.some.inj e; rw [← q]; exact HB.out.size)
          have hO2 := hO1.mono (base' := w.heap.size) HB.out.size
          clear hown1 hgrow1 hO0 hO1 hi hz0 hz1 hz2
          go_wp2
          go_ret
          exact ⟨v', rfl, hO2, hB1⟩
end Go.Proofs.YtckgjghpfjinfakGreat.W

namespace Go.Proofs.YtckgjghpfjinfakGreat.W
open Go.ChangeShapes Go.WideShapes Go.ChangeAt Go.RowKit
open Go.Proofs.YtckgjghpfjinfakGreat.M

theorem rd_kept {w w' : World} {b o n c : Nat} {l : List Nat} {r : Option Nat} (h : Rd w (.slice (some ⟨b, o, none⟩) n c) l) (hG : w.grownBy w' r) (hne : some b ≠ r) : Rd w' (.slice (some ⟨b, o, none⟩) n c) l := by
  obtain ⟨a, cap, e, h1, h2, hc⟩ := h
  refine ⟨a, cap, e, h1, h2, fun i hi => ?_⟩
  obtain ⟨b', o', e', hcc⟩ := hc i hi
  subst e'
  cases e
  exact ⟨b, o, rfl, hG.cell hcc hne⟩
theorem rd_blk {w : World} {b o n c : Nat} {l : List Nat} (h : Rd w (.slice (some ⟨b, o, none⟩) n c) l) (hl : 0 < l.length) : b < w.heap.size := by
  obtain ⟨a, cap, e, -, -, hc⟩ := h
  obtain ⟨b', o', e', hcc⟩ := hc 0 hl
  subst e'
  cases e
  exact World.block_lt_of_cell? w _ hcc
theorem own_spot {w : World} {base : Nat} {v : Value} {l : List Nat} (h : Own w base v l) (hl : 0 < l.length) : ∃ b cap, v = .slice (some ⟨b, 0, none⟩) l.length cap ∧ base ≤ b ∧ b < w.heap.size := by
  rcases h.2 with ⟨rfl, e⟩ | ⟨g, cap, cur, rfl, hb, hg, -⟩
  · omega
  · exact ⟨g, cap, rfl, hb, (Array.getElem?_eq_some_iff.1 hg).1⟩
theorem own_blk_lt {w : World} {base : Nat} {v : Value} {l : List Nat} (h : Own w base v l) {b : Nat} (hb : w.heap.size ≤ b) : some b ≠ v.ownBlock := h.ne_new hb

set_option maxHeartbeats 2000000 in
set_option maxRecDepth 100000 in
theorem l3stream (gk : Nat) (F : Nat → Nat) (vb vd : Value) (b d : List Nat) (w : World) (hK : Ar w gk 5 (rowTo 176 F 176)) (hF : ∀ j, F j < 256) (hb : Rd w vb b) (nb : b.length = 16) (yb : Byt b) (hd : Rd w vd d) (yd : Byt d) (nd : d.length ≤ 1000000) :
    Calls Tryz.prog 56 #[.slice (some ⟨gk, 0, none⟩) 176 176, vb, vd] w fun e w' => ∃ v, e = .returned v ∧ Own w' w.heap.size v (strm F b d) ∧ Below w.heap.size w w' := by
  obtain ⟨i0, hi, hz0, hz1, hz2⟩ := info_parts info8
  obtain ⟨pd, capd, rfl, -, -, hcd⟩ := hd.parts
  obtain ⟨bb, ob, cb, rfl, -, hbl⟩ := hb.spot (by omega)
  rw [nb] at hb ⊢
  have HK := hid hK
  have HKL := hid hK.lt
  have HF := hid hF
  have NB := hid nb
  have HCD := hid hcd
  have HR := hid (hb.below (below_alloc1 w (.cells #[] 5)))
  have HO := hid (own_lit0 w)
  have HB := hid (below_alloc1 w (.cells #[] 5))
  have HN := hid (show some bb ≠ (Value.slice (some ⟨w.heap.size, 0, none⟩) 0 0).ownBlock by show some bb ≠ some w.heap.size; intro e; cases e; omega)
  have SL := hid (strm_len F b d)
  clear hK hF hb nb hcd hd hbl
  go_enter Tryz.func56, Tryz.ntmps56
  go_wp2_with fail
  go_loopw [1, 7, 8, 9, 10] (fun v1 o7 a8 p9 j10 ws => ∃ n bb ob cb : Nat, ∃ u v : Value, 16 * n < d.length + 16 ∧ p9 = u ∧ j10 = v ∧ a8 = .int .i64 ((16 * n : Nat) : Int) ∧ v1 = .slice (some ⟨bb, ob, none⟩) 16 cb ∧ Hid (Rd ws (.slice (some ⟨bb, ob, none⟩) 16 cb) (cuN b n)) ∧ Hid (Own ws w.heap.size o7 ((strm F b d).take (16 * n))) ∧ Hid (some bb ≠ o7.ownBlock) ∧ Hid (Below w.heap.size w ws)) (fun _ _ a8 _ _ _ => d.length + 16 - (intOf a8).toNat)
  case atStart => exact ⟨0, bb, ob, cb, _, _, by omega, rfl, rfl, rfl, rfl, HR, hid (by rw [Nat.mul_zero, List.take_zero]; exact HO.out), HN, HB⟩
  case round =>
    clear HR HO HB HN
    obtain ⟨n, bb, ob, cb, u, v, hn, rfl, rfl, rfl, rfl, HR, HO, HN, HB⟩ := hrel
    by_cases hlt : 16 * n < d.length
    · have c1 : ((16 * n : Nat) : Int) < (d.length : Int) := by omega
      have m0 : (0 : Int) ≤ ((16 * n : Nat) : Int) := by omega
      have CL := hid (cuN_len b NB.out n)
      have CY := hid (cuN_byt b yb n)
      have KK := hid (HK.out.keep HB.out HKL.out)
      have PE := hid (show (enc F (cuN b n)).length = 16 from stt_len F (cuN b n) CL.out 10)
      have PY := hid (show Byt (enc F (cuN b n)) from stt_byt F HF.out (cuN b n) CY.out 10)
      have MN := hid (rfl : 16 * n = 16 * n)
      generalize hm : 16 * n = m at *
      replace MN := hid hm
      clear hm
      go_wp2_with fail
      refine (l2enc _ (cuN b n) F gk _ HR.out CY.out CL.out KK.out HF.out).mono ?_
      rintro e w1 ⟨r, rfl, OP, hB1⟩
      obtain ⟨bp, cp, rfl, hp1, hp2⟩ := own_spot OP (by rw [PE.out]; omega)
      rw [PE.out] at OP ⊢
      have P1 := hid OP.rd
      have R1 := hid (HR.out.below hB1)
      have O1 := hid (HO.out.below hB1)
      have N2 := hid (HO.out.ne_new hp1)
      have B1 := hid (HB.out.trans (hB1.mono HB.out.size))
      have hbb : bb < w1.heap.size := Nat.lt_of_lt_of_le (rd_blk HR.out (by rw [CL.out]; omega)) hB1.size
      have HBB := hid hbb
      have HBP := hid hp2
      clear OP hB1 HO HR HB KK hp1 hp2 hbb
      go_wp2_with fail
      go_loopw [7, 10] (fun o7 j10 wt => ∃ k : Nat, k ≤ 16 ∧ m + k ≤ d.length ∧ j10 = .int .i64 (k : Nat) ∧ Hid (Rd wt (.slice (some ⟨bb, ob, none⟩) 16 cb) (cuN b n)) ∧ Hid (Rd wt (.slice (some ⟨bp, 0, none⟩) 16 cp) (enc F (cuN b n))) ∧ Hid (Own wt w.heap.size o7 ((strm F b d).take (m + k))) ∧ Hid (some bb ≠ o7.ownBlock) ∧ Hid (some bp ≠ o7.ownBlock) ∧ Hid (w1.heap.size ≤ wt.heap.size) ∧ Hid (Below w.heap.size w wt)) (fun _ j10 _ => 16 - (intOf j10).toNat)
      case atStart => exact ⟨0, by omega, by omega, rfl, R1, P1, O1, HN, N2, hid (Nat.le_refl _), B1⟩
      case round =>
        clear R1 P1 O1 HN N2 B1
        obtain ⟨k, hk, hmk, rfl, R1, P1, O1, HN, N2, HS1, B1⟩ := hrel
        by_cases hin : k < 16 ∧ m + k < d.length
        · obtain ⟨hk16, hkd⟩ := hin
          obtain ⟨bd, od, rfl, cd0⟩ := HCD.out (m + k) hkd
          have nda := O1.out.ne (World.block_lt_of_cell? w _ cd0)
          have cd := cell_kept B1.out cd0
          rw [← gt_eq d (m + k) hkd] at cd
          have cpad := P1.out.cells k (by rw [PE.out]; exact hk16)
          rw [Nat.zero_add] at cpad
          have KD := hid (cell_alloc cd)
          have KP := hid (cell_alloc cpad)
          have hx := gt_byt d yd (m + k)
          have hy := gt_byt _ PY.out k
          have hsn := take_snoc (strm F b d) (m + k) (by rw [SL.out]; exact hkd)
          have he : (strm F b d)[m + k]'(by rw [SL.out]; exact hkd) = gt d (m + k) ^^^ gt (enc F (cuN b n)) k := by
            rw [← gt_eq (strm F b d) (m + k) (by rw [SL.out]; exact hkd), strm_gt _ _ _ _ hkd, pad, show (m + k) / 16 = n by have := MN.out; omega, show (m + k) % 16 = k by have := MN.out; omega]
          rw [he] at hsn
          have HS := hid hsn
          have hnn : ((strm F b d).take (m + k)).length = m + k := by rw [List.length_take, SL.out]; omega
          have HNN := hid hnn
          have hownK : wr.ownsRow w.heap.size 5 1 u7 (m + k) (((strm F b d).take (m + k)).map bv) := by
            have h := O1.out
            unfold Own at h
            rw [hnn] at h
            exact h
          have hsz := B1.out.size
          have HMK := hid (show od + (m + k) = od + ((m : Int) + (k : Int)).toNat by omega)
          rw [HMK.out] at cd KD
          have wmk : IntKind.i64.wrap ((m : Int) + (k : Int)) = (m : Int) + (k : Int) := by rw [IntKind.wrap_i64]; omega
          have mk0 : (0 : Int) ≤ (m : Int) + (k : Int) := by omega
          have mk1 : (m : Int) + (k : Int) < (d.length : Int) := by omega
          have k0 : (0 : Int) ≤ (k : Int) := by omega
          have k1 : (k : Int) < 16 := by omega
          generalize gt d (m + k) = x at *
          generalize gt (enc F (cuN b n)) k = y at *
          unfold bv at cd KD
          have HX : Hid (bits .xor .u8 (x : Int) (y : Int) = ((x ^^^ y : Nat) : Int)) := xor8' x y hx hy
          have ndp := N2.out
          have ndb := HN.out
          have E16 := hid hk16
          have Ekd := hid hkd
          clear hsn he hnn cd0 hk16 hkd
          go_wp2
          go_region_held3 (fun w' => w'.cell? ⟨bd, od + ((m : Int) + (k : Int)).toNat, none⟩ = some (.int .u8 (x : Nat)) ∧ w'.cell? ⟨bp, k, none⟩ = some (.int .u8 (y : Nat)))
            (first | exact ⟨cd, cpad⟩ | exact ⟨KD.out _, KP.out _⟩ | exact ⟨hgrow.cell (KD.out _) nda, hgrow.cell (KP.out _) ndp⟩)
            ((refine step_append_lies _ (by rfl) _ _ _ (by rfl) w.heap.size 5 i0 _ 1 1 Tryz.underlying25 hi hz0 hz1 hz2 rfl (by omega) _ _ _ (by rfl) ((World.ownsRow.alloc hownK _).drew) ⟨wr.heap.size, 0, none⟩ 1 1 [.int .u8 (bits .xor .u8 (x : Int) (y : Int))] (by rfl) (by rfl) (World.news_of_block (cs := #[.int .u8 (bits .xor .u8 (x : Int) (y : Int))]) (t := 5) (fr := (0, 0)) (heap_alloc_new wr _)) (by simp [Value.oneCell']) (by omega) (by have := Ekd.out; unfold maxLen; omega) (by have := Ekd.out; omega) (by simp; omega) (wr.heap.size + 1) (by simp) ?_; intro gg cap w2 hown1 hgrow hat hlt2))
          have hO1 : Own w2 w.heap.size (.slice (some ⟨gg, 0, none⟩) (m + k + 1) cap) ((strm F b d).take (m + (k + 1))) := by
            rw [← Nat.add_assoc, HS.out]
            rw [HX.out] at hown1
            exact own_snoc (by rw [HNN.out]; exact hown1)
          have hb1 : Below w.heap.size w w2 := ((B1.out.alloc hsz _).drew).grown hgrow (by simp; omega) (fun g e => (World.ownsRow.lt O1.out g e).1)
          have hR2 := hid (rd_kept ((R1.out.below (below_alloc1 wr (.cells #[.int .u8 (bits .xor .u8 (x : Int) (y : Int))] 5))).below (show Below _ _ _ from (Below.refl _ _).drew)) hgrow ndb)
          have hP2 := hid (rd_kept ((P1.out.below (below_alloc1 wr (.cells #[.int .u8 (bits .xor .u8 (x : Int) (y : Int))] 5))).below (show Below _ _ _ from (Below.refl _ _).drew)) hgrow ndp)
          have hN1 : some bb ≠ (Value.slice (some ⟨gg, 0, none⟩) (m + k + 1) cap).ownBlock := by
            intro e
            have e : bb = gg := by simpa [Value.ownBlock] using e
            rcases hat with q | q
            · exact ndb (by rw [e]; exact q.symm)
            · have h1 := HS1.out
              have h2 := HBB.out
              omega
          have hN2 : some bp ≠ (Value.slice (some ⟨gg, 0, none⟩) (m + k + 1) cap).ownBlock := by
            intro e
            have e : bp = gg := by simpa [Value.ownBlock] using e
            rcases hat with q | q
            · exact ndp (by rw [e]; exact q.symm)
            · have h1 := HS1.out
              have h2 := HBP.out
              omega
          have hZ2 : w1.heap.size ≤ w2.heap.size := by
            have h1 := HS1.out
            have h2 := hgrow.size
            simp at h2
            omega
          replace hO1 := hid hO1
          replace hb1 := hid hb1
          replace hN1 := hid hN1
          replace hN2 := hid hN2
          replace hZ2 := hid hZ2
          clear hown1 hgrow hownK O1 B1 R1 P1 cd cpad ndb ndp nda
          go_wp2
          go_roundw
          case rel => exact ⟨k + 1, by have := E16.out; omega, by have := Ekd.out; omega, by go_num, hR2, hP2, hO1, hN1, hN2, hZ2, hb1⟩
          case measure => simp [intOf]; omega
        · have TK := hid (show (strm F b d).take (m + k) = (strm F b d).take (16 * (n + 1)) by
            have hm := MN.out
            by_cases h1 : k < 16
            · rw [List.take_of_length_le (by rw [SL.out]; omega), List.take_of_length_le (by rw [SL.out]; omega)]
            · rw [show m + k = 16 * (n + 1) by omega])
          rw [TK.out] at O1
          have MN2 := hid (show m + 16 = 16 * (n + 1) by have := MN.out; omega)
          have hj : (¬ (k : Int) < 16) ∨ ((k : Int) < 16 ∧ ¬ (m : Int) + (k : Int) < (d.length : Int)) := by omega
          have wmk : IntKind.i64.wrap ((m : Int) + (k : Int)) = (m : Int) + (k : Int) := by rw [IntKind.wrap_i64]; omega
          have wm : IntKind.i64.wrap ((m : Int) + 16) = (m : Int) + 16 := by rw [IntKind.wrap_i64]; omega
          have hlm := hid hlt
          clear hin
          rcases hj with j1 | ⟨j1, j2⟩
          · go_wp2_with fail
            refine (l3count _ (cuN b n) _ R1.out CY.out CL.out).mono ?_
            rintro e w3 ⟨v3, rfl, O3, hB3⟩
            have L3 := cuN_len b NB.out (n + 1)
            obtain ⟨b3, c3, rfl, q1, q2⟩ := own_spot O3 (by rw [show cu (cuN b n) = cuN b (n + 1) from rfl, L3]; omega)
            rw [show cu (cuN b n) = cuN b (n + 1) from rfl, L3] at O3 ⊢
            have G1 := hid O3.rd
            have G2 := hid (O1.out.below hB3)
            have G3 := hid (O1.out.ne_new q1)
            have G4 := hid (B1.out.trans (hB3.mono B1.out.size))
            clear O3 hB3 O1 R1 P1 HN N2 B1
            go_wp2_with fail
            exact ⟨⟨n + 1, b3, 0, c3, _, _, by have := MN2.out; have := hlm.out; omega, rfl, rfl, i64_eq (by have := MN2.out; omega), rfl, G1, G2, G3, G4⟩, by simp [intOf]; omega⟩
          · go_wp2_with fail
            refine (l3count _ (cuN b n) _ R1.out CY.out CL.out).mono ?_
            rintro e w3 ⟨v3, rfl, O3, hB3⟩
            have L3 := cuN_len b NB.out (n + 1)
            obtain ⟨b3, c3, rfl, q1, q2⟩ := own_spot O3 (by rw [show cu (cuN b n) = cuN b (n + 1) from rfl, L3]; omega)
            rw [show cu (cuN b n) = cuN b (n + 1) from rfl, L3] at O3 ⊢
            have G1 := hid O3.rd
            have G2 := hid (O1.out.below hB3)
            have G3 := hid (O1.out.ne_new q1)
            have G4 := hid (B1.out.trans (hB3.mono B1.out.size))
            clear O3 hB3 O1 R1 P1 HN N2 B1
            go_wp2_with fail
            exact ⟨⟨n + 1, b3, 0, c3, _, _, by have := MN2.out; have := hlm.out; omega, rfl, rfl, i64_eq (by have := MN2.out; omega), rfl, G1, G2, G3, G4⟩, by simp [intOf]; omega⟩
    · have c1 : ¬ ((16 * n : Nat) : Int) < (d.length : Int) := by omega
      have m0 : (0 : Int) ≤ ((16 * n : Nat) : Int) := by omega
      rw [List.take_of_length_le (by rw [SL.out]; omega)] at HO
      generalize 16 * n = m at *
      go_wp2
      go_ret
      exact ⟨_, rfl, HO.out, HB.out⟩
end Go.Proofs.YtckgjghpfjinfakGreat.W

namespace Go.Proofs.YtckgjghpfjinfakGreat.W
open Go.ChangeShapes Go.WideShapes Go.ChangeAt Go.RowKit
open Go.Proofs.YtckgjghpfjinfakGreat.M

set_option maxRecDepth 100000 in
theorem l3half (v : Value) (l : List Nat) (w : World) (h : Rd w v l) (y : Byt l) (hl : 8 ≤ l.length) :
    Calls Tryz.prog 93 #[v] w fun e w' => e = .returned (.int .u64 (hfN l 0 8 : Nat)) ∧ w' = w := by
  obtain ⟨b, o, cap, rfl, -, -⟩ := h.spot (by omega)
  have HR := hid h
  clear h
  go_enter Tryz.func93, Tryz.ntmps93
  go_wp2
  go_loop [3, 4] (fun n3 i4 => ∃ k : Nat, k ≤ 8 ∧ i4 = .int .i64 k ∧ n3 = .int .u64 (hfN l 0 k : Nat)) (fun _ i4 => 8 - (intOf i4).toNat)
  case atStart => exact ⟨0, by omega, rfl, rfl⟩
  case round =>
    obtain ⟨k, hk, rfl, rfl⟩ := hrel
    by_cases hlt : k < 8
    · have c := HR.out.cells k (by omega)
      have s := hf_small l y 0 k hlt
      have b0 := gt_byt l y k
      have N := hid (show hfN l 0 (k + 1) = hfN l 0 k * 256 + gt l k by rw [hfN, Nat.zero_add])
      have kl : (k : Int) < (l.length : Int) := by omega
      generalize hfN l 0 k = a at *
      generalize gt l k = x at *
      go_wp2
      go_round
      case rel => exact ⟨k + 1, by omega, by go_num, by rw [N.out]; go_num⟩
      case measure => simp [intOf]; omega
    · have hk8 : k = 8 := by omega
      subst hk8
      go_wp2
      go_ret
      exact ⟨rfl, rfl⟩

set_option maxHeartbeats 1000000 in
set_option maxRecDepth 100000 in
theorem l3bytes (p : Nat × Nat) (w : World) (hp : G64 p) :
    Calls Tryz.prog 94 #[.int .u64 (p.1 : Nat), .int .u64 (p.2 : Nat)] w fun e w' => e = .returned (.slice (some ⟨w.heap.size, 0, none⟩) 16 16) ∧ Own w' w.heap.size (.slice (some ⟨w.heap.size, 0, none⟩) 16 16) (eb p) ∧ Below w.heap.size w w' := by
  obtain ⟨i0, hi, hz0, hz1, hz2⟩ := info_parts info8
  have HP := hid hp
  clear hp
  go_enter Tryz.func94, Tryz.ntmps94
  go_wp2_with (at_make; refine wpList_make_full _ rfl _ _ 25 rfl w.heap.size 5 i0 (.int .u8 0) 1 Tryz.underlying25 hi hz0 hz1 .i64 .i64 _ _ 16 rfl rfl rfl rfl (by rw [hz2]; omega) (by unfold maxLen; omega) (Nat.le_refl _) ?_; intro w0 hown0 hgrow0)
  have hown1 := own_made w w0 16 hown0
  have hb0 := below_of_grown hgrow0 (Nat.le_refl _) (fun k hk => by simp at hk)
  clear hown0 hgrow0 hi hz0 hz1 hz2
  go_loopw [0, 1, 6] (fun n0 n1 i6 wr => ∃ k : Nat, k ≤ 8 ∧ i6 = .int .i64 (7 - (k : Int)) ∧ n0 = .int .u64 (p.1 / 256 ^ k : Nat) ∧ n1 = .int .u64 (p.2 / 256 ^ k : Nat) ∧ Hid (Own wr w.heap.size (.slice (some ⟨w.heap.size, 0, none⟩) 16 16) (rk (gt (eb p)) k)) ∧ Hid (Below w.heap.size w wr)) (fun _ _ i6 _ => (intOf i6 + 1).toNat)
  case atStart => exact ⟨0, by omega, rfl, by rw [Nat.pow_zero, Nat.div_one], by rw [Nat.pow_zero, Nat.div_one], hid (by rw [rk_zero]; exact hown1), hid hb0⟩
  case round =>
    clear hown1 hb0
    obtain ⟨k, hk, rfl, rfl, rfl, HO, HB⟩ := hrel
    by_cases hlt : k < 8
    · obtain ⟨t, ht⟩ : ∃ t : Nat, t + k = 7 := ⟨7 - k, by omega⟩
      rw [show 7 - (k : Int) = (t : Int) by omega]
      have d0 : ∃ u, wr.cell? ⟨w.heap.size, t, none⟩ = some u := ⟨_, HO.out.cell (rk_len _ _) t (by rw [rk_len]; omega)⟩
      have d1 : ∃ u, wr.cell? ⟨w.heap.size, 8 + t, none⟩ = some u := ⟨_, HO.out.cell (rk_len _ _) (8 + t) (by rw [rk_len]; omega)⟩
      obtain ⟨u0, d0⟩ := d0
      obtain ⟨u1, d1⟩ := d1
      have f0 := HO.out.open (rk_len _ _) t
      have f1 := HO.out.open (rk_len _ _) (8 + t)
      have E0 := eb_lo p k t hlt ht
      have E1 := eb_hi p k t (8 + t) hlt ht rfl
      have RS := rk_set (gt (eb p)) k t (8 + t) hlt ht rfl
      have S1 := HO.out.stored (rk_len _ _) t (gt (eb p) t)
      have S2 := S1.1.stored (by rw [List.length_set, rk_len]) (8 + t) (gt (eb p) (8 + t))
      rw [RS] at S2
      have B2 := (HB.out.setCell (p := ⟨w.heap.size, t, none⟩) (Nat.le_refl _) (bv (gt (eb p) t))).setCell (p := ⟨w.heap.size, 8 + t, none⟩) (Nat.le_refl _) (bv (gt (eb p) (8 + t)))
      have S2 := S2.1
      unfold bv at S2 B2
      have P0 := hid (pow_step p.1 k)
      have P1 := hid (pow_step p.2 k)
      have q0 : p.1 / 256 ^ k < 18446744073709551616 := Nat.lt_of_le_of_lt (Nat.div_le_self _ _) HP.out.1
      have q1 : p.2 / 256 ^ k < 18446744073709551616 := Nat.lt_of_le_of_lt (Nat.div_le_self _ _) HP.out.2
      rw [E0, E1] at S2 B2
      clear S1 RS E0 E1
      generalize p.1 / 256 ^ k = a at *
      generalize p.2 / 256 ^ k = b at *
      have t0 : (0 : Int) ≤ (t : Int) := by omega
      have t1 : (t : Int) < 16 := by omega
      have k0 : (0 : Int) ≤ 8 + (t : Int) := by omega
      have k1 : 8 + (t : Int) < 16 := by omega
      rw [show ((a % 256 : Nat) : Int) = (a : Int) % 256 by omega, show ((b % 256 : Nat) : Int) = (b : Int) % 256 by omega] at S2 B2
      replace S2 := hid S2
      replace B2 := hid B2
      go_wp2
      go_roundw
      case rel => exact ⟨k + 1, by omega, i64_eq (by omega), by rw [← P0.out]; rfl, by rw [← P1.out]; rfl, S2, B2⟩
      case measure => simp [intOf]
    · have hk8 : k = 8 := by omega
      subst hk8
      rw [rk_end] at HO
      go_wp2
      go_ret
      exact ⟨rfl, HO.out, HB.out⟩

theorem hfN_drop (l : List Nat) (o : Nat) (k : Nat) : ∀ n, hfN (l.drop o) k n = hfN l (o + k) n
  | 0 => rfl
  | n + 1 => by
    rw [hfN, hfN, hfN_drop l o k n]
    congr 1
    unfold gt
    rw [List.getD_eq_getElem?_getD, List.getD_eq_getElem?_getD, List.getElem?_drop, Nat.add_assoc]
theorem wrap64 (a : Nat) (h : a < 18446744073709551616) : IntKind.u64.wrap (a : Int) = (a : Int) := by rw [IntKind.wrap_u64]; omega
theorem gx1_odd (a b : Nat) (h : G64 (a, b)) (hb : b % 2 = 1) : bits .xor .u64 (IntKind.u64.wrap ((a : Int) / 2)) 16212958658533785600 = ((gx (a, b)).1 : Nat) := by
  have h1 : a < 18446744073709551616 := h.1
  rw [show (a : Int) / 2 = ((a / 2 : Nat) : Int) by omega, wrap64 _ (by omega), show (16212958658533785600 : Int) = ((16212958658533785600 : Nat) : Int) from rfl, u64_xor_nat _ _ (by omega) (by decide)]
  simp [gx, hb]
theorem gx1_even (a b : Nat) (h : G64 (a, b)) (hb : ¬ b % 2 = 1) : IntKind.u64.wrap ((a : Int) / 2) = ((gx (a, b)).1 : Nat) := by
  have h1 : a < 18446744073709551616 := h.1
  rw [show (a : Int) / 2 = ((a / 2 : Nat) : Int) by omega, wrap64 _ (by omega)]
  simp [gx, hb]
theorem xor_top (b : Nat) (h : b < 9223372036854775808) : b ^^^ 9223372036854775808 = b + 9223372036854775808 := by
  have h1 := nat_join 63 9223372036854775808 b (by decide) h
  rw [Nat.add_comm, ← h1]
  apply Nat.eq_of_testBit_eq
  intro k
  rw [Nat.testBit_or, Nat.testBit_xor]
  by_cases hk : k = 63
  · subst hk
    rw [Nat.testBit_lt_two_pow (x := b) (i := 63) h]
    rfl
  · have e : (9223372036854775808 : Nat).testBit k = false := by
      have := Nat.testBit_two_pow (n := 63) (m := k)
      rw [show (9223372036854775808 : Nat) = 2 ^ 63 from rfl, this]
      simp; omega
    rw [e]
    simp
theorem gx2_any (a b : Nat) (h : G64 (a, b)) : IntKind.u64.wrap (IntKind.u64.wrap ((b : Int) / 2) + (a : Int) % 2 * 9223372036854775808) = ((gx (a, b)).2 : Nat) := by
  have h1 : b < 18446744073709551616 := h.2
  rw [show (b : Int) / 2 = ((b / 2 : Nat) : Int) by omega, wrap64 _ (by omega)]
  by_cases ha : a % 2 = 1
  · rw [show (a : Int) % 2 = 1 by omega, IntKind.wrap_u64]
    simp only [gx, ha, if_true]
    rw [xor_top _ (by omega)]
    omega
  · rw [show (a : Int) % 2 = 0 by omega, IntKind.wrap_u64]
    simp only [gx, ha, if_false]
    rw [Nat.xor_zero]
    omega
theorem bit_yes' (x m : Nat) (h : x / 2 ^ m % 2 = 1) : (((x : Int) / 2 ^ m).tmod 2 == 1) = true := by
  rw [beq_iff_eq, show ((x : Int) / 2 ^ m) = ((x / 2 ^ m : Nat) : Int) by simp, Int.tmod_eq_emod_of_nonneg (Int.natCast_nonneg _)]
  omega
theorem bit_no' (x m : Nat) (h : ¬ x / 2 ^ m % 2 = 1) : (((x : Int) / 2 ^ m).tmod 2 == 1) = false := by
  rw [beq_eq_false_iff_ne, show ((x : Int) / 2 ^ m) = ((x / 2 ^ m : Nat) : Int) by simp, Int.tmod_eq_emod_of_nonneg (Int.natCast_nonneg _)]
  omega
theorem par_yes (b : Nat) (h : b % 2 = 1) : ((b : Int) % 2 == 1) = true := by rw [beq_iff_eq]; omega
theorem par_no (b : Nat) (h : ¬ b % 2 = 1) : ((b : Int) % 2 == 1) = false := by rw [beq_eq_false_iff_ne]; omega
theorem u64_eq {a b : Int} (h : a = b) : Value.int .u64 a = .int .u64 b := by rw [h]
set_option maxHeartbeats 1000000 in
set_option maxRecDepth 100000 in
theorem l3times (va vb : Value) (la lb : List Nat) (w : World) (ha : Rd w va la) (hb : Rd w vb lb) (ya : Byt la) (yb : Byt lb) (na : la.length = 16) (nb : lb.length = 16) :
    Calls Tryz.prog 83 #[va, vb] w fun e w' => e = .returned (.slice (some ⟨w.heap.size, 0, none⟩) 16 16) ∧ Own w' w.heap.size (.slice (some ⟨w.heap.size, 0, none⟩) 16 16) (gtm la lb) ∧ Below w.heap.size w w' := by
  obtain ⟨ba, oa, capa, rfl, ea, -⟩ := ha.spot (by omega)
  obtain ⟨bb, ob, capb, rfl, eb', -⟩ := hb.spot (by omega)
  rw [na] at ha ea
  rw [nb] at hb eb'
  rw [na, nb]
  have HA := hid ha
  have HB := hid hb
  have NA := hid na
  have NB := hid nb
  have HD := hid (rd_piece hb 8 8 (by omega))
  rw [sub_drop lb 8 8 (by omega)] at HD
  have HF := run_from bb ob 16 capb 8 (by omega) (by omega)
  clear ha hb na nb
  go_enter Tryz.func83, Tryz.ntmps83
  go_wp2_with fail
  refine (l3half _ lb _ HB.out yb (by rw [NB.out]; omega)).mono ?_
  rintro e w' ⟨rfl, rfl⟩
  go_wp2_with fail
  refine (l3half _ (lb.drop 8) _ HD.out (fun x hx => yb x (List.mem_of_mem_drop hx)) (by rw [List.length_drop, NB.out]; omega)).mono ?_
  rintro e w' ⟨rfl, rfl⟩
  rw [hfN_drop]
  clear HD HF
  go_wp2_with fail
  go_loop [5, 6, 7, 8, 9, 10] (fun x5 y6 h7 l8 i9 o10 => ∃ n : Nat, ∃ u : Value, n ≤ 128 ∧ o10 = u ∧ i9 = .int .i64 n ∧ x5 = .int .u64 ((gs (fb (elt la)) (elt lb) n).1 : Nat) ∧ y6 = .int .u64 ((gs (fb (elt la)) (elt lb) n).2 : Nat) ∧ h7 = .int .u64 ((gxN (elt lb) n).1 : Nat) ∧ l8 = .int .u64 ((gxN (elt lb) n).2 : Nat)) (fun _ _ _ _ i9 _ => 128 - (intOf i9).toNat)
  case atStart => exact ⟨0, _, by omega, rfl, rfl, rfl, rfl, rfl, rfl⟩
  case round =>
    obtain ⟨n, u, hn, rfl, rfl, rfl, rfl, rfl, rfl⟩ := hrel
    by_cases hlt : n < 128
    · have c := HA.out.cells (n / 8) (by rw [NA.out]; omega)
      have SG := gs_64 (fb (elt la)) (elt_64 lb yb) n
      have XG := gxN_64 (elt_64 lb yb) n
      have FB := fb_elt la ya n hlt
      have GX : gxN (elt lb) (n + 1) = gx (gxN (elt lb) n) := rfl
      have x0 := gt_byt la ya (n / 8)
      have n0 : (0 : Int) ≤ (n : Int) := by omega
      have n1 : (n : Int) < 128 := by omega
      generalize gt la (n / 8) = x at *
      by_cases hb : x.testBit (7 - n % 8) = true
      · have SN := gs_yes (fb (elt la)) (elt lb) n (FB.trans hb)
        have cb := bit_yes' x _ ((tb_eq _ _).1 hb)
        clear FB hb
        generalize gs (fb (elt la)) (elt lb) n = S at *
        generalize gxN (elt lb) n = X at *
        obtain ⟨s1, s2⟩ := S
        obtain ⟨a, b⟩ := X
        simp only at *
        by_cases hp : b % 2 = 1
        · have cp := par_yes b hp
          go_wp2
          go_round
          case rel =>
            exact ⟨n + 1, _, by omega, rfl, by go_num, u64_eq (by rw [SN]; exact u64_xor_nat _ _ SG.1 XG.1), u64_eq (by rw [SN]; exact u64_xor_nat _ _ SG.2 XG.2), u64_eq (by rw [GX]; exact gx1_odd a b XG hp), u64_eq (by rw [GX]; exact gx2_any a b XG)⟩
          case measure => simp [intOf]; omega
        · have cp := par_no b hp
          go_wp2
          go_round
          case rel =>
            exact ⟨n + 1, _, by omega, rfl, by go_num, u64_eq (by rw [SN]; exact u64_xor_nat _ _ SG.1 XG.1), u64_eq (by rw [SN]; exact u64_xor_nat _ _ SG.2 XG.2), u64_eq (by rw [GX]; exact gx1_even a b XG hp), u64_eq (by rw [GX]; exact gx2_any a b XG)⟩
          case measure => simp [intOf]; omega
      · have SN := gs_no (fb (elt la)) (elt lb) n (FB.trans (by simpa using hb))
        have cb := bit_no' x _ (fun e => hb ((tb_eq _ _).2 e))
        clear FB hb
        generalize gs (fb (elt la)) (elt lb) n = S at *
        generalize gxN (elt lb) n = X at *
        obtain ⟨s1, s2⟩ := S
        obtain ⟨a, b⟩ := X
        simp only at *
        by_cases hp : b % 2 = 1
        · have cp := par_yes b hp
          go_wp2
          go_round
          case rel =>
            exact ⟨n + 1, _, by omega, rfl, by go_num, u64_eq (by rw [SN]), u64_eq (by rw [SN]), u64_eq (by rw [GX]; exact gx1_odd a b XG hp), u64_eq (by rw [GX]; exact gx2_any a b XG)⟩
          case measure => simp [intOf]; omega
        · have cp := par_no b hp
          go_wp2
          go_round
          case rel =>
            exact ⟨n + 1, _, by omega, rfl, by go_num, u64_eq (by rw [SN]), u64_eq (by rw [SN]), u64_eq (by rw [GX]; exact gx1_even a b XG hp), u64_eq (by rw [GX]; exact gx2_any a b XG)⟩
          case measure => simp [intOf]; omega
    · have hn8 : n = 128 := by omega
      subst hn8
      go_wp2_with fail
      refine (l3bytes (gmul (elt la) (elt lb)) _ (gmul_64 _ (elt_64 lb yb))).mono ?_
      rintro e w1 ⟨rfl, O, B⟩
      go_wp2
      go_ret
      exact ⟨rfl, O, B⟩
end Go.Proofs.YtckgjghpfjinfakGreat.W

namespace Go.Proofs.YtckgjghpfjinfakGreat.W
open Go.ChangeShapes Go.WideShapes Go.ChangeAt Go.RowKit
open Go.Proofs.YtckgjghpfjinfakGreat.M

set_option maxRecDepth 100000 in
theorem l1xor (va vb : Value) (la lb : List Nat) (w : World) (ha : Rd w va la) (hb : Rd w vb lb) (ya : Byt la) (yb : Byt lb) (h1 : la.length ≤ 1048576) (h2 : la.length = lb.length) :
    Calls Tryz.prog 71 #[va, vb] w fun e w' => ∃ v, e = .returned v ∧ Own w' w.heap.size v (xl la lb) ∧ Below w.heap.size w w' := by
  obtain ⟨a, capa, rfl, _, _, hca⟩ := ha.parts
  obtain ⟨b, capb, rfl, _, _, hcb⟩ := hb.parts
  rw [← h2]
  have HCA := hid hca
  have HCB := hid hcb
  have H2 := hid h2
  clear hca hcb ha hb h2
  obtain ⟨i0, hi, hz0, hz1, hz2⟩ := info_parts info8
  have hO0 := own_lit0 w
  go_enter Tryz.func71, Tryz.ntmps71
  go_wp2
  go_loopw [5, 6] (fun v i wr => ∃ k : Nat, k ≤ la.length ∧ i = .int .i64 k ∧ Own wr w.heap.size v ((xl la lb).take k) ∧ Below w.heap.size w wr) (fun _ i _ => la.length - (intOf i).toNat)
  case atStart => exact ⟨0, by omega, rfl, by rw [List.take_zero]; exact hO0, below_alloc1 w _⟩
  case round =>
    obtain ⟨k, hk, rfl, hown, hb⟩ := hrel
    clear hO0
    by_cases hlt : k < la.length
    · obtain ⟨ba, oa, rfl, ca⟩ := HCA.out k hlt
      have hk2 : k < lb.length := by have := H2.out; omega
      obtain ⟨bb, ob, rfl, cb⟩ := HCB.out k hk2
      have na := hown.ne (World.block_lt_of_cell? w _ ca)
      have nb := hown.ne (World.block_lt_of_cell? w _ cb)
      have ca := cell_kept hb ca
      have cb := cell_kept hb cb
      have KA := hid (cell_alloc ca)
      have KB := hid (cell_alloc cb)
      have hx := ya.at k hlt
      have hy := yb.at k hk2
      have hsn := take_snoc (xl la lb) k (by rw [xl_len]; exact hlt)
      rw [xl_at la lb k _ hlt hk2] at hsn
      have HS := hid hsn
      have hn : ((xl la lb).take k).length = k := by rw [List.length_take, xl_len]; omega
      have hownK : wr.ownsRow w.heap.size 5 1 u5 k (((xl la lb).take k).map bv) := by
        have h := hown
        unfold Own at h
        rw [hn] at h
        exact h
      have HN := hid hn
      have hsz := hb.size
      generalize la[k] = x at *
      generalize lb[k] = y at *
      unfold bv at ca cb KA KB
      have HX : Hid (bits .xor .u8 (x : Int) (y : Int) = ((x ^^^ y : Nat) : Int)) := xor8' x y hx hy
      clear hsn hk2 hn
      go_wp2
      go_region_held3 (fun w' => w'.cell? ⟨ba, oa + k, none⟩ = some (.int .u8 (x : Nat)) ∧ w'.cell? ⟨bb, ob + k, none⟩ = some (.int .u8 (y : Nat)))
        (first | exact ⟨ca, cb⟩ | exact ⟨KA.out _, KB.out _⟩ | exact ⟨hgrow.cell (KA.out _) na, hgrow.cell (KB.out _) nb⟩)
        ((refine step_append_lies _ (by rfl) _ _ _ (by rfl) w.heap.size 5 i0 _ 1 1 Tryz.underlying25 hi hz0 hz1 hz2 rfl (by omega) _ _ _ (by rfl) ((World.ownsRow.alloc hownK _).drew) ⟨wr.heap.size, 0, none⟩ 1 1 [.int .u8 (bits .xor .u8 (x : Int) (y : Int))] (by rfl) (by rfl) (World.news_of_block (cs := #[.int .u8 (bits .xor .u8 (x : Int) (y : Int))]) (t := 5) (fr := (0, 0)) (heap_alloc_new wr _)) (by simp [Value.oneCell']) (by omega) (by have := HN.out; unfold maxLen; omega) (by have := HN.out; omega) (by simp; omega) (wr.heap.size + 1) (by simp) ?_; intro gg cap w1 hown1 hgrow hat hlt2))
      have hO1 : Own w1 w.heap.size (.slice (some ⟨gg, 0, none⟩) (k + 1) cap) ((xl la lb).take (k + 1)) := by
        rw [HS.out]
        rw [HX.out] at hown1
        exact own_snoc (by rw [HN.out]; exact hown1)
      have hb1 : Below w.heap.size w w1 := ((hb.alloc hsz _).drew).grown hgrow (by simp; omega) (fun g e => (World.ownsRow.lt hown g e).1)
      clear hown1 hgrow hown hb hownK
      go_wp2
      go_roundw
      case rel => exact ⟨k + 1, by omega, by go_num, hO1, hb1⟩
      case measure => simp [intOf]; omega
    · have hk8 : k = la.length := by omega
      subst hk8
      rw [List.take_of_length_le (by rw [xl_len]; omega)] at hown
      go_wp2
      go_ret
      exact ⟨_, rfl, hown, hb⟩
end Go.Proofs.YtckgjghpfjinfakGreat.W

namespace Go.Proofs.YtckgjghpfjinfakGreat.W
open Go.ChangeShapes Go.WideShapes Go.ChangeAt Go.RowKit
open Go.Proofs.YtckgjghpfjinfakGreat.M

set_option maxHeartbeats 1000000 in
set_option maxRecDepth 100000 in
theorem l3hash (vh vd : Value) (h d : List Nat) (w : World) (hh : Rd w vh h) (hd : Rd w vd d) (yh : Byt h) (yd : Byt d) (nh : h.length = 16) (nd : d.length ≤ 1048576) :
    Calls Tryz.prog 72 #[vh, vd] w fun e w' => ∃ g, e = .returned (.slice (some ⟨g, 0, none⟩) 16 16) ∧ Own w' w.heap.size (.slice (some ⟨g, 0, none⟩) 16 16) (hshB h d) ∧ Below w.heap.size w w' := by
  obtain ⟨i0, hi, hz0, hz1, hz2⟩ := info_parts info8
  obtain ⟨ph, caph, rfl, -, -, -⟩ := hh.parts
  obtain ⟨pd, capd, rfl, ec, -, hcd⟩ := hd.parts
  have HH := hid hh
  have HD := hid hd
  have NH := hid nh
  have HC := hid hcd
  clear hh hd nh hcd
  go_enter Tryz.func72, Tryz.ntmps72
  go_wp2_with (at_make; refine wpList_make_full _ rfl _ _ 25 rfl w.heap.size 5 i0 (.int .u8 0) 1 Tryz.underlying25 hi hz0 hz1 .i64 .i64 _ _ 16 rfl rfl rfl rfl (by rw [hz2]; omega) (by unfold maxLen; omega) (Nat.le_refl _) ?_; intro w0 hown0 hgrow0)
  have hown1 := hid (own_made w w0 16 hown0)
  have hb0 := hid (below_of_grown hgrow0 (Nat.le_refl _) (fun k hk => by simp at hk))
  clear hown0 hgrow0 hi hz0 hz1 hz2
  go_loopw [5, 6] (fun o5 a6 ws => ∃ n g : Nat, 16 * n ≤ d.length ∧ a6 = .int .i64 ((16 * n : Nat) : Int) ∧ o5 = .slice (some ⟨g, 0, none⟩) 16 16 ∧ Hid (Own ws w.heap.size (.slice (some ⟨g, 0, none⟩) 16 16) (eb (hsh (elt h) d n))) ∧ Hid (Below w.heap.size w ws)) (fun _ a6 _ => d.length - (intOf a6).toNat)
  case atStart => exact ⟨0, _, by omega, rfl, rfl, hid (by rw [hsh, eb_g0]; exact hown1.out), hb0⟩
  case round =>
    clear hown1 hb0
    obtain ⟨n, g, hn, rfl, rfl, HO, HB⟩ := hrel
    by_cases hlt : 16 * n + 16 ≤ d.length
    · obtain ⟨b, o, rfl, -⟩ := HC.out 0 (by omega)
      have RP := run_piece b o d.length capd (16 * n) 16 (by omega) (by omega)
      have PD := hid (rd_piece (HD.out.below HB.out) (16 * n) 16 (by omega))
      have SL := hid (sub_len d (16 * n) 16 hlt)
      have c1 : ((16 * n + 16 : Nat) : Int) ≤ (d.length : Int) := by omega
      have m0 : (0 : Int) ≤ ((16 * n : Nat) : Int) := by omega
      have HM := hid (show 16 * n + 16 = 16 * (n + 1) by omega)
      generalize HMm : 16 * n = m at *
      rw [show ((m + 16 : Nat) : Int) = (m : Int) + 16 by omega] at RP c1
      have XN := hid (show gtm (xl (eb (hsh (elt h) d n)) (sub d m 16)) h = eb (hsh (elt h) d (n + 1)) by
        rw [hsh, gtm, elt_xl _ _ (eb_byt _) (sub_byt d yd _ _) (eb_len _) SL.out, elt_eb _ (hsh_64 _ (elt_64 h yh) d n), HMm])
      replace HMm := hid HMm
      go_wp2_with fail
      refine (l1xor _ _ (eb (hsh (elt h) d n)) (sub d m 16) _ HO.out.rd PD.out (eb_byt _) (sub_byt d yd _ _) (by rw [eb_len]; omega) (by rw [eb_len, SL.out])).mono ?_
      rintro e w1 ⟨v, rfl, O1, B1⟩
      obtain ⟨p1, cp1, rfl, -, -, -⟩ := O1.rd.parts
      have H1 := hid (HH.out.below (HB.out.trans (B1.mono HB.out.size)))
      have Q1 := hid O1
      have R1 := hid (HB.out.trans (B1.mono HB.out.size))
      clear O1 B1
      go_wp2_with fail
      refine (l3times _ _ (xl (eb (hsh (elt h) d n)) (sub d m 16)) h _ Q1.out.rd H1.out (xlb_byt _ _ (eb_byt _) (sub_byt d yd _ _) (by rw [eb_len, SL.out])) yh (by rw [xl_len, eb_len]) NH.out).mono ?_
      rintro e w2 ⟨rfl, O2, B2⟩
      rw [XN.out] at O2
      have Q2 := hid (O2.mono (base' := w.heap.size) (R1.out.size))
      have R2 := hid (R1.out.trans (B2.mono R1.out.size))
      clear O2 B2
      go_wp2
      go_roundw
      case rel => exact ⟨n + 1, _, by have := HM.out; omega, i64_eq (by have := HM.out; omega), rfl, Q2, R2⟩
      case measure => simp [intOf]; omega
    · have c1 : ¬ ((16 * n : Nat) : Int) + 16 ≤ (d.length : Int) := by omega
      have m0 : (0 : Int) ≤ ((16 * n : Nat) : Int) := by omega
      have m1 : ((16 * n : Nat) : Int) ≤ 1048576 := by omega
      have E := hid (show d.length / 16 = n by omega)
      generalize 16 * n = m at *
      go_wp2
      go_ret
      exact ⟨g, rfl, by unfold hshB; rw [E.out]; exact HO.out, HB.out⟩
end Go.Proofs.YtckgjghpfjinfakGreat.W

namespace Go.Proofs.YtckgjghpfjinfakGreat.W
open Go.ChangeShapes Go.WideShapes Go.ChangeAt Go.RowKit
open Go.Proofs.YtckgjghpfjinfakGreat.M

set_option maxRecDepth 100000 in
theorem sft (a b : Nat) (ha : a < 256) (hb : b < 256) (w : World) :
    Calls Tryz.prog 67 #[.int .u8 (a : Int), .int .u8 (b : Int)] w fun e w' => e = .returned (.int .u8 (ft a b : Nat)) ∧ w' = w := by
  go_enter Tryz.func67, Tryz.ntmps67
  go_wp2
  go_loop [0, 1, 5, 6, 7] (fun a' b' out i hi => ∃ k : Nat, ∃ h : Value, k ≤ 8 ∧ i = .int .i64 k ∧ a' = .int .u8 (xtN a k : Nat) ∧ b' = .int .u8 (b / 2 ^ k : Nat) ∧ out = .int .u8 (acc a b k : Nat) ∧ hi = h) (fun _ _ _ i _ => 8 - (intOf i).toNat)
  case atStart => exact ⟨0, _, by omega, rfl, by simp [xtN], by simp, by simp [acc], rfl⟩
  case round =>
    obtain ⟨k, h, hk, rfl, rfl, rfl, rfl, rfl⟩ := hrel
    by_cases hlt : k < 8
    · have hx := xtN_lt a ha k
      have ho := acc_lt a b ha k
      have hy : b / 2 ^ k < 256 := Nat.lt_of_le_of_lt (Nat.div_le_self _ _) hb
      have Hy : Hid (acc a b (k + 1) = if b / 2 ^ k % 2 = 1 then acc a b k ^^^ xtN a k else acc a b k) := rfl
      have Hp : Hid (b / 2 ^ (k + 1) = b / 2 ^ k / 2) := (half_pow b k).symm
      generalize b / 2 ^ k = y at *
      go_wp2
      all_goals
        go_round
        case rel =>
          refine ⟨k + 1, _, by omega, by go_num, ?_, ?_, ?_, rfl⟩
          · first | exact int_u8 (xt_hi _ ‹_› hx) | exact int_u8 (xt_lo _ ‹_›)
          · rw [Hp.out]; exact int_u8 (by omega)
          · rw [Hy.out]; first | (rw [if_pos (by have := beq_iff_eq.1 ‹((y : Int) % 2 == 1) = true›; omega)]; exact int_u8 (xor8 _ _ ho hx)) | (rw [if_neg (by have := beq_eq_false_iff_ne.1 ‹((y : Int) % 2 == 1) = false›; omega)])
        case measure => simp [intOf]; omega
    · have hk8 : k = 8 := by omega
      subst hk8
      go_wp2
      go_ret
      exact ⟨rfl, rfl⟩

end Go.Proofs.YtckgjghpfjinfakGreat.W

namespace Go.Proofs.YtckgjghpfjinfakGreat.W
open Go.ChangeShapes Go.WideShapes Go.ChangeAt Go.RowKit
open Go.Proofs.YtckgjghpfjinfakGreat.M

theorem sft2k (k : Nat) (w : World) :
    Calls Tryz.prog 67 #[.int .u8 (xtN 1 k : Nat), .int .u8 2] w fun e w' => e = .returned (.int .u8 (xtN 1 (k + 1) : Nat)) ∧ w' = w := by
  have h := sft (xtN 1 k) 2 (xtN_lt 1 (by omega) k) (by omega) w
  rw [show ((2 : Nat) : Int) = 2 from rfl, ft2 _ (xtN_lt 1 (by omega) k)] at h
  exact h
theorem idx_row (g n c j : Nat) (z : Int) (hz : z = (j : Int)) (hj : j < n) (w : World) : (Instr.indexAt 25 (.slice (some ⟨g, 0, none⟩) n c) (.int .i64 z)).run Tryz.prog w = .ok (.pointer (some ⟨g, j, none⟩)) w := by
  subst hz
  have hs : ∀ w : World, (sizeOf (Tryz.prog.elem 25)).run Tryz.prog w = .ok 1 w := fun _ => by kernel_rfl
  rw [run_indexAt_slice (P := Tryz.prog) w 25 _ n c .i64 (j : Int) (by kernel_rfl)]
  simp [hs, hj, Result.andThen, Addr.add_lit]

set_option maxHeartbeats 2000000 in
set_option maxRecDepth 100000 in
theorem l2keys (v : Value) (key : List Nat) (w : World) (h : Rd w v key) (y : Byt key) (hk : key.length = 16) :
    Calls Tryz.prog 55 #[v] w fun e w' => e = .returned (.slice (some ⟨w.heap.size, 0, none⟩) 176 176) ∧ Ar w' w.heap.size 5 (rowTo 176 (kf key) 176) ∧ Below w.heap.size w w' := by
  obtain ⟨i0, hi, hz0, hz1, hz2⟩ := info_parts info8
  obtain ⟨b, o, cap, rfl, hcap, hb0⟩ := h.spot (by omega)
  have HC := hid (fun i hi => h.cells i hi)
  have HK := hid hk
  rw [hk] at hcap ⊢
  clear h hk
  go_enter Tryz.func55, Tryz.ntmps55
  go_wp2_with (at_make; refine wpList_make_full _ rfl _ _ 25 rfl w.heap.size 5 i0 (.int .u8 0) 1 Tryz.underlying25 hi hz0 hz1 .i64 .i64 _ _ 176 rfl rfl rfl rfl (by rw [hz2]; omega) (by unfold maxLen; omega) (Nat.le_refl _) ?_; intro w0 hown0 hgrow0)
  have A0 := (own_made w w0 176 hown0).ar (List.length_replicate ..)
  have hb1 := below_of_grown hgrow0 (Nat.le_refl _) (fun k hk => by simp at hk)
  obtain ⟨w1, hcp, hR1, hB1⟩ : ∃ w1, (Builtin.copy_ #[25, 25] 3 #[.slice (some ⟨w.heap.size, 0, none⟩) 176 176, .slice (some ⟨b, o, none⟩) 16 cap]).run Tryz.prog w0 = .ok (.int .i64 16) w1 ∧ Ar w1 w.heap.size 5 (rowTo 176 (kf key) 16) ∧ Below w.heap.size w w1 := by
    have hl : (key.map bv).length = 16 := by rw [List.length_map, HK.out]
    have hr := run_copy_row (P := Tryz.prog) w0 25 25 3 5 w.heap.size 0 176 176 ⟨b, o, none⟩ 16 cap _ 5 (key.map bv) Tryz.underlying25 (by kernel_rfl) A0 (by rw [hl]; rfl)
      (fun j u hj => by
        have hj' : j < key.length := by
          rcases Nat.lt_or_ge j key.length with q | q
          · exact q
          · rw [List.getElem?_eq_none (by simpa using q)] at hj; cases hj
        rw [List.getElem?_map, List.getElem?_eq_getElem hj'] at hj
        cases hj
        have q := cell_kept hb1 (HC.out j hj')
        rw [gt_eq key j hj'] at q
        rw [Addr.add_lit]
        exact q)
      (by rw [hl, arr_size, List.length_replicate]; omega) (by intro u hu; obtain ⟨x, _, rfl⟩ := List.mem_map.1 hu; rfl)
    rw [hl] at hr
    refine ⟨_, hr, ?_, below_setRow hb1 (Nat.le_refl _) _⟩
    have e : ((arr (List.replicate 176 0)).toList.take 0 ++ key.map bv ++ (arr (List.replicate 176 0)).toList.drop (0 + 16)) = (rowTo 176 (kf key) 16).map bv := by
      have f := rowTo_front 176 (kf key) key (by rw [HK.out]; omega) (fun j hj => kf_low key HK.out j (by rw [← HK.out]; exact hj))
      rw [HK.out] at f
      rw [f, arr, List.take_zero, List.nil_append, List.map_append, List.toList_toArray, List.map_replicate, List.map_replicate, List.drop_replicate]
    rw [e]
    exact setRow_heap w0 w.heap.size _ _ _ _ A0
  clear hown0 hgrow0 A0 hb1 hi hz0 hz1 hz2 HC
  rw [hcp]
  clear hcp
  go_wp2_with fail
  have KL := hid (kf_lt key y)
  have KS := hid (kf_step key HK.out)
  clear HK
  generalize hF : kf key = F at *
  have HF := hid hF
  clear hF
  go_loopw [4, 5, 6, 7] (fun c i t k' wr => ∃ n : Nat, ∃ u u2 : Value, n ≤ 40 ∧ i = .int .i64 (16 + 4 * n : Nat) ∧ c = .int .u8 (xtN 1 ((n + 3) / 4) : Nat) ∧ t = u ∧ k' = u2 ∧ Ar wr w.heap.size 5 (rowTo 176 F (16 + 4 * n)) ∧ Below w.heap.size w wr) (fun _ i _ _ _ => 176 - (intOf i).toNat)
  case atStart => exact ⟨0, _, _, by omega, rfl, rfl, rfl, rfl, hR1, hB1⟩
  case round =>
    obtain ⟨n, u, u2, hn, rfl, rfl, rfl, rfl, A, hB⟩ := hrel
    clear hR1 hB1
    by_cases hlt : n < 40
    · obtain ⟨i, hi⟩ : ∃ i, i = 16 + 4 * n := ⟨_, rfl⟩
      obtain ⟨p, hp⟩ : ∃ p, p = 12 + 4 * n := ⟨_, rfl⟩
      rw [← hi]
      rw [← hi] at A
      obtain ⟨p1, hp1⟩ : ∃ q, q = p + 1 := ⟨_, rfl⟩
      obtain ⟨p2, hp2⟩ : ∃ q, q = p + 2 := ⟨_, rfl⟩
      obtain ⟨p3, hp3⟩ : ∃ q, q = p + 3 := ⟨_, rfl⟩
      have d0 := A.cell p (by rw [rowTo_len]; omega)
      have d1 := A.cell p1 (by rw [rowTo_len]; omega)
      have d2 := A.cell p2 (by rw [rowTo_len]; omega)
      have d3 := A.cell p3 (by rw [rowTo_len]; omega)
      rw [rowTo_gt _ _ _ _ (by omega) (by omega)] at d0 d1 d2 d3
      have x0 := KL.out p
      have x1' := KL.out p1
      have x2 := KL.out p2
      have x3 := KL.out p3
      have i1 : 16 ≤ i := by omega
      have i2 : i ≤ 172 := by omega
      have e4 : (i : Int) - 4 = (p : Int) := by omega
      have e3 : (i : Int) - 3 = (p1 : Int) := by omega
      have e2 : (i : Int) - 2 = (p2 : Int) := by omega
      have e1 : (i : Int) - 1 = (p3 : Int) := by omega
      have v4 : IntKind.i64.wrap ((p : Nat) : Int) = ((p : Nat) : Int) := by rw [IntKind.wrap_i64]; omega
      have v3 : IntKind.i64.wrap (p1 : Int) = (p1 : Int) := by rw [IntKind.wrap_i64]; omega
      have v2 : IntKind.i64.wrap (p2 : Int) = (p2 : Int) := by rw [IntKind.wrap_i64]; omega
      have v1 : IntKind.i64.wrap (p3 : Int) = (p3 : Int) := by rw [IntKind.wrap_i64]; omega
      have ix4 := idx_row w.heap.size 176 176 p _ rfl (by omega)
      have ix3 := idx_row w.heap.size 176 176 p1 _ rfl (by omega)
      have ix2 := idx_row w.heap.size 176 176 p2 _ rfl (by omega)
      have ix1 := idx_row w.heap.size 176 176 p3 _ rfl (by omega)
      have D := hid (And.intro d0 (And.intro d1 (And.intro d2 d3)))
      have KA := hid (fun o : Obj => And.intro (cell_alloc d0 o) (And.intro (cell_alloc d1 o) (And.intro (cell_alloc d2 o) (cell_alloc d3 o))))
      have HA := hid A
      have HB := hid hB
      have Hi := hid hi
      have Hp := hid hp
      have Hp1 := hid hp1
      have Hp2 := hid hp2
      have Hp3 := hid hp3
      have hwr := A.lt
      clear A hB hi hp hp1 hp2 hp3 d0 d1 d2 d3
      have TY := hid (fun h => twl_yes F n p p1 p2 p3 h Hp.out Hp1.out Hp2.out Hp3.out)
      have TN := hid (fun h => twl_no F n p p1 p2 p3 h Hp.out Hp1.out Hp2.out Hp3.out)
      generalize F p = a0 at *
      generalize F p1 = a1 at *
      generalize F p2 = a2 at *
      generalize F p3 = a3 at *
      go_wp2_with fail
      go_region_held3 (fun w' => w'.cell? ⟨w.heap.size, p, none⟩ = some (.int .u8 (a0 : Nat)) ∧ w'.cell? ⟨w.heap.size, p1, none⟩ = some (.int .u8 (a1 : Nat)) ∧ w'.cell? ⟨w.heap.size, p2, none⟩ = some (.int .u8 (a2 : Nat)) ∧ w'.cell? ⟨w.heap.size, p3, none⟩ = some (.int .u8 (a3 : Nat))) (first | exact D.out | exact KA.out _) (fail)
      have T1 : Ar (wr.alloc (.cells #[.int .u8 (a0 : Nat), .int .u8 (a1 : Nat), .int .u8 (a2 : Nat), .int .u8 (a3 : Nat)] 113)).drew wr.heap.size 113 [a0, a1, a2, a3] := heap_alloc_new wr _
      have A1 := (HA.out.alloc (.cells #[.int .u8 (a0 : Nat), .int .u8 (a1 : Nat), .int .u8 (a2 : Nat), .int .u8 (a3 : Nat)] 113)).drew
      have B1 := (HB.out.alloc HB.out.size (.cells #[.int .u8 (a0 : Nat), .int .u8 (a1 : Nat), .int .u8 (a2 : Nat), .int .u8 (a3 : Nat)] 113)).drew
      have hg := A1.lt
      clear D KA HA HB e1 e2 e3 e4 v1 v2 v3 v4 ix1 ix2 ix3 ix4
      clear ‹_ ∧ _ ∧ _ ∧ _›
      generalize (wr.alloc (.cells #[.int .u8 (a0 : Nat), .int .u8 (a1 : Nat), .int .u8 (a2 : Nat), .int .u8 (a3 : Nat)] 113)).drew = x1 at *
      generalize wr.heap.size = g at *
      replace A1 := hid A1
      replace B1 := hid B1
      replace T1 := hid T1
      have em : (i : Int) % 16 = ((4 * (n % 4) : Nat) : Int) := by have := Hi.out; omega
      go_upto_if 39 with fail
      go_cut [4] from 12 to 76 (fun c wx => c = .int .u8 (xtN 1 ((n + 1 + 3) / 4) : Nat) ∧ Ar wx g 113 (twl F n) ∧ Ar wx w.heap.size 5 (rowTo 176 F i) ∧ Below w.heap.size w wx)
      case first =>
        by_cases hm : n % 4 = 0
        · have t39 : (4 * ((n : Int) % 4) == 0) = true := by rw [beq_iff_eq]; omega
          have TW := hid (TY.out hm)
          have c0 := T1.out.cell 0 (by simp)
          have c1 := T1.out.cell 1 (by simp)
          have c2 := T1.out.cell 2 (by simp)
          have c3 := T1.out.cell 3 (by simp)
          rw [show gt [a0, a1, a2, a3] 0 = a0 from rfl] at c0
          rw [show gt [a0, a1, a2, a3] 1 = a1 from rfl] at c1
          rw [show gt [a0, a1, a2, a3] 2 = a2 from rfl] at c2
          rw [show gt [a0, a1, a2, a3] 3 = a3 from rfl] at c3
          have hcc := xtN_lt 1 (by omega) ((n + 3) / 4)
          have E := xor8 _ _ (sbx_lt a1 x1') hcc
          have CS := hid (fun w => sft2k ((n + 3) / 4) w)
          have CE := hid (show xtN 1 ((n + 1 + 3) / 4) = xtN 1 ((n + 3) / 4 + 1) by rw [show (n + 1 + 3) / 4 = (n + 3) / 4 + 1 by omega])
          have Z4 := hid (show (Tryz.prog.info? 113).map (·.size) = some (arr [sbx a1 ^^^ xtN 1 ((n + 3) / 4), sbx a2, sbx a3, sbx a0]).size by rw [arr_size]; kernel_rfl)
          clear TY TN hm
          go_wp2_with fail
          refine wp_region_still_tail 15 (by kernel_rfl) (by kernel_rfl) ?_
          change wpStill _ _ (World.drew _) (fun a' => wpList _ _ _ _ a' (World.drew _)) _ _
          simp only [List.take_succ_cons, List.take_zero, List.drop_succ_cons, List.drop_zero]
          still_step
          still_step
          still_call (ssub a1 x1' _)
          still_step
          still_step
          still_step
          still_step
          still_call (ssub a2 x2 _)
          still_step
          still_step
          still_call (ssub a3 x3 _)
          still_step
          still_step
          still_call (ssub a0 x0 _)
          still_step
          refine wpStill_nil ?_
          refine wpList_store_row rfl 113 _ _ rfl g (arr [sbx a1 ^^^ xtN 1 ((n + 3) / 4), sbx a2, sbx a3, sbx a0]) rfl rfl 113 _ T1.out.drew Z4.out (by rw [arr_size, arr_size]; rfl) (arr_one _) ?_
          have T2 := hid (T1.out.drew.row (l' := [sbx a1 ^^^ xtN 1 ((n + 3) / 4), sbx a2, sbx a3, sbx a0]))
          have A2 := hid (A1.out.drew.rowFar (g' := g) (arr [sbx a1 ^^^ xtN 1 ((n + 3) / 4), sbx a2, sbx a3, sbx a0]) (by omega))
          have B2 := hid (below_row (B1.out.drew) (g := g) (by omega) (arr [sbx a1 ^^^ xtN 1 ((n + 3) / 4), sbx a2, sbx a3, sbx a0]))
          generalize x1.drew.setRow g (arr [sbx a1 ^^^ xtN 1 ((n + 3) / 4), sbx a2, sbx a3, sbx a0]) = x2w at *
          clear c0 c1 c2 c3 E
          go_wp2_with fail
          refine (CS.out _).mono ?_
          rintro e w' ⟨rfl, rfl⟩
          go_wp2_with fail
          go_meet
          case rel => exact ⟨by rw [CE.out], by rw [TW.out]; exact T2.out, A2.out, B2.out⟩
        · have t39 : (4 * ((n : Int) % 4) == 0) = false := by rw [beq_eq_false_iff_ne]; omega
          have TW := hid (TN.out hm)
          have CE := hid (show xtN 1 ((n + 1 + 3) / 4) = xtN 1 ((n + 3) / 4) by rw [show (n + 1 + 3) / 4 = (n + 3) / 4 by omega])
          clear TY TN hm
          go_wp2_with fail
          go_meet
          case rel => exact ⟨by rw [CE.out], by rw [TW.out]; exact T1.out, A1.out, B1.out⟩
      case rest =>
        obtain ⟨rfl, T2, A2, B2⟩ := hcut
        clear A1 B1 T1 TY TN x0 x1' x2 x3
        have KT := hid (fun k => tw_lt F KL.out n k)
        go_wp2_with fail
        have hB0 := B2.size
        have hgl := T2.lt
        go_loopw [7] (fun kk ws => ∃ k : Nat, k ≤ 4 ∧ kk = .int .i64 k ∧ Ar ws g 113 (twl F n) ∧ Ar ws w.heap.size 5 (rowTo 176 F (i + k)) ∧ Below w.heap.size w ws) (fun kk _ => 4 - (intOf kk).toNat)
        case atStart => exact ⟨0, by omega, rfl, T2, A2, B2⟩
        case round =>
          obtain ⟨k, hk4, rfl, T3, A3, B3⟩ := hrel
          clear T2 A2 B2
          by_cases hlk : k < 4
          · obtain ⟨m, hm⟩ : ∃ m, m = i + k := ⟨_, rfl⟩
            obtain ⟨q, hq⟩ : ∃ q, q = 4 * n + k := ⟨_, rfl⟩
            rw [← hm] at A3
            have hi' := Hi.out
            have c1 := A3.cell q (by rw [rowTo_len]; omega)
            rw [rowTo_gt _ _ _ _ (by omega) (by omega)] at c1
            have c2 := T3.cell k (by rw [twl_len]; exact hlk)
            rw [twl_gt _ _ _ hlk] at c2
            have c3 : ∃ u, wr.cell? ⟨w.heap.size, m, none⟩ = some u := ⟨_, A3.cell m (by rw [rowTo_len]; omega)⟩
            obtain ⟨u3, c3⟩ := c3
            have f3 := A3.open m
            have S := A3.stored m (F m)
            rw [rowTo_set 176 F m (by omega)] at S
            have ST := T3.far (g' := w.heap.size) (k := m) (.int .u8 (F m : Nat)) (by omega)
            have SB := B3.setCell (p := ⟨w.heap.size, m, none⟩) (Nat.le_refl _) (.int .u8 (F m : Nat))
            have hFm : F m = F q ^^^ tw F n k := by
              have := KS.out n k hlt hlk
              rw [show 16 + 4 * n + k = m by omega, show 4 * n + k = q by omega] at this
              exact this
            have y1 := KL.out q
            have y2 := KT.out k
            have E : bits .xor .u8 (F q : Nat) (tw F n k : Nat) = ((F m : Nat) : Int) := by rw [xor8 _ _ y1 y2, hFm]
            have e1 : (i : Int) + (k : Int) = (m : Int) := by omega
            have e2 : (m : Int) - 16 = (q : Int) := by omega
            have m1 : (m : Int) < 176 := by omega
            have m0 : (0 : Int) ≤ (m : Int) := by omega
            have q1 : (q : Int) < 176 := by omega
            have q0 : (0 : Int) ≤ (q : Int) := by omega
            have k0 : (0 : Int) ≤ (k : Int) := by omega
            have k1 : (k : Int) < 4 := by omega
            have v1 : IntKind.i64.wrap (m : Int) = (m : Int) := by rw [IntKind.wrap_i64]; omega
            have v2 : IntKind.i64.wrap (q : Int) = (q : Int) := by rw [IntKind.wrap_i64]; omega
            have Hm := hid hm
            replace S := hid S
            replace ST := hid ST
            replace SB := hid SB
            clear A3 T3 B3 hm hq hi' hFm
            generalize F q = z1 at *
            generalize tw F n k = z2 at *
            generalize F m = z3 at *
            go_wp2_with fail
            refine wp_region_still_tail 16 (by kernel_rfl) (by kernel_rfl) ?_
            change wpStill _ _ (World.drew _) (fun a' => wpList _ _ _ _ a' (World.drew _)) _ _
            simp only [List.take_succ_cons, List.take_zero, List.drop_succ_cons, List.drop_zero]
            repeat still_step
            refine wpStill_nil ?_
            go_wp2
            exact ⟨⟨k + 1, hlk, num_succ k, ST.out.drew, by rw [show i + (k + 1) = m + 1 by have := Hm.out; omega]; exact S.out.drew, SB.out.drew⟩, meas 4 k hlk⟩
          · have hk44 : k = 4 := by omega
            subst hk44
            have hi' := Hi.out
            go_wp2
            refine ⟨⟨n + 1, _, _, by omega, int_i64 (by omega), rfl, rfl, rfl, by rw [show 16 + 4 * (n + 1) = i + 4 by omega]; exact A3, B3⟩, ?_⟩
            simp [intOf]
            omega
    · have hn40 : n = 40 := by omega
      subst hn40
      rw [← HF.out] at A
      go_wp2
      go_ret
      exact ⟨rfl, A, hB⟩
end Go.Proofs.YtckgjghpfjinfakGreat.W

namespace Go.Proofs.YtckgjghpfjinfakGreat.W
open Go.ChangeShapes Go.WideShapes Go.ChangeAt Go.RowKit
open Go.Proofs.YtckgjghpfjinfakGreat.M

theorem mul8 (n : Nat) (h : n ≤ 1000) : IntKind.i64.wrap (8 * (n : Int)) = 8 * (n : Int) := by rw [IntKind.wrap_i64]; omega
theorem pack8 (n : Nat) (w : World) (h : n ≤ 1000) :
    Calls Tryz.prog 54 #[.int .i64 (8 * (n : Int)), .int .i64 8] w fun e w' => ∃ v, e = .returned v ∧ Own w' w.heap.size v (packL (8 * n) 8) ∧ Below w.heap.size w w' := by
  have q := l1pack (8 * n) 8 w (by omega) (by omega) (by omega)
  rw [show ((8 * n : Nat) : Int) = 8 * (n : Int) by omega] at q
  exact q.mono fun e w' ⟨h1, h2, h3⟩ => ⟨_, h1, h2, h3⟩
theorem app_below {w w' w0 : World} {base B : Nat} {v : Value} {l : List Nat} (hO : Own w base v l) (hG : w.grownBy w' v.ownBlock) (hB : Below B w0 w) (hb : B ≤ base) (hz : B ≤ w.heap.size) : Below B w0 w' := hB.grown hG hz (hO.row hb)

set_option maxHeartbeats 2000000 in
set_option maxRecDepth 100000 in
theorem l3tag (gk : Nat) (F : Nat → Nat) (vn ve vc : Value) (n e c : List Nat) (w : World) (hK : Ar w gk 5 (rowTo 176 F 176)) (hF : ∀ j, F j < 256) (hn : Rd w vn n) (he : Rd w ve e) (hc : Rd w vc c) (yn : Byt n) (ye : Byt e) (yc : Byt c) (nn : n.length = 12) (ne : e.length ≤ 101) (nc : c.length ≤ 700) :
    Calls Tryz.prog 59 #[.slice (some ⟨gk, 0, none⟩) 176 176, vn, ve, vc] w fun r w' => ∃ v, r = .returned v ∧ Own w' w.heap.size v (tg F n e c) ∧ Below w.heap.size w w' := by
  obtain ⟨i0, hi, hz0, hz1, hz2⟩ := info_parts info8
  obtain ⟨p1, c1, rfl, -, -, -⟩ := hn.parts
  obtain ⟨p2, c2, rfl, -, -, -⟩ := he.parts
  obtain ⟨p3, c3, rfl, -, -, -⟩ := hc.parts
  have HK := hid hK
  have HKL := hid hK.lt
  have HN := hid hn
  have HE := hid he
  have HC := hid hc
  have NN := hid nn
  have NE := hid ne
  have NC := hid nc
  clear hK hn he hc nn ne nc
  go_enter Tryz.func59, Tryz.ntmps59
  go_wp2_with (at_make; refine wpList_make_full _ rfl _ _ 25 rfl w.heap.size 5 i0 (.int .u8 0) 1 Tryz.underlying25 hi hz0 hz1 .i64 .i64 _ _ 16 rfl rfl rfl rfl (by rw [hz2]; omega) (by unfold maxLen; omega) (Nat.le_refl _) ?_; intro w0 hown0 hgrow0)
  have Z0 := hid (show Own w0 w.heap.size (.slice (some ⟨w.heap.size, 0, none⟩) 16 16) (zs 16) from own_made w w0 16 hown0)
  have B0 := hid (below_of_grown hgrow0 (Nat.le_refl _) (fun k hk => by simp at hk))
  clear hown0 hgrow0 hi hz0 hz1 hz2
  refine (l2enc _ (zs 16) F gk _ Z0.out.rd (zs_byt 16) (zs_len 16) (HK.out.keep B0.out HKL.out) hF).mono ?_
  rintro r w1 ⟨vh, rfl, OH, hM⟩
  obtain ⟨bh, ch, rfl, hh1, hh2⟩ := own_spot OH (by rw [show (enc F (zs 16)).length = 16 from stt_len F _ (zs_len 16) 10]; omega)
  rw [show (enc F (zs 16)).length = 16 from stt_len F _ (zs_len 16) 10] at OH ⊢
  have RH := hid OH.rd
  have B1 := hid (B0.out.trans (hM.mono B0.out.size))
  clear OH hM Z0 B0 hh1 hh2
  go_wp2_with fail
  refine (l3whole _ e _ (HE.out.below B1.out) (by have := NE.out; omega)).mono ?_
  rintro r w2 ⟨v2, rfl, O2, hM⟩
  replace O2 := hid O2
  have H2 := hid hM
  have B2 := hid (B1.out.trans (hM.mono B1.out.size))
  clear hM
  have LE := hid (whole_len e)
  have LC := hid (whole_len c)
  have m1 := mul8 e.length (by have := NE.out; omega)
  have m2 := mul8 c.length (by have := NC.out; omega)
  go_wp2_with fail
  refine (l3whole _ c _ (HC.out.below B2.out) (by have := NC.out; omega)).mono ?_
  rintro r w3 ⟨v3, rfl, O3, hM⟩
  have P3 := hid (O2.out.below hM)
  have R3 := hid O3.rd
  have H3 := hid (H2.out.trans (hM.mono H2.out.size))
  have B3 := hid (B2.out.trans (hM.mono B2.out.size))
  clear hM O2 H2 B2 O3
  go_wp2_with (at_builtin; refine list_app rfl _ _ rfl _ _ (whole e) (whole c) w1.heap.size rfl rfl P3.out R3.out (by rw [LE.out, LC.out]; have := NE.out; have := NC.out; omega) (H3.out.size) ?_; intro v4 w4 O4 G4)
  have H4 := hid (app_below P3.out G4 H3.out (Nat.le_refl _) H3.out.size)
  have B4 := hid (app_below P3.out G4 B3.out B1.out.size B3.out.size)
  replace O4 := hid O4
  clear G4 P3 R3 H3 B3
  refine (pack8 e.length _ (by have := NE.out; omega)).mono ?_
  rintro r w5 ⟨v5, rfl, O5, hM⟩
  have P5 := hid (O4.out.below hM)
  have R5 := hid O5.rd
  have H5 := hid (H4.out.trans (hM.mono H4.out.size))
  have B5 := hid (B4.out.trans (hM.mono B4.out.size))
  clear hM O4 H4 B4 O5
  go_wp2_with (at_builtin; refine list_app rfl _ _ rfl _ _ (whole e ++ whole c) (packL (8 * e.length) 8) w1.heap.size rfl rfl P5.out R5.out (by rw [List.length_append, packL_len, LE.out, LC.out]; have := NE.out; have := NC.out; omega) (H5.out.size) ?_; intro v6 w6 O6 G6)
  have H6 := hid (app_below P5.out G6 H5.out (Nat.le_refl _) H5.out.size)
  have B6 := hid (app_below P5.out G6 B5.out B1.out.size B5.out.size)
  replace O6 := hid O6
  clear G6 P5 R5 H5 B5
  refine (pack8 c.length _ (by have := NC.out; omega)).mono ?_
  rintro r w7 ⟨v7, rfl, O7, hM⟩
  have P7 := hid (O6.out.below hM)
  have R7 := hid O7.rd
  have H7 := hid (H6.out.trans (hM.mono H6.out.size))
  have B7 := hid (B6.out.trans (hM.mono B6.out.size))
  clear hM O6 H6 B6 O7
  go_wp2_with (at_builtin; refine list_app rfl _ _ rfl _ _ (whole e ++ whole c ++ packL (8 * e.length) 8) (packL (8 * c.length) 8) w1.heap.size rfl rfl P7.out R7.out (by rw [List.length_append, List.length_append, packL_len, packL_len, LE.out, LC.out]; have := NE.out; have := NC.out; omega) (H7.out.size) ?_; intro v8 w8 O8 G8)
  have H8 := hid (app_below P7.out G8 H7.out (Nat.le_refl _) H7.out.size)
  have B8 := hid (app_below P7.out G8 B7.out B1.out.size B7.out.size)
  replace O8 := hid (show Own w8 w1.heap.size v8 (thash e c) from O8)
  clear G8 P7 R7 H7 B7
  refine (l3first _ n _ (HN.out.below B8.out) (by rw [NN.out]; omega)).mono ?_
  rintro r w9 ⟨v9, rfl, O9, hM⟩
  have P9 := hid (O8.out.below hM)
  have R9 := hid O9.rd
  have H9 := hid (H8.out.trans (hM.mono H8.out.size))
  have B9 := hid (B8.out.trans (hM.mono B8.out.size))
  clear hM O8 H8 B8 O9
  go_wp2_with fail
  refine (l2enc _ (jb n) F gk _ R9.out (jb_byt n yn) (jb_len n NN.out) (HK.out.keep B9.out HKL.out) hF).mono ?_
  rintro r w10 ⟨v10, rfl, O10, hM⟩
  have P10 := hid (P9.out.below hM)
  have R10 := hid O10
  have H10 := hid (H9.out.trans (hM.mono H9.out.size))
  have B10 := hid (B9.out.trans (hM.mono B9.out.size))
  clear hM P9 R9 H9 B9 O10
  go_wp2_with fail
  refine (l3hash _ _ (enc F (zs 16)) (thash e c) _ (RH.out.below H10.out) P10.out.rd (stt_byt F hF _ (zs_byt 16) 10) (thash_byt e c ye yc) (stt_len F _ (zs_len 16) 10) (by rw [thash_len, LE.out, LC.out]; have := NE.out; have := NC.out; omega)).mono ?_
  rintro r w11 ⟨g11, rfl, O11, hM⟩
  have R11 := hid (R10.out.below hM)
  have Q11 := hid O11
  have B11 := hid (B10.out.trans (hM.mono B10.out.size))
  clear hM P10 R10 H10 B10 O11
  go_wp2_with fail
  refine (l1xor _ _ (enc F (jb n)) (hshB (enc F (zs 16)) (thash e c)) _ R11.out.rd Q11.out.rd (stt_byt F hF _ (jb_byt n yn) 10) (hshB_byt _ _) (by rw [show (enc F (jb n)).length = 16 from stt_len F _ (jb_len n NN.out) 10]; omega) (by rw [show (enc F (jb n)).length = 16 from stt_len F _ (jb_len n NN.out) 10, hshB_len])).mono ?_
  rintro r w12 ⟨v12, rfl, O12, hM⟩
  have O13 := hid (O12.mono (base' := w.heap.size) B11.out.size)
  have B12 := hid (B11.out.trans (hM.mono B11.out.size))
  clear hM O12
  go_wp2
  go_ret
  exact ⟨v12, rfl, O13.out, B12.out⟩
end Go.Proofs.YtckgjghpfjinfakGreat.W

namespace Go.Proofs.YtckgjghpfjinfakGreat.W
open Go.ChangeShapes Go.WideShapes Go.ChangeAt Go.RowKit
open Go.Proofs.YtckgjghpfjinfakGreat.M

set_option maxHeartbeats 1000000 in
set_option maxRecDepth 100000 in
theorem l3seal (vk vn ve vp : Value) (k n e p : List Nat) (w : World) (hk : Rd w vk k) (hn : Rd w vn n) (he : Rd w ve e) (hp : Rd w vp p) (yk : Byt k) (yn : Byt n) (ye : Byt e) (yp : Byt p) (nk : k.length = 16) (nn : n.length = 12) (ne : e.length ≤ 101) (np : p.length ≤ 700) :
    Calls Tryz.prog 40 #[vk, vn, ve, vp] w fun r w' => ∃ v, r = .returned v ∧ Own w' w.heap.size v (sld (kf k) n e p) ∧ Below w.heap.size w w' := by
  obtain ⟨p1, c1, rfl, -, -, -⟩ := hk.parts
  obtain ⟨p2, c2, rfl, -, -, -⟩ := hn.parts
  obtain ⟨p3, c3, rfl, -, -, -⟩ := he.parts
  obtain ⟨p4, c4, rfl, -, -, -⟩ := hp.parts
  have HN := hid hn
  have HE := hid he
  have HP := hid hp
  have HKy := hid hk
  have NK := hid nk
  have NN := hid nn
  have NE := hid ne
  have NP := hid np
  have HF := hid (kf_lt k yk)
  clear hk hn he hp nk nn ne np
  go_enter Tryz.func40, Tryz.ntmps40
  go_wp2_with fail
  refine (l2keys _ k _ HKy.out yk NK.out).mono ?_
  rintro r w1 ⟨rfl, K1, hM⟩
  have B1 := hid hM
  have K1 := hid K1
  have KL := hid (K1.out.lt)
  clear hM
  go_wp2_with fail
  refine (l3first _ n _ (HN.out.below B1.out) (by rw [NN.out]; omega)).mono ?_
  rintro r w2 ⟨v2, rfl, O2, hM⟩
  have R2 := hid O2.rd
  have K2 := hid (K1.out.below hM)
  have B2 := hid (B1.out.trans (hM.mono B1.out.size))
  clear hM O2 K1 B1
  go_wp2_with fail
  refine (l3count _ (jb n) _ R2.out (jb_byt n yn) (jb_len n NN.out)).mono ?_
  rintro r w3 ⟨v3, rfl, O3, hM⟩
  have R3 := hid O3.rd
  have K3 := hid (K2.out.below hM)
  have B3 := hid (B2.out.trans (hM.mono B2.out.size))
  clear hM O3 K2 B2 R2
  go_wp2_with fail
  refine (l3stream _ (kf k) _ _ (cu (jb n)) p _ K3.out HF.out R3.out (cu_len _ (jb_len n NN.out)) (cu_byt _ (jb_byt n yn)) (HP.out.below B3.out) yp (by have := NP.out; omega)).mono ?_
  rintro r w4 ⟨v4, rfl, O4, hM⟩
  replace O4 := hid (show Own w4 w3.heap.size v4 (hid1 (kf k) n p) from O4)
  have K4 := hid (K3.out.below hM)
  have B4 := hid (B3.out.trans (hM.mono B3.out.size))
  have Z3 := hid B3.out.size
  have Z34 := hid hM.size
  clear hM K3 B3 R3
  have HL := hid (show (hid1 (kf k) n p).length = p.length from strm_len _ _ _)
  go_wp2_with fail
  refine (l3tag _ (kf k) _ _ _ n e (hid1 (kf k) n p) _ K4.out HF.out (HN.out.below B4.out) (HE.out.below B4.out) O4.out.rd yn ye (strm_byt _ HF.out _ _ (cu_byt _ (jb_byt n yn)) yp) NN.out NE.out (by rw [HL.out]; exact NP.out)).mono ?_
  rintro r w5 ⟨v5, rfl, O5, hM⟩
  have P5 := hid (O4.out.below hM)
  have R5 := hid O5.rd
  have B5 := hid (B4.out.trans (hM.mono B4.out.size))
  have Z5 := hid (Nat.le_trans Z34.out hM.size)
  clear hM O4 B4 O5 K4
  go_wp2_with (at_builtin; refine list_app rfl _ _ rfl _ _ (hid1 (kf k) n p) (tg (kf k) n e (hid1 (kf k) n p)) w3.heap.size rfl rfl P5.out R5.out (by rw [HL.out, tg_len _ _ _ _ NN.out]; have := NP.out; omega) Z5.out ?_; intro v6 w6 O6 G6)
  have B6 := hid (app_below P5.out G6 B5.out Z3.out B5.out.size)
  have O7 := hid (show Own w6 w.heap.size v6 (sld (kf k) n e p) from O6.mono Z3.out)
  clear G6 O6
  go_wp2
  go_ret
  exact ⟨v6, rfl, O7.out, B6.out⟩
end Go.Proofs.YtckgjghpfjinfakGreat.W

namespace Go.Proofs.YtckgjghpfjinfakGreat.W
open Go.ChangeShapes Go.WideShapes Go.ChangeAt Go.RowKit
open Go.Proofs.YtckgjghpfjinfakGreat.M

theorem copyR (v : Value) (l : List Nat) (n : Nat) (w : World) (h : Rd w v l) (hn : l.length = n) (h0 : 0 < n) (hl : n ≤ 1048576) :
    Calls Tryz.prog 39 #[v] w fun e w' => ∃ v', e = .returned v' ∧ Own w' w.heap.size v' l ∧ Below w.heap.size w w' := by
  obtain ⟨i0, hi, hz0, hz1, hz2⟩ := info_parts info8
  obtain ⟨b, o, cap, rfl, -, -⟩ := h.spot (by omega)
  have hO0 := own_lit0 w
  have HC := hid (fun k (hk : k < l.length) => h.cells k hk)
  clear h
  rw [hn]
  go_enter Tryz.func39, Tryz.ntmps39
  go_wp2_with (at_builtin; refine wpList_append_own _ rfl _ _ _ rfl w.heap.size 5 i0 (.int .u8 0) 1 1 Tryz.underlying25 hi hz0 hz1 hz2 rfl (by omega) _ _ _ rfl hO0 ⟨b, o, none⟩ n cap (l.map bv) rfl (by simp [hn]) ?_ ?_ ?_ ?_ ?_ ?_)
  · intro j u hj
    have hj' : j < l.length := by
      rcases Nat.lt_or_ge j l.length with q | q
      · exact q
      · rw [List.getElem?_eq_none (by simpa using q)] at hj; cases hj
    rw [List.getElem?_map, List.getElem?_eq_getElem hj'] at hj
    cases hj
    have q := HC.out j hj'
    rw [gt_eq l j hj'] at q
    rw [Addr.add_lit]
    exact cell_alloc q _
  · intro u hu
    obtain ⟨x, _, rfl⟩ := List.mem_map.1 hu
    rfl
  · unfold maxLen; simp; omega
  · simp; omega
  · simp
  · intro v' w1 hown1 hgrow1 _
    have hO1 : Own w1 w.heap.size v' l := by
      unfold Own
      rw [hn]
      simpa using hown1
    have hB1 : Below w.heap.size w w1 := (below_alloc1 w _).grown hgrow1 (by simp) (fun x e => by simp [Value.ownBlock] at e; omega)
    clear hown1 hgrow1 hO0
    go_wp2
    go_ret
    exact ⟨v', rfl, hO1, hB1⟩
end Go.Proofs.YtckgjghpfjinfakGreat.W

namespace Go.Proofs.YtckgjghpfjinfakGreat.W
open Go.ChangeShapes Go.WideShapes Go.ChangeAt Go.RowKit
open Go.Proofs.YtckgjghpfjinfakGreat.M

set_option maxHeartbeats 2000000 in
set_option maxRecDepth 100000 in
theorem l5seal (vk vt : Value) (key l : List Nat) (k s n g : Nat) (w : World) (hV : w.heap[g]? = some (.cells #[.int .i64 (k : Int), .int .i64 (s : Int), .int .i64 (n : Int), vt] 37)) (hk : Rd w vk key) (ht : Rd w vt l) (yk : Byt key) (yl : Byt l) (nk : key.length = 16) (nl : l.length ≤ 300) (h1 : k ≤ 255) (h2 : s ≤ 15) (h3 : n ≤ 1000000000) :
    Calls Tryz.prog 22 #[vk, .pointer (some ⟨g, 0, none⟩)] w fun e w' => ∃ v, e = .returned v ∧ Own w' w.heap.size v (sB key (k : Int) (s : Int) (n : Int) l) ∧ Below w.heap.size w w' := by
  have V := hid hV
  have HK := hid hk
  have HT := hid ht
  obtain ⟨a, cap, rfl, -, -, -⟩ := hk.parts
  obtain ⟨b, cap2, rfl, -, -, -⟩ := ht.parts
  have YK := hid yk
  have YL := hid yl
  have NK := hid nk
  clear hV hk ht yk yl nk
  go_enter Tryz.func22, Tryz.ntmps22
  go_wp2_with fail
  refine (l5headof k s n _ g _ V.out h1 h2 h3).mono ?_
  rintro e w1 ⟨vh, rfl, hO, hB⟩
  have RH := hid hO.rd
  obtain ⟨ph, kh, rfl, -, -, -⟩ := hO.rd.parts
  replace V := hid (var_below hB V.out)
  replace HK := hid (HK.out.below hB)
  replace HT := hid (HT.out.below hB)
  have BB := hid hB
  clear hO hB
  obtain ⟨⟨c0, c1, c2, c3⟩, -⟩ := var4_facts V.out
  go_wp2_with fail
  refine wp_region_held_drew (S := fun w' => Below w1.heap.size w1 w') (by kernel_rfl) (Below.refl _ _).drew (fun hH => ?_)
  replace RH := hid (show Rd w1.drew _ _ from RH.out)
  replace HK := hid (show Rd w1.drew _ _ from HK.out)
  replace HT := hid (show Rd w1.drew _ _ from HT.out)
  generalize w1.drew = x at hH RH HK HT ⊢
  refine wpAnyH_take (i := 0) (v := .slice ph (headL k s n).length kh) (by simp only [List.getElem?_toArray, List.getElem?_cons_zero]; rfl) (by kernel_rfl) (by kernel_rfl) (by kernel_rfl) (by intro _ _ _ h; exact h) (Or.inl ⟨by rfl, fun w hS => by go_simp⟩) hH ?_
  simp only [Act.put, List.setIfInBounds_toArray, List.set_cons_zero, List.set_cons_succ]
  refine wpAnyH_take (i := 2) (v := .slice a key.length cap) (by simp only [List.getElem?_toArray, List.getElem?_cons_succ, List.getElem?_cons_zero]; rfl) (by kernel_rfl) (by kernel_rfl) (by kernel_rfl) (by intro _ _ _ h; exact h) (Or.inl ⟨by rfl, fun w hS => by go_simp⟩) hH ?_
  simp only [Act.put, List.setIfInBounds_toArray, List.set_cons_zero, List.set_cons_succ]
  refine wpAnyH_take (i := 3) (v := .pointer (some ⟨g, 0, none⟩)) (by simp only [List.getElem?_toArray, List.getElem?_cons_succ, List.getElem?_cons_zero]; rfl) (by kernel_rfl) (by kernel_rfl) (by kernel_rfl) (by intro _ _ _ h; exact h) (Or.inl ⟨by rfl, fun w hS => by go_simp⟩) hH ?_
  simp only [Act.put, List.setIfInBounds_toArray, List.set_cons_zero, List.set_cons_succ]
  refine wpAnyH_take (i := 4) (v := .pointer (some ⟨g, 0, none⟩)) (by simp only [List.getElem?_toArray, List.getElem?_cons_succ, List.getElem?_cons_zero]; rfl) (by kernel_rfl) (by kernel_rfl) (by kernel_rfl) (by intro _ _ _ h; exact h) (Or.inl ⟨by rfl, fun w hS => by go_simp⟩) hH ?_
  simp only [Act.put, List.setIfInBounds_toArray, List.set_cons_zero, List.set_cons_succ]
  refine wpAnyH_take (i := 5) (v := .pointer (some ⟨g, 1, none⟩)) (by simp only [List.getElem?_toArray, List.getElem?_cons_succ, List.getElem?_cons_zero]; rfl) (by kernel_rfl) (by kernel_rfl) (by kernel_rfl) (by intro _ _ _ h; exact h) (Or.inl ⟨by rfl, fun w hS => by go_simp⟩) hH ?_
  simp only [Act.put, List.setIfInBounds_toArray, List.set_cons_zero, List.set_cons_succ]
  refine wpAnyH_take (i := 6) (v := .int .i64 (s : Int)) (by simp only [List.getElem?_toArray, List.getElem?_cons_succ, List.getElem?_cons_zero]; rfl) (by kernel_rfl) (by kernel_rfl) (by kernel_rfl) (by intro _ _ _ h; exact h) (Or.inl ⟨by rfl, fun w hS => by (have y0 := cell_kept hS c1; go_simp)⟩) hH ?_
  simp only [Act.put, List.setIfInBounds_toArray, List.set_cons_zero, List.set_cons_succ]
  refine wpAnyH_take (i := 7) (v := .pointer (some ⟨g, 0, none⟩)) (by simp only [List.getElem?_toArray, List.getElem?_cons_succ, List.getElem?_cons_zero]; rfl) (by kernel_rfl) (by kernel_rfl) (by kernel_rfl) (by intro _ _ _ h; exact h) (Or.inl ⟨by rfl, fun w hS => by go_simp⟩) hH ?_
  simp only [Act.put, List.setIfInBounds_toArray, List.set_cons_zero, List.set_cons_succ]
  refine wpAnyH_take (i := 8) (v := .pointer (some ⟨g, 0, none⟩)) (by simp only [List.getElem?_toArray, List.getElem?_cons_succ, List.getElem?_cons_zero]; rfl) (by kernel_rfl) (by kernel_rfl) (by kernel_rfl) (by intro _ _ _ h; exact h) (Or.inl ⟨by rfl, fun w hS => by go_simp⟩) hH ?_
  simp only [Act.put, List.setIfInBounds_toArray, List.set_cons_zero, List.set_cons_succ]
  refine wpAnyH_take (i := 9) (v := .pointer (some ⟨g, 2, none⟩)) (by simp only [List.getElem?_toArray, List.getElem?_cons_succ, List.getElem?_cons_zero]; rfl) (by kernel_rfl) (by kernel_rfl) (by kernel_rfl) (by intro _ _ _ h; exact h) (Or.inl ⟨by rfl, fun w hS => by go_simp⟩) hH ?_
  simp only [Act.put, List.setIfInBounds_toArray, List.set_cons_zero, List.set_cons_succ]
  refine wpAnyH_take (i := 10) (v := .int .i64 (n : Int)) (by simp only [List.getElem?_toArray, List.getElem?_cons_succ, List.getElem?_cons_zero]; rfl) (by kernel_rfl) (by kernel_rfl) (by kernel_rfl) (by intro _ _ _ h; exact h) (Or.inl ⟨by rfl, fun w hS => by (have y0 := cell_kept hS c2; go_simp)⟩) hH ?_
  simp only [Act.put, List.setIfInBounds_toArray, List.set_cons_zero, List.set_cons_succ]
  refine wpAnyH_take (i := 12) (v := .slice ph (headL k s n).length kh) (by simp only [List.getElem?_toArray, List.getElem?_cons_succ, List.getElem?_cons_zero]; rfl) (by kernel_rfl) (by kernel_rfl) (by kernel_rfl) (by intro _ _ _ h; exact h) (Or.inl ⟨by rfl, fun w hS => by go_simp⟩) hH ?_
  simp only [Act.put, List.setIfInBounds_toArray, List.set_cons_zero, List.set_cons_succ]
  refine wpAnyH_take (i := 13) (v := .pointer (some ⟨g, 0, none⟩)) (by simp only [List.getElem?_toArray, List.getElem?_cons_succ, List.getElem?_cons_zero]; rfl) (by kernel_rfl) (by kernel_rfl) (by kernel_rfl) (by intro _ _ _ h; exact h) (Or.inl ⟨by rfl, fun w hS => by go_simp⟩) hH ?_
  simp only [Act.put, List.setIfInBounds_toArray, List.set_cons_zero, List.set_cons_succ]
  refine wpAnyH_take (i := 14) (v := .pointer (some ⟨g, 0, none⟩)) (by simp only [List.getElem?_toArray, List.getElem?_cons_succ, List.getElem?_cons_zero]; rfl) (by kernel_rfl) (by kernel_rfl) (by kernel_rfl) (by intro _ _ _ h; exact h) (Or.inl ⟨by rfl, fun w hS => by go_simp⟩) hH ?_
  simp only [Act.put, List.setIfInBounds_toArray, List.set_cons_zero, List.set_cons_succ]
  refine wpAnyH_take (i := 15) (v := .pointer (some ⟨g, 3, none⟩)) (by simp only [List.getElem?_toArray, List.getElem?_cons_succ, List.getElem?_cons_zero]; rfl) (by kernel_rfl) (by kernel_rfl) (by kernel_rfl) (by intro _ _ _ h; exact h) (Or.inl ⟨by rfl, fun w hS => by go_simp⟩) hH ?_
  simp only [Act.put, List.setIfInBounds_toArray, List.set_cons_zero, List.set_cons_succ]
  refine wpAnyH_take (i := 16) (v := .slice b l.length cap2) (by simp only [List.getElem?_toArray, List.getElem?_cons_succ, List.getElem?_cons_zero]; rfl) (by kernel_rfl) (by kernel_rfl) (by kernel_rfl) (by intro _ _ _ h; exact h) (Or.inl ⟨by rfl, fun w hS => by (have y0 := cell_kept hS c3; go_simp)⟩) hH ?_
  simp only [Act.put, List.setIfInBounds_toArray, List.set_cons_zero, List.set_cons_succ]
  refine wpAnyH_ready (rs := [1]) (by kernel_rfl) (by simp) ?_
  refine AllReadyH.cons (by simp only [List.getElem?_toArray, List.getElem?_cons_succ, List.getElem?_cons_zero]; rfl) (fun K hK => ?_) AllReadyH.nil
  go_simp
  refine (copyR _ (headL k s n) 11 _ RH.out (headL_len _ _ _) (by omega) (by omega)).mono ?_
  rintro e x1 ⟨v1, rfl, hO, hM⟩
  obtain ⟨p1, k1, rfl, -, -, -⟩ := hO.rd.parts
  have SB := hid hH.size
  refine hK.out _ _ (hH.trans (hM.mono hH.size)) (fun hH => ?_)
  clear hK K
  replace RH := hid (RH.out.below hM)
  replace HK := hid (HK.out.below hM)
  replace HT := hid (HT.out.below hM)
  have OC := hid (hO.mono (base' := w1.heap.size) SB.out)
  clear hM SB
  refine wpAnyH_ready (rs := [11]) (by kernel_rfl) (by simp) ?_
  refine AllReadyH.cons (by simp only [List.getElem?_toArray, List.getElem?_cons_succ, List.getElem?_cons_zero]; rfl) (fun K hK => ?_) AllReadyH.nil
  go_simp
  refine (l5nonce s n _ h2 h3).mono ?_
  rintro e x11 ⟨v11, rfl, hO, hM⟩
  obtain ⟨p11, k11, rfl, -, -, -⟩ := hO.rd.parts
  have SB := hid hH.size
  refine hK.out _ _ (hH.trans (hM.mono hH.size)) (fun hH => ?_)
  clear hK K
  replace RH := hid (RH.out.below hM)
  replace HK := hid (HK.out.below hM)
  replace HT := hid (HT.out.below hM)
  replace OC := hid (OC.out.below hM)
  have RN := hid (hO.rd)
  clear hM SB
  refine wpAnyH_ready (rs := [17]) (by kernel_rfl) (by simp) ?_
  refine AllReadyH.cons (by simp only [List.getElem?_toArray, List.getElem?_cons_succ, List.getElem?_cons_zero]; rfl) (fun K hK => ?_) AllReadyH.nil
  go_simp
  refine (l3seal _ _ _ _ key (nonceL s n) (headL k s n) l _ HK.out RN.out RH.out HT.out YK.out (nonceL_byt _ _) (headL_byt _ _ _ (by omega) (by omega)) YL.out NK.out (nonceL_len _ _) (by rw [headL_len]; omega) (by omega)).mono ?_
  rintro e x17 ⟨v17, rfl, hO, hM⟩
  have SB := hid hH.size
  refine hK.out _ _ (hH.trans (hM.mono hH.size)) (fun hH => ?_)
  clear hK K
  replace RH := hid (RH.out.below hM)
  replace HK := hid (HK.out.below hM)
  replace HT := hid (HT.out.below hM)
  replace OC := hid (OC.out.below hM)
  replace RN := hid (RN.out.below hM)
  have RS := hid (hO.rd)
  clear hM SB
  refine wpAnyH_ready (rs := [18]) (by kernel_rfl) (by simp) ?_
  refine AllReadyH.cons (by simp only [List.getElem?_toArray, List.getElem?_cons_succ, List.getElem?_cons_zero]; rfl) (fun K hK => ?_) AllReadyH.nil
  refine step_app (by rfl) _ _ (by rfl) _ _ (headL k s n) (sld (kf key) (nonceL s n) (headL k s n) l) w1.heap.size (by rfl) (by rfl) OC.out RS.out (by rw [headL_len, sld_len _ _ _ _ (nonceL_len _ _)]; omega) hH.size ?_
  intro v18 x18 hO hG
  refine hK.out _ _ (hH.grown hG hH.size (OC.out.row (Nat.le_refl _))) (fun hH => ?_)
  clear hK K hG
  have O6 := hid hO
  clear hO
  refine wpAnyH_take (i := 19) (v := v18) (by simp only [List.getElem?_toArray, List.getElem?_cons_succ, List.getElem?_cons_zero]; rfl) (by kernel_rfl) (by kernel_rfl) (by kernel_rfl) (by intro _ _ _ h; exact h) (Or.inl ⟨by rfl, fun w hS => by go_simp⟩) hH ?_
  simp only [Act.put, List.setIfInBounds_toArray, List.set_cons_zero, List.set_cons_succ]
  refine wpAnyH_done (by kernel_rfl) ?_ _
  have BN := hid (BB.out.trans (hH.mono BB.out.size))
  clear hH c0 c1 c2 c3
  go_wp2
  go_ret
  exact ⟨_, rfl, O6.out.mono BB.out.size, BN.out⟩
end Go.Proofs.YtckgjghpfjinfakGreat.W
