/-
  The law of keys, out of the contracts of its callees.
-/
import Derived.Test.YtcmafbgfdddnnaaDrawKw
import Derived.Test.YtcmafbgfdddnnaaLwWalks
import Derived.Test.YtcmafbgfdddnnaaLxWalks
import Derived.Test.YtcmafbgfdddnnaaIkwWalks
import Derived.Test.YtcmafbgfdddnnaaSkwWalks
import Derived.Test.YtcmafbgfdddnnaaIrconWalks
import Derived.Test.YtcmafbgfdddnnaaRconWalks
import Derived.Test.YtcmafbgfdddnnaaSsubWalks
import Derived.Test.YtcmafbgfdddnnaaWdsM
import Derived.Test.YtcmafbgfdddnnaaAppM
import Derived.Lib.Bytes
import Derived.StillTailTactics
import Derived.Deep.RegionHeld3
namespace Go.Proofs.Ytcmafbgfdddnnaa.W
open Go.ChangeShapes Go.WideShapes Go.ChangeAt Go.RowKit
open Go.Proofs.Ytcmafbgfdddnnaa.M

theorem keepG {W a b : World} {p q : Nat} {x1 x2 z1 z2 : Value}
    (h : Below W.heap.size W a ∧ a.cell? ⟨p, 0, none⟩ = some x1 ∧ a.cell? ⟨p, 1, none⟩ = some x2 ∧ a.cell? ⟨q, 0, none⟩ = some z1 ∧ a.cell? ⟨q, 1, none⟩ = some z2) (hB : Below a.heap.size a b) :
    Below W.heap.size W b ∧ b.cell? ⟨p, 0, none⟩ = some x1 ∧ b.cell? ⟨p, 1, none⟩ = some x2 ∧ b.cell? ⟨q, 0, none⟩ = some z1 ∧ b.cell? ⟨q, 1, none⟩ = some z2 :=
  ⟨h.1.trans (hB.mono h.1.size), cell_kept hB h.2.1, cell_kept hB h.2.2.1, cell_kept hB h.2.2.2.1, cell_kept hB h.2.2.2.2⟩
theorem keepE {W a b : World} {p : Nat} {x1 x2 : Value}
    (h : Below W.heap.size W a ∧ a.cell? ⟨p, 0, none⟩ = some x1 ∧ a.cell? ⟨p, 1, none⟩ = some x2) (hB : Below a.heap.size a b) :
    Below W.heap.size W b ∧ b.cell? ⟨p, 0, none⟩ = some x1 ∧ b.cell? ⟨p, 1, none⟩ = some x2 :=
  ⟨h.1.trans (hB.mono h.1.size), cell_kept hB h.2.1, cell_kept hB h.2.2⟩
theorem sam_self (l : List Nat) : sameS l l = true := by simp [sameS]
/-- A word of the key's. -/
def wd (F : Nat → Nat) (k : Nat) : List Nat := (List.range 4).map fun i => F (4 * k + i)
def alls (F : Nat → Nat) (k : Nat) : List Nat := (List.range (4 * k)).map F
theorem wd_len (F : Nat → Nat) (k : Nat) : (wd F k).length = 4 := by simp [wd]
theorem alls_len (F : Nat → Nat) (k : Nat) : (alls F k).length = 4 * k := by simp [alls]
theorem wd_gt (F : Nat → Nat) (k i : Nat) (h : i < 4) : gt (wd F k) i = F (4 * k + i) := by
  rw [gt_eq _ i (by rw [wd_len]; exact h)]
  simp [wd]
theorem alls_succ (F : Nat → Nat) (k : Nat) : alls F (k + 1) = alls F k ++ wd F k := by
  unfold alls wd
  rw [show 4 * (k + 1) = 4 * k + 4 by omega, List.range_add, List.map_append, List.map_map]
  rfl
theorem list_gt {a b : List Nat} (hl : a.length = b.length) (h : ∀ i, i < a.length → gt a i = gt b i) : a = b := by
  apply List.ext_getElem hl
  intro i h1 h2
  have q := h i h1
  rw [gt_eq a i h1, gt_eq b i h2] at q
  exact q
theorem kws_wd (F : Nat → Nat) (k : Nat) (hk : k < 44) : sub (rowTo 176 F 176) (4 * k) 4 = wd F k := by
  have l1 : (sub (rowTo 176 F 176) (4 * k) 4).length = 4 := sub_len _ _ _ (by rw [rowTo_len]; omega)
  refine list_gt (by rw [l1, wd_len]) fun i hi => ?_
  rw [l1] at hi
  rw [sub_gt _ _ _ _ hi, rowTo_gt _ _ _ _ (by omega) (by omega), wd_gt _ _ _ hi]
theorem wd_byt (F : Nat → Nat) (h : ∀ j, F j < 256) (k : Nat) : Byt (wd F k) := by
  intro x hx
  obtain ⟨i, _, rfl⟩ := List.mem_map.1 hx
  exact h _
theorem alls_key (d : List Nat) (h : d.length = 16) : (alls (kf d) 44).take 16 = d := by
  refine list_gt (by simp [alls_len, h]) fun i hi => ?_
  have hi' : i < 16 := by simp [alls_len] at hi; omega
  have e : gt ((alls (kf d) 44).take 16) i = kf d i := by
    rw [gt_eq _ i hi]
    simp [alls]
  rw [e, kf_low d h i hi']
theorem wd_step (d : List Nat) (h : d.length = 16) (k : Nat) (h4 : 4 ≤ k) (hk : k < 44) (hm : ¬ k % 4 = 0) : xl (wd (kf d) (k - 4)) (wd (kf d) (k - 1)) = wd (kf d) k := by
  refine list_gt (by rw [xl_len, wd_len, wd_len]) fun i hi => ?_
  rw [xl_len, wd_len] at hi
  have s := kf_step d h (k - 4) i (by omega) hi
  rw [tw, if_neg (by omega)] at s
  have e : gt (xl (wd (kf d) (k - 4)) (wd (kf d) (k - 1))) i = gt (wd (kf d) (k - 4)) i ^^^ gt (wd (kf d) (k - 1)) i := by
    rw [gt_eq _ i (by rw [xl_len, wd_len]; exact hi), xl_at _ _ i _ (by rw [wd_len]; exact hi) (by rw [wd_len]; exact hi), gt_eq _ i (by rw [wd_len]; exact hi), gt_eq _ i (by rw [wd_len]; exact hi)]
  rw [e, wd_gt _ _ _ hi, wd_gt _ _ _ hi, wd_gt _ _ _ hi, show 4 * k + i = 16 + 4 * (k - 4) + i by omega, s, show 12 + 4 * (k - 4) + i = 4 * (k - 1) + i by omega]
theorem wd_lastF (F : Nat → Nat) (g : ∀ i, i < 4 → F (160 + i) = F (144 + i) ^^^ tw F 36 i) : xl (wd F 40) (wd F 36) = [sbx (F 157) ^^^ 54, sbx (F 158), sbx (F 159), sbx (F 156)] := by
  have c : ∀ a b : Nat, (a ^^^ b) ^^^ a = b := fun a b => by rw [Nat.xor_comm a b, Nat.xor_assoc, Nat.xor_self, Nat.xor_zero]
  have x9 : xtN 1 9 = 54 := by decide
  have t0 : tw F 36 0 = sbx (F 157) ^^^ 54 := by unfold tw; rw [if_pos (by decide), if_pos rfl, show 36 / 4 = 9 from rfl, x9]
  have t1 : tw F 36 1 = sbx (F 158) := by unfold tw; rw [if_pos (by decide), if_neg (by decide), Nat.xor_zero]
  have t2 : tw F 36 2 = sbx (F 159) := by unfold tw; rw [if_pos (by decide), if_neg (by decide), Nat.xor_zero]
  have t3 : tw F 36 3 = sbx (F 156) := by unfold tw; rw [if_pos (by decide), if_neg (by decide), Nat.xor_zero]
  refine list_gt (by rw [xl_len, wd_len]; rfl) fun i hi => ?_
  rw [xl_len, wd_len] at hi
  have e : gt (xl (wd F 40) (wd F 36)) i = gt (wd F 40) i ^^^ gt (wd F 36) i := by
    rw [gt_eq _ i (by rw [xl_len, wd_len]; exact hi), xl_at _ _ i _ (by rw [wd_len]; exact hi) (by rw [wd_len]; exact hi), gt_eq _ i (by rw [wd_len]; exact hi), gt_eq _ i (by rw [wd_len]; exact hi)]
  rw [e, wd_gt _ _ _ hi, wd_gt _ _ _ hi, show 4 * 40 + i = 160 + i by omega, g i hi, show 4 * 36 + i = 144 + i by omega, c]
  match i, hi with
  | 0, _ => rw [t0]; rfl
  | 1, _ => rw [t1]; rfl
  | 2, _ => rw [t2]; rfl
  | 3, _ => rw [t3]; rfl
theorem wd_last (d : List Nat) (h : d.length = 16) : xl (wd (kf d) 40) (wd (kf d) 36) = [sbx (kf d 157) ^^^ 54, sbx (kf d 158), sbx (kf d 159), sbx (kf d 156)] := by
  have g : ∀ i, i < 4 → kf d (160 + i) = kf d (144 + i) ^^^ tw (kf d) 36 i := fun i hi => by
    have s := kf_step d h 36 i (by omega) hi
    rw [show 16 + 4 * 36 + i = 160 + i by omega, show 4 * 36 + i = 144 + i by omega] at s
    exact s
  generalize kf d = F at *
  exact wd_lastF F g
theorem words_at {w : World} {F : Nat → Nat} {b o c : Nat} (h : RdS w (.slice (some ⟨b, o, none⟩) 44 c) (kws F 44)) (k : Nat) (hk : k < 44) : ∃ pu cu, w.cell? ⟨b, o + k, none⟩ = some (.slice pu 4 cu) ∧ Rd w (.slice pu 4 cu) (wd F k) := by
  obtain ⟨a, cap, e, -, -, hc⟩ := h
  obtain ⟨b', o', u, e', h1, h2⟩ := hc k (by simp [kws]; exact hk)
  have hw : (kws F 44)[k]'(by simp [kws]; exact hk) = wd F k := by simp [kws, kws_wd F k hk]
  rw [hw] at h2
  obtain ⟨pu, cu, rfl, -, -, -⟩ := h2.parts
  rw [wd_len] at h1 h2
  subst e'
  cases e
  exact ⟨pu, cu, h1, h2⟩
theorem idx_b (b o n c j : Nat) (hj : j < n) (w : World) : (Instr.indexAt 22 (.slice (some ⟨b, o, none⟩) n c) (.int .i64 (j : Int))).run Try.prog w = .ok (.pointer (some ⟨b, o + j, none⟩)) w := by
  have hs : ∀ w : World, (sizeOf (Try.prog.elem 22)).run Try.prog w = .ok 1 w := fun _ => by kernel_rfl
  rw [run_indexAt_slice (P := Try.prog) w 22 _ n c .i64 (j : Int) (by kernel_rfl)]
  simp [hs, hj, Result.andThen, Addr.add_lit]
theorem upto16 (a : Option Addr) (n c : Nat) (hk : 16 ≤ c) (w : World) :
    (Instr.slice 22 (.slice a n c) none (some (.int .i64 16)) none).run Try.prog w = .ok (.slice a 16 c) w := by
  have hs : ∀ w : World, (sizeOf (Try.prog.elem 22)).run Try.prog w = .ok 1 w := fun _ => by kernel_rfl
  have h := run_slice_h (P := Try.prog) (t := 22) (a := a) (len := n) (cap := c) (w := w) (by kernel_rfl) .i64 16 (by omega) (by omega)
  rw [h, hs]
  cases a with
  | none => simp [Result.andThen, sliced]
  | some x =>
    obtain ⟨b, o, t⟩ := x
    simp [Result.andThen, sliced, Addr.add]
theorem rd_first16 {w : World} {a : Option Addr} {n c : Nat} {l : List Nat} (h : Rd w (.slice a n c) l) (hk : 16 ≤ l.length) : Rd w (.slice a 16 c) (l.take 16) := by
  obtain ⟨a', c', e, h1, h2, hc⟩ := h
  have hl : (l.take 16).length = 16 := by rw [List.length_take]; omega
  cases e
  refine ⟨a, c, by rw [hl], by omega, h2, fun i hi => ?_⟩
  rw [hl] at hi
  obtain ⟨b, o, e', hcc⟩ := hc i (by omega)
  refine ⟨b, o, e', ?_⟩
  rw [hcc, List.getElem_take]
theorem rd_four (w : World) (a b c d : Nat) : Rd (w.alloc (.cells #[.int .u8 (a : Int), .int .u8 (b : Int), .int .u8 (c : Int), .int .u8 (d : Int)] 5)) (.slice (some ⟨w.heap.size, 0, none⟩) 4 4) [a, b, c, d] := by
  refine ⟨_, 4, rfl, by simp, by unfold maxLen; omega, fun i hi => ⟨w.heap.size, 0, rfl, ?_⟩⟩
  have h := heap_alloc_new w (.cells #[.int .u8 (a : Int), .int .u8 (b : Int), .int .u8 (c : Int), .int .u8 (d : Int)] 5)
  rw [Nat.zero_add, cell_of_row _ _ i _ _ _ h]
  match i, hi with
  | 0, _ => rfl
  | 1, _ => rfl
  | 2, _ => rfl
  | 3, _ => rfl
theorem idx_w (b o n c j : Nat) (hj : j < n) (w : World) : (Instr.indexAt 45 (.slice (some ⟨b, o, none⟩) n c) (.int .i64 (j : Int))).run Try.prog w = .ok (.pointer (some ⟨b, o + j, none⟩)) w := by
  have hs : ∀ w : World, (sizeOf (Try.prog.elem 45)).run Try.prog w = .ok 1 w := fun _ => by kernel_rfl
  rw [run_indexAt_slice (P := Try.prog) w 45 _ n c .i64 (j : Int) (by kernel_rfl)]
  simp [hs, hj, Result.andThen, Addr.add_lit]

set_option maxHeartbeats 16000000 in
set_option maxRecDepth 100000 in
theorem law_keys (v : Value) (l : List Nat) (w : World) (h : Rd w v l) (y : Byt l) :
    Calls Try.prog 5 #[v] w fun e w' => e = .returned (.bool true) ∧ Below w.heap.size w w' := by
  have RC := hid h
  obtain ⟨q, cap, rfl, _, _, _⟩ := h.parts
  clear h
  have hf0 : ∀ (x : Int) (p : Option Addr) (m cc : Nat) (w : World), (Instr.field 47 (.agg #[.int .i64 x, .slice p m cc]) 0).run Try.prog w = .ok (.int .i64 x) w := fun _ _ _ _ _ => by kernel_rfl
  by_cases hl : l.length ≤ 1048576
  · go_enter Try.func5, Try.ntmps5
    go_wp2_with (go_at_call 9; go_in)
    refine (drawKw _ l _ RC.out y hl).mono ?_
    rintro e w1 ⟨gk, ck, d, rfl, ld, yd, OD, hBel⟩
    replace RC := hid (RC.out.below hBel)
    have RK := OD.rd
    have HB := hid hBel
    clear OD hBel
    obtain ⟨nd, hnd⟩ : ∃ zz, zz = d.length := ⟨_, rfl⟩
    rw [← hnd] at RK ⊢
    have Hnd := hid hnd
    clear hnd
    replace RK := hid RK
    by_cases lk : d.length = 16
    · go_wp2_with fail
      refine (ikw_ok _ d _ RK.out yd lk).mono ?_
      rintro e w2 ⟨vr, vs, rfl, OW, hB⟩
      replace RC := hid (RC.out.below hB)
      replace RK := hid (RK.out.below hB)
      replace HB := hid (HB.out.trans (hB.mono HB.out.size))
      have RW := hid OW.rd
      clear hB OW
      obtain ⟨pW, cW, rfl, -, -, -⟩ := RW.out.parts
      rw [show (kws (kf d) 44).length = 44 by simp [kws]] at RW ⊢
      go_wp2_with fail
      have VW := hid (heap_alloc_new w2 (.cells #[.int .i64 0, .slice pW 44 cW] 47))
      have hA := below_alloc1 w2 (.cells #[.int .i64 0, .slice pW 44 cW] 47)
      replace RC := hid (RC.out.below hA)
      replace RK := hid (RK.out.below hA)
      replace RW := hid (RW.out.below hA)
      replace HB := hid (HB.out.trans (hA.mono HB.out.size))
      clear hA
      generalize w2.alloc (.cells #[.int .i64 0, .slice pW 44 cW] 47) = w2a at *
      generalize w2.heap.size = gW at *
      refine (drawRc _ l _ RC.out y hl).mono ?_
      rintro e w3 ⟨r, rfl, hB⟩
      replace RC := hid (RC.out.below hB)
      replace RK := hid (RK.out.below hB)
      replace RW := hid (RW.out.below hB)
      replace VW := hid (var_below hB VW.out)
      replace HB := hid (HB.out.trans (hB.mono HB.out.size))
      clear hB
      obtain ⟨a0, a1, -, -⟩ := var2_facts VW.out
      have C1 := hid (fun (wq : World) (hb : Below w3.heap.size w3 wq) => (skw_ok _ d wq (RK.out.below hb) yd lk).mono (R' := fun e w' => ∃ (p : Option Addr) (cc : Nat), e = .returned (.agg #[.int .i64 0, .slice p 44 cc]) ∧ Below wq.heap.size wq w') (fun e w' ⟨r, vs, he, ho, hb⟩ => by
        obtain ⟨p, cc, rfl, -, -, -⟩ := ho.rd.parts
        rw [show (kws (kf d) 44).length = 44 by simp [kws]] at he
        exact ⟨p, cc, he, hb⟩))
      go_wp2_with fail
      go_region_held3 (fun w' => Below w3.heap.size w3 w' ∧ w'.cell? ⟨gW, 0, none⟩ = some (.int .i64 0) ∧ w'.cell? ⟨gW, 1, none⟩ = some (.slice pW 44 cW))
        (first | exact ⟨(Below.refl _ _).drew, a0, a1⟩ | exact ⟨Below.refl _ _, a0, a1⟩ | exact keepE ‹_ ∧ _ ∧ _› hz)
        (first | (go_at_call 33; refine (C1.out _ (‹Below w3.heap.size w3 _ ∧ _›).1).mono ?_; rintro e wq1 ⟨p1, c1, rfl, hz⟩) | (go_at_call 34; refine (ircon _ _).mono ?_; rintro e wq2 ⟨rfl, hz⟩) | (go_at_call 35; refine (srcon _ _).mono ?_; rintro e wq3 ⟨rfl, hz⟩))
      have hS := (‹Below w3.heap.size w3 wq3 ∧ _›).1
      replace RC := hid (RC.out.below hS)
      replace RK := hid (RK.out.below hS)
      replace RW := hid (RW.out.below hS)
      replace VW := hid (var_below hS VW.out)
      replace HB := hid (HB.out.trans (hS.mono HB.out.size))
      clear hS C1 hz a0 a1
      obtain ⟨a0, a1, -, -⟩ := var2_facts VW.out
      obtain ⟨bW, oW, rfl⟩ : ∃ bW oW, pW = some ⟨bW, oW, none⟩ := by
        obtain ⟨a, cap, e, -, -, hc⟩ := RW.out
        obtain ⟨b', o', u, e', -, -⟩ := hc 0 (by simp [kws])
        cases e
        exact ⟨b', o', e'⟩
      have OA := hid (show Own (wq3.alloc (.cells #[] 5)) wq3.heap.size (.slice (some ⟨wq3.heap.size, 0, none⟩) 0 0) (alls (kf d) 0) from own_lit0 wq3)
      go_wp2_with fail
      go_loopw [6, 7] (fun s6 s7 ws => ∃ k : Nat, ∃ u : Value, k ≤ 44 ∧ s7 = .int .i64 k ∧ s6 = u ∧ Hid (Own ws wq3.heap.size u (alls (kf d) k)) ∧ Hid (Below wq3.heap.size wq3 ws)) (fun _ s7 _ => 44 - (intOf s7).toNat)
      case atStart => exact ⟨0, _, by omega, rfl, rfl, OA, hid (below_alloc1 wq3 _)⟩
      case round =>
        obtain ⟨k, u, hk, rfl, rfl, OL, BL⟩ := hrel
        clear OA
        by_cases hlt : k < 44
        · obtain ⟨pu, cu, hc, hu⟩ := words_at (RW.out.below BL.out) k hlt
          have b1 := cell_kept BL.out a1
          have RU := hid hu
          have I1 := idx_w bW oW 44 cW k hlt
          have k0 : (0 : Int) ≤ (k : Int) := by omega
          have k1 : (k : Int) < 44 := by omega
          clear a0 a1 hu
          go_wp2_with (at_builtin; refine list_app rfl _ _ rfl _ _ _ _ wq3.heap.size rfl rfl OL.out RU.out (by rw [alls_len, wd_len]; omega) BL.out.size ?_)
          intro v' w' hO hG
          have B2 := hid (BL.out.grown hG BL.out.size (OL.out.row (Nat.le_refl _)))
          rw [← alls_succ] at hO
          replace hO := hid hO
          clear hG OL BL
          go_wp2
          exact ⟨⟨k + 1, _, hlt, by go_num, rfl, hO, B2⟩, by simp [intOf]; omega⟩
        · have hke : k = 44 := by omega
          subst hke
          have hS := BL.out
          replace RC := hid (RC.out.below hS)
          replace RK := hid (RK.out.below hS)
          replace RW := hid (RW.out.below hS)
          replace VW := hid (var_below hS VW.out)
          replace HB := hid (HB.out.trans (hS.mono HB.out.size))
          clear hS BL a0 a1
          obtain ⟨wA, hwA⟩ : ∃ w', w' = wr := ⟨_, rfl⟩
          rw [← hwA] at OL RC RK RW VW HB ⊢
          clear hwA
          obtain ⟨pA, cA, eA, -, -, -⟩ := OL.out.rd.parts
          subst eA
          rw [alls_len, show 4 * 44 = 176 from rfl] at OL ⊢
          rw [show ((44 : Nat) : Int) = 44 from rfl]
          go_wp2_with fail
          go_loopw [8] (fun s8 ws => ∃ k : Nat, 4 ≤ k ∧ k ≤ 44 ∧ s8 = .int .i64 k ∧ Hid (Below wA.heap.size wA ws)) (fun s8 _ => 44 - (intOf s8).toNat)
          case atStart => exact ⟨4, by omega, by omega, rfl, hid (Below.refl _ _)⟩
          case round =>
            obtain ⟨k, h4, hk, rfl, BL⟩ := hrel
            by_cases hlt : k < 44
            · by_cases hm : k % 4 = 0
              · skip
                have t3 : (k : Int).tmod 4 = 0 := by rw [Int.tmod_eq_emod_of_nonneg (by omega)]; omega
                go_wp2_with fail
                refine wp_region_held_drew (S := fun w' => Below wr.heap.size wr w') (by kernel_rfl) (Below.refl _ _).drew (fun hH => ?_)
                refine wpAnyH_take (i := 0) (v := .int .i64 (k : Int)) (by simp only [List.getElem?_toArray, List.getElem?_cons_zero]; rfl) (by kernel_rfl) (by kernel_rfl) (by kernel_rfl) (by intro _ _ _ h; exact h) (Or.inl ⟨by rfl, fun w hS => by go_simp⟩) hH ?_
                simp only [Act.put, List.setIfInBounds_toArray, List.set_cons_zero, List.set_cons_succ]
                refine wpAnyH_take (i := 1) (v := .int .i64 0) (by simp only [List.getElem?_toArray, List.getElem?_cons_succ, List.getElem?_cons_zero]; rfl) (by kernel_rfl) (by kernel_rfl) (by kernel_rfl) (by intro _ _ _ h; exact h) (Or.inl ⟨by rfl, fun w hS => by go_simp⟩) hH ?_
                simp only [Act.put, List.setIfInBounds_toArray, List.set_cons_zero, List.set_cons_succ]
                refine wpAnyH_take (i := 2) (v := .bool false) (by simp only [List.getElem?_toArray, List.getElem?_cons_succ, List.getElem?_cons_zero]; rfl) (by kernel_rfl) (by kernel_rfl) (by kernel_rfl) (by intro _ _ _ h; exact h) (Or.inl ⟨by rfl, fun w hS => by go_simp⟩) hH ?_
                simp only [Act.put, List.setIfInBounds_toArray, List.set_cons_zero, List.set_cons_succ]
                refine wpAnyH_take (i := 3) (v := .bool false) (by simp only [List.getElem?_toArray, List.getElem?_cons_succ, List.getElem?_cons_zero]; rfl) (by kernel_rfl) (by kernel_rfl) (by kernel_rfl) (by intro _ _ _ h; exact h) (Or.inl ⟨by rfl, fun w hS => by go_simp⟩) hH ?_
                simp only [Act.put, List.setIfInBounds_toArray, List.set_cons_zero, List.set_cons_succ]
                refine wpAnyH_take (i := 4) (v := undef) (by simp only [List.getElem?_toArray, List.getElem?_cons_succ, List.getElem?_cons_zero]; rfl) (by kernel_rfl) (by kernel_rfl) (by kernel_rfl) (by intro _ _ _ h; exact h) (Or.inr ⟨by rfl, rfl⟩) hH ?_
                simp only [Act.put, List.setIfInBounds_toArray, List.set_cons_zero, List.set_cons_succ]
                refine wpAnyH_take (i := 5) (v := undef) (by simp only [List.getElem?_toArray, List.getElem?_cons_succ, List.getElem?_cons_zero]; rfl) (by kernel_rfl) (by kernel_rfl) (by kernel_rfl) (by intro _ _ _ h; exact h) (Or.inr ⟨by rfl, rfl⟩) hH ?_
                simp only [Act.put, List.setIfInBounds_toArray, List.set_cons_zero, List.set_cons_succ]
                refine wpAnyH_take (i := 6) (v := undef) (by simp only [List.getElem?_toArray, List.getElem?_cons_succ, List.getElem?_cons_zero]; rfl) (by kernel_rfl) (by kernel_rfl) (by kernel_rfl) (by intro _ _ _ h; exact h) (Or.inr ⟨by rfl, rfl⟩) hH ?_
                simp only [Act.put, List.setIfInBounds_toArray, List.set_cons_zero, List.set_cons_succ]
                refine wpAnyH_take (i := 7) (v := undef) (by simp only [List.getElem?_toArray, List.getElem?_cons_succ, List.getElem?_cons_zero]; rfl) (by kernel_rfl) (by kernel_rfl) (by kernel_rfl) (by intro _ _ _ h; exact h) (Or.inr ⟨by rfl, rfl⟩) hH ?_
                simp only [Act.put, List.setIfInBounds_toArray, List.set_cons_zero, List.set_cons_succ]
                refine wpAnyH_take (i := 8) (v := undef) (by simp only [List.getElem?_toArray, List.getElem?_cons_succ, List.getElem?_cons_zero]; rfl) (by kernel_rfl) (by kernel_rfl) (by kernel_rfl) (by intro _ _ _ h; exact h) (Or.inr ⟨by rfl, rfl⟩) hH ?_
                simp only [Act.put, List.setIfInBounds_toArray, List.set_cons_zero, List.set_cons_succ]
                refine wpAnyH_take (i := 9) (v := undef) (by simp only [List.getElem?_toArray, List.getElem?_cons_succ, List.getElem?_cons_zero]; rfl) (by kernel_rfl) (by kernel_rfl) (by kernel_rfl) (by intro _ _ _ h; exact h) (Or.inr ⟨by rfl, rfl⟩) hH ?_
                simp only [Act.put, List.setIfInBounds_toArray, List.set_cons_zero, List.set_cons_succ]
                refine wpAnyH_take (i := 10) (v := undef) (by simp only [List.getElem?_toArray, List.getElem?_cons_succ, List.getElem?_cons_zero]; rfl) (by kernel_rfl) (by kernel_rfl) (by kernel_rfl) (by intro _ _ _ h; exact h) (Or.inr ⟨by rfl, rfl⟩) hH ?_
                simp only [Act.put, List.setIfInBounds_toArray, List.set_cons_zero, List.set_cons_succ]
                refine wpAnyH_take (i := 11) (v := undef) (by simp only [List.getElem?_toArray, List.getElem?_cons_succ, List.getElem?_cons_zero]; rfl) (by kernel_rfl) (by kernel_rfl) (by kernel_rfl) (by intro _ _ _ h; exact h) (Or.inr ⟨by rfl, rfl⟩) hH ?_
                simp only [Act.put, List.setIfInBounds_toArray, List.set_cons_zero, List.set_cons_succ]
                refine wpAnyH_take (i := 12) (v := undef) (by simp only [List.getElem?_toArray, List.getElem?_cons_succ, List.getElem?_cons_zero]; rfl) (by kernel_rfl) (by kernel_rfl) (by kernel_rfl) (by intro _ _ _ h; exact h) (Or.inr ⟨by rfl, rfl⟩) hH ?_
                simp only [Act.put, List.setIfInBounds_toArray, List.set_cons_zero, List.set_cons_succ]
                refine wpAnyH_take (i := 13) (v := undef) (by simp only [List.getElem?_toArray, List.getElem?_cons_succ, List.getElem?_cons_zero]; rfl) (by kernel_rfl) (by kernel_rfl) (by kernel_rfl) (by intro _ _ _ h; exact h) (Or.inr ⟨by rfl, rfl⟩) hH ?_
                simp only [Act.put, List.setIfInBounds_toArray, List.set_cons_zero, List.set_cons_succ]
                refine wpAnyH_take (i := 14) (v := undef) (by simp only [List.getElem?_toArray, List.getElem?_cons_succ, List.getElem?_cons_zero]; rfl) (by kernel_rfl) (by kernel_rfl) (by kernel_rfl) (by intro _ _ _ h; exact h) (Or.inr ⟨by rfl, rfl⟩) hH ?_
                simp only [Act.put, List.setIfInBounds_toArray, List.set_cons_zero, List.set_cons_succ]
                refine wpAnyH_take (i := 15) (v := undef) (by simp only [List.getElem?_toArray, List.getElem?_cons_succ, List.getElem?_cons_zero]; rfl) (by kernel_rfl) (by kernel_rfl) (by kernel_rfl) (by intro _ _ _ h; exact h) (Or.inr ⟨by rfl, rfl⟩) hH ?_
                simp only [Act.put, List.setIfInBounds_toArray, List.set_cons_zero, List.set_cons_succ]
                refine wpAnyH_take (i := 16) (v := undef) (by simp only [List.getElem?_toArray, List.getElem?_cons_succ, List.getElem?_cons_zero]; rfl) (by kernel_rfl) (by kernel_rfl) (by kernel_rfl) (by intro _ _ _ h; exact h) (Or.inr ⟨by rfl, rfl⟩) hH ?_
                simp only [Act.put, List.setIfInBounds_toArray, List.set_cons_zero, List.set_cons_succ]
                refine wpAnyH_take (i := 17) (v := undef) (by simp only [List.getElem?_toArray, List.getElem?_cons_succ, List.getElem?_cons_zero]; rfl) (by kernel_rfl) (by kernel_rfl) (by kernel_rfl) (by intro _ _ _ h; exact h) (Or.inr ⟨by rfl, rfl⟩) hH ?_
                simp only [Act.put, List.setIfInBounds_toArray, List.set_cons_zero, List.set_cons_succ]
                refine wpAnyH_take (i := 18) (v := undef) (by simp only [List.getElem?_toArray, List.getElem?_cons_succ, List.getElem?_cons_zero]; rfl) (by kernel_rfl) (by kernel_rfl) (by kernel_rfl) (by intro _ _ _ h; exact h) (Or.inr ⟨by rfl, rfl⟩) hH ?_
                simp only [Act.put, List.setIfInBounds_toArray, List.set_cons_zero, List.set_cons_succ]
                refine wpAnyH_take (i := 19) (v := undef) (by simp only [List.getElem?_toArray, List.getElem?_cons_succ, List.getElem?_cons_zero]; rfl) (by kernel_rfl) (by kernel_rfl) (by kernel_rfl) (by intro _ _ _ h; exact h) (Or.inr ⟨by rfl, rfl⟩) hH ?_
                simp only [Act.put, List.setIfInBounds_toArray, List.set_cons_zero, List.set_cons_succ]
                refine wpAnyH_take (i := 20) (v := undef) (by simp only [List.getElem?_toArray, List.getElem?_cons_succ, List.getElem?_cons_zero]; rfl) (by kernel_rfl) (by kernel_rfl) (by kernel_rfl) (by intro _ _ _ h; exact h) (Or.inr ⟨by rfl, rfl⟩) hH ?_
                simp only [Act.put, List.setIfInBounds_toArray, List.set_cons_zero, List.set_cons_succ]
                refine wpAnyH_take (i := 21) (v := undef) (by simp only [List.getElem?_toArray, List.getElem?_cons_succ, List.getElem?_cons_zero]; rfl) (by kernel_rfl) (by kernel_rfl) (by kernel_rfl) (by intro _ _ _ h; exact h) (Or.inr ⟨by rfl, rfl⟩) hH ?_
                simp only [Act.put, List.setIfInBounds_toArray, List.set_cons_zero, List.set_cons_succ]
                refine wpAnyH_take (i := 22) (v := undef) (by simp only [List.getElem?_toArray, List.getElem?_cons_succ, List.getElem?_cons_zero]; rfl) (by kernel_rfl) (by kernel_rfl) (by kernel_rfl) (by intro _ _ _ h; exact h) (Or.inr ⟨by rfl, rfl⟩) hH ?_
                simp only [Act.put, List.setIfInBounds_toArray, List.set_cons_zero, List.set_cons_succ]
                refine wpAnyH_take (i := 23) (v := undef) (by simp only [List.getElem?_toArray, List.getElem?_cons_succ, List.getElem?_cons_zero]; rfl) (by kernel_rfl) (by kernel_rfl) (by kernel_rfl) (by intro _ _ _ h; exact h) (Or.inr ⟨by rfl, rfl⟩) hH ?_
                simp only [Act.put, List.setIfInBounds_toArray, List.set_cons_zero, List.set_cons_succ]
                refine wpAnyH_take (i := 24) (v := .bool false) (by simp only [List.getElem?_toArray, List.getElem?_cons_succ, List.getElem?_cons_zero]; rfl) (by kernel_rfl) (by kernel_rfl) (by kernel_rfl) (by intro _ _ _ h; exact h) (Or.inl ⟨by rfl, fun w hS => by go_simp⟩) hH ?_
                simp only [Act.put, List.setIfInBounds_toArray, List.set_cons_zero, List.set_cons_succ]
                refine wpAnyH_done (by kernel_rfl) ?_ _
                have B2 := hid (BL.out.trans (hH.mono BL.out.size))
                clear hH
                go_wp2
                go_roundw
                case rel => exact ⟨k + 1, by omega, hlt, by go_num, B2⟩
                case measure => simp [intOf]; omega
              · skip
                obtain ⟨pu, cu, hc1, hu1⟩ := words_at (RW.out.below BL.out) (k - 4) (by omega)
                obtain ⟨pv, cv, hc2, hu2⟩ := words_at (RW.out.below BL.out) (k - 1) (by omega)
                obtain ⟨px, cx, hc3, hu3⟩ := words_at (RW.out.below BL.out) k hlt
                have b1 := cell_kept BL.out (var2_facts VW.out).2.1
                have RU := hid hu1
                have RV := hid hu2
                have RX := hid hu3
                clear hu1 hu2 hu3
                have XE := hid (wd_step d lk k h4 hlt hm)
                have I1 := idx_w bW oW 44 cW (k - 4) (by omega)
                have I2 := idx_w bW oW 44 cW (k - 1) (by omega)
                have I3 := idx_w bW oW 44 cW k hlt
                have W1 : (k : Int) - 4 = ((k - 4 : Nat) : Int) := by omega
                have W2 : (k : Int) - 1 = ((k - 1 : Nat) : Int) := by omega
                obtain ⟨m4, hm4⟩ : ∃ m, m = k - 4 := ⟨_, rfl⟩
                obtain ⟨m1, hm1⟩ : ∃ m, m = k - 1 := ⟨_, rfl⟩
                rw [← hm4] at hc1 RU XE I1 W1
                rw [← hm1] at hc2 RV XE I2 W2
                have V1 : IntKind.i64.wrap (m4 : Int) = (m4 : Int) := by rw [IntKind.wrap_i64]; omega
                have V2 : IntKind.i64.wrap (m1 : Int) = (m1 : Int) := by rw [IntKind.wrap_i64]; omega
                have j1 : (m4 : Int) < 44 := by omega
                have j2 : (m1 : Int) < 44 := by omega
                have j3 : (k : Int) < 44 := by omega
                have t1 : ((k : Int).tmod 4 != 0) = true := by rw [bne_iff_ne, Int.tmod_eq_emod_of_nonneg (by omega)]; omega
                clear hm4 hm1
                go_wp2_with fail
                refine wp_region_held_drew (S := fun w' => Below wr.heap.size wr w') (by kernel_rfl) (Below.refl _ _).drew (fun hH => ?_)
                refine wpAnyH_take (i := 0) (v := .int .i64 (k : Int)) (by simp only [List.getElem?_toArray, List.getElem?_cons_zero]; rfl) (by kernel_rfl) (by kernel_rfl) (by kernel_rfl) (by intro _ _ _ h; exact h) (Or.inl ⟨by rfl, fun w hS => by go_simp⟩) hH ?_
                simp only [Act.put, List.setIfInBounds_toArray, List.set_cons_zero, List.set_cons_succ]
                refine wpAnyH_take (i := 1) (v := .int .i64 ((k : Int).tmod 4)) (by simp only [List.getElem?_toArray, List.getElem?_cons_succ, List.getElem?_cons_zero]; rfl) (by kernel_rfl) (by kernel_rfl) (by kernel_rfl) (by intro _ _ _ h; exact h) (Or.inl ⟨by rfl, fun w hS => by go_simp⟩) hH ?_
                simp only [Act.put, List.setIfInBounds_toArray, List.set_cons_zero, List.set_cons_succ]
                refine wpAnyH_take (i := 2) (v := .bool true) (by simp only [List.getElem?_toArray, List.getElem?_cons_succ, List.getElem?_cons_zero]; rfl) (by kernel_rfl) (by kernel_rfl) (by kernel_rfl) (by intro _ _ _ h; exact h) (Or.inl ⟨by rfl, fun w hS => by go_simp⟩) hH ?_
                simp only [Act.put, List.setIfInBounds_toArray, List.set_cons_zero, List.set_cons_succ]
                refine wpAnyH_take (i := 3) (v := .bool true) (by simp only [List.getElem?_toArray, List.getElem?_cons_succ, List.getElem?_cons_zero]; rfl) (by kernel_rfl) (by kernel_rfl) (by kernel_rfl) (by intro _ _ _ h; exact h) (Or.inl ⟨by rfl, fun w hS => by go_simp⟩) hH ?_
                simp only [Act.put, List.setIfInBounds_toArray, List.set_cons_zero, List.set_cons_succ]
                refine wpAnyH_take (i := 4) (v := .pointer (some ⟨gW, 1, none⟩)) (by simp only [List.getElem?_toArray, List.getElem?_cons_succ, List.getElem?_cons_zero]; rfl) (by kernel_rfl) (by kernel_rfl) (by kernel_rfl) (by intro _ _ _ h; exact h) (Or.inl ⟨by rfl, fun w hS => by go_simp⟩) hH ?_
                simp only [Act.put, List.setIfInBounds_toArray, List.set_cons_zero, List.set_cons_succ]
                refine wpAnyH_take (i := 5) (v := .slice (some ⟨bW, oW, none⟩) 44 cW) (by simp only [List.getElem?_toArray, List.getElem?_cons_succ, List.getElem?_cons_zero]; rfl) (by kernel_rfl) (by kernel_rfl) (by kernel_rfl) (by intro _ _ _ h; exact h) (Or.inl ⟨by rfl, fun w hS => by (have q := cell_kept hS b1; go_simp)⟩) hH ?_
                simp only [Act.put, List.setIfInBounds_toArray, List.set_cons_zero, List.set_cons_succ]
                refine wpAnyH_take (i := 6) (v := .int .i64 (k : Int)) (by simp only [List.getElem?_toArray, List.getElem?_cons_succ, List.getElem?_cons_zero]; rfl) (by kernel_rfl) (by kernel_rfl) (by kernel_rfl) (by intro _ _ _ h; exact h) (Or.inl ⟨by rfl, fun w hS => by go_simp⟩) hH ?_
                simp only [Act.put, List.setIfInBounds_toArray, List.set_cons_zero, List.set_cons_succ]
                refine wpAnyH_take (i := 7) (v := .int .i64 (m4 : Int)) (by simp only [List.getElem?_toArray, List.getElem?_cons_succ, List.getElem?_cons_zero]; rfl) (by kernel_rfl) (by kernel_rfl) (by kernel_rfl) (by intro _ _ _ h; exact h) (Or.inl ⟨by rfl, fun w hS => by go_simp⟩) hH ?_
                simp only [Act.put, List.setIfInBounds_toArray, List.set_cons_zero, List.set_cons_succ]
                refine wpAnyH_take (i := 8) (v := .pointer (some ⟨bW, oW + m4, none⟩)) (by simp only [List.getElem?_toArray, List.getElem?_cons_succ, List.getElem?_cons_zero]; rfl) (by kernel_rfl) (by kernel_rfl) (by kernel_rfl) (by intro _ _ _ h; exact h) (Or.inl ⟨by rfl, fun w hS => by go_simp⟩) hH ?_
                simp only [Act.put, List.setIfInBounds_toArray, List.set_cons_zero, List.set_cons_succ]
                refine wpAnyH_take (i := 9) (v := .slice pu 4 cu) (by simp only [List.getElem?_toArray, List.getElem?_cons_succ, List.getElem?_cons_zero]; rfl) (by kernel_rfl) (by kernel_rfl) (by kernel_rfl) (by intro _ _ _ h; exact h) (Or.inl ⟨by rfl, fun w hS => by (have q := cell_kept hS hc1; go_simp)⟩) hH ?_
                simp only [Act.put, List.setIfInBounds_toArray, List.set_cons_zero, List.set_cons_succ]
                refine wpAnyH_take (i := 10) (v := .pointer (some ⟨gW, 1, none⟩)) (by simp only [List.getElem?_toArray, List.getElem?_cons_succ, List.getElem?_cons_zero]; rfl) (by kernel_rfl) (by kernel_rfl) (by kernel_rfl) (by intro _ _ _ h; exact h) (Or.inl ⟨by rfl, fun w hS => by go_simp⟩) hH ?_
                simp only [Act.put, List.setIfInBounds_toArray, List.set_cons_zero, List.set_cons_succ]
                refine wpAnyH_take (i := 11) (v := .slice (some ⟨bW, oW, none⟩) 44 cW) (by simp only [List.getElem?_toArray, List.getElem?_cons_succ, List.getElem?_cons_zero]; rfl) (by kernel_rfl) (by kernel_rfl) (by kernel_rfl) (by intro _ _ _ h; exact h) (Or.inl ⟨by rfl, fun w hS => by (have q := cell_kept hS b1; go_simp)⟩) hH ?_
                simp only [Act.put, List.setIfInBounds_toArray, List.set_cons_zero, List.set_cons_succ]
                refine wpAnyH_take (i := 12) (v := .int .i64 (k : Int)) (by simp only [List.getElem?_toArray, List.getElem?_cons_succ, List.getElem?_cons_zero]; rfl) (by kernel_rfl) (by kernel_rfl) (by kernel_rfl) (by intro _ _ _ h; exact h) (Or.inl ⟨by rfl, fun w hS => by go_simp⟩) hH ?_
                simp only [Act.put, List.setIfInBounds_toArray, List.set_cons_zero, List.set_cons_succ]
                refine wpAnyH_take (i := 13) (v := .int .i64 (m1 : Int)) (by simp only [List.getElem?_toArray, List.getElem?_cons_succ, List.getElem?_cons_zero]; rfl) (by kernel_rfl) (by kernel_rfl) (by kernel_rfl) (by intro _ _ _ h; exact h) (Or.inl ⟨by rfl, fun w hS => by go_simp⟩) hH ?_
                simp only [Act.put, List.setIfInBounds_toArray, List.set_cons_zero, List.set_cons_succ]
                refine wpAnyH_take (i := 14) (v := .pointer (some ⟨bW, oW + m1, none⟩)) (by simp only [List.getElem?_toArray, List.getElem?_cons_succ, List.getElem?_cons_zero]; rfl) (by kernel_rfl) (by kernel_rfl) (by kernel_rfl) (by intro _ _ _ h; exact h) (Or.inl ⟨by rfl, fun w hS => by go_simp⟩) hH ?_
                simp only [Act.put, List.setIfInBounds_toArray, List.set_cons_zero, List.set_cons_succ]
                refine wpAnyH_take (i := 15) (v := .slice pv 4 cv) (by simp only [List.getElem?_toArray, List.getElem?_cons_succ, List.getElem?_cons_zero]; rfl) (by kernel_rfl) (by kernel_rfl) (by kernel_rfl) (by intro _ _ _ h; exact h) (Or.inl ⟨by rfl, fun w hS => by (have q := cell_kept hS hc2; go_simp)⟩) hH ?_
                simp only [Act.put, List.setIfInBounds_toArray, List.set_cons_zero, List.set_cons_succ]
                refine wpAnyH_take (i := 17) (v := .pointer (some ⟨gW, 1, none⟩)) (by simp only [List.getElem?_toArray, List.getElem?_cons_succ, List.getElem?_cons_zero]; rfl) (by kernel_rfl) (by kernel_rfl) (by kernel_rfl) (by intro _ _ _ h; exact h) (Or.inl ⟨by rfl, fun w hS => by go_simp⟩) hH ?_
                simp only [Act.put, List.setIfInBounds_toArray, List.set_cons_zero, List.set_cons_succ]
                refine wpAnyH_take (i := 18) (v := .slice (some ⟨bW, oW, none⟩) 44 cW) (by simp only [List.getElem?_toArray, List.getElem?_cons_succ, List.getElem?_cons_zero]; rfl) (by kernel_rfl) (by kernel_rfl) (by kernel_rfl) (by intro _ _ _ h; exact h) (Or.inl ⟨by rfl, fun w hS => by (have q := cell_kept hS b1; go_simp)⟩) hH ?_
                simp only [Act.put, List.setIfInBounds_toArray, List.set_cons_zero, List.set_cons_succ]
                refine wpAnyH_take (i := 19) (v := .int .i64 (k : Int)) (by simp only [List.getElem?_toArray, List.getElem?_cons_succ, List.getElem?_cons_zero]; rfl) (by kernel_rfl) (by kernel_rfl) (by kernel_rfl) (by intro _ _ _ h; exact h) (Or.inl ⟨by rfl, fun w hS => by go_simp⟩) hH ?_
                simp only [Act.put, List.setIfInBounds_toArray, List.set_cons_zero, List.set_cons_succ]
                refine wpAnyH_take (i := 20) (v := .pointer (some ⟨bW, oW + k, none⟩)) (by simp only [List.getElem?_toArray, List.getElem?_cons_succ, List.getElem?_cons_zero]; rfl) (by kernel_rfl) (by kernel_rfl) (by kernel_rfl) (by intro _ _ _ h; exact h) (Or.inl ⟨by rfl, fun w hS => by go_simp⟩) hH ?_
                simp only [Act.put, List.setIfInBounds_toArray, List.set_cons_zero, List.set_cons_succ]
                refine wpAnyH_take (i := 21) (v := .slice px 4 cx) (by simp only [List.getElem?_toArray, List.getElem?_cons_succ, List.getElem?_cons_zero]; rfl) (by kernel_rfl) (by kernel_rfl) (by kernel_rfl) (by intro _ _ _ h; exact h) (Or.inl ⟨by rfl, fun w hS => by (have q := cell_kept hS hc3; go_simp)⟩) hH ?_
                simp only [Act.put, List.setIfInBounds_toArray, List.set_cons_zero, List.set_cons_succ]
                refine wpAnyH_ready (rs := [16]) (by kernel_rfl) (by simp) ?_
                refine AllReadyH.cons (by simp only [List.getElem?_toArray, List.getElem?_cons_succ, List.getElem?_cons_zero]; rfl) (fun K hK => ?_) AllReadyH.nil
                go_simp
                refine (lwxor _ _ _ _ _ (RU.out.below hH) (RV.out.below hH) (wd_byt _ (kf_lt d yd) _) (wd_byt _ (kf_lt d yd) _) (by rw [wd_len]; omega) (by rw [wd_len, wd_len])).mono ?_
                rintro e x16 ⟨vz, rfl, OZ, hM⟩
                have RZ := OZ.rd
                rw [XE.out] at RZ
                obtain ⟨pz, cz, rfl, -, -, -⟩ := RZ.parts
                rw [wd_len] at RZ ⊢
                clear OZ
                refine hK.out _ _ (hH.trans (hM.mono hH.size)) (fun hH => ?_)
                clear hK K
                clear hM
                refine wpAnyH_ready (rs := [22]) (by kernel_rfl) (by simp) ?_
                refine AllReadyH.cons (by simp only [List.getElem?_toArray, List.getElem?_cons_succ, List.getElem?_cons_zero]; rfl) (fun K hK => ?_) AllReadyH.nil
                go_simp
                refine (lwsame _ _ _ _ _ RZ (RX.out.below hH)).mono ?_
                rintro e x22 ⟨rfl, hW⟩
                rw [sam_self]
                have hM : Below x16.heap.size x16 x22 := by rw [hW]; exact Below.refl _ _
                clear hW
                refine hK.out _ _ (hH.trans (hM.mono hH.size)) (fun hH => ?_)
                clear hK K
                clear RZ
                clear hM
                refine wpAnyH_take (i := 23) (v := .bool false) (by simp only [List.getElem?_toArray, List.getElem?_cons_succ, List.getElem?_cons_zero]; rfl) (by kernel_rfl) (by kernel_rfl) (by kernel_rfl) (by intro _ _ _ h; exact h) (Or.inl ⟨by rfl, fun w hS => by go_simp⟩) hH ?_
                simp only [Act.put, List.setIfInBounds_toArray, List.set_cons_zero, List.set_cons_succ]
                refine wpAnyH_take (i := 24) (v := .bool false) (by simp only [List.getElem?_toArray, List.getElem?_cons_succ, List.getElem?_cons_zero]; rfl) (by kernel_rfl) (by kernel_rfl) (by kernel_rfl) (by intro _ _ _ h; exact h) (Or.inl ⟨by rfl, fun w hS => by go_simp⟩) hH ?_
                simp only [Act.put, List.setIfInBounds_toArray, List.set_cons_zero, List.set_cons_succ]
                refine wpAnyH_done (by kernel_rfl) ?_ _
                have B2 := hid (BL.out.trans (hH.mono BL.out.size))
                clear hH
                go_wp2
                go_roundw
                case rel => exact ⟨k + 1, by omega, hlt, by go_num, B2⟩
                case measure => simp [intOf]; omega
            · have hke : k = 44 := by omega
              subst hke
              have hS := BL.out
              replace RC := hid (RC.out.below hS)
              replace RK := hid (RK.out.below hS)
              replace RW := hid (RW.out.below hS)
              replace OL := hid (OL.out.below hS)
              replace VW := hid (var_below hS VW.out)
              replace HB := hid (HB.out.trans (hS.mono HB.out.size))
              clear hS BL
              rw [show ((44 : Nat) : Int) = 44 from rfl]
              have b1 := (var2_facts VW.out).2.1
              obtain ⟨p40, c40, hc40, hR40⟩ := words_at RW.out 40 (by omega)
              have R40 := hid hR40
              clear hR40
              have I40 := idx_w bW oW 44 cW 40 (by omega)
              rw [show ((40 : Nat) : Int) = 40 from rfl] at I40
              obtain ⟨p36, c36, hc36, hR36⟩ := words_at RW.out 36 (by omega)
              have R36 := hid hR36
              clear hR36
              have I36 := idx_w bW oW 44 cW 36 (by omega)
              rw [show ((36 : Nat) : Int) = 36 from rfl] at I36
              obtain ⟨p39, c39, hc39, hR39⟩ := words_at RW.out 39 (by omega)
              have R39 := hid hR39
              clear hR39
              have I39 := idx_w bW oW 44 cW 39 (by omega)
              rw [show ((39 : Nat) : Int) = 39 from rfl] at I39
              obtain ⟨LW, hLW⟩ : ∃ L, L = xl (wd (kf d) 40) (wd (kf d) 36) := ⟨_, rfl⟩
              have lLW := hid (show LW.length = 4 by rw [hLW, xl_len, wd_len])
              replace hLW := hid hLW
              go_wp2_with fail
              refine wp_region_held_drew (S := fun w' => Below wr.heap.size wr w') (by kernel_rfl) (Below.refl _ _).drew (fun hH => ?_)
              refine wpAnyH_take (i := 0) (v := .pointer (some ⟨gW, 1, none⟩)) (by simp only [List.getElem?_toArray, List.getElem?_cons_zero]; rfl) (by kernel_rfl) (by kernel_rfl) (by kernel_rfl) (by intro _ _ _ h; exact h) (Or.inl ⟨by rfl, fun w hS => by go_simp⟩) hH ?_
              simp only [Act.put, List.setIfInBounds_toArray, List.set_cons_zero, List.set_cons_succ]
              refine wpAnyH_take (i := 1) (v := .slice (some ⟨bW, oW, none⟩) 44 cW) (by simp only [List.getElem?_toArray, List.getElem?_cons_succ, List.getElem?_cons_zero]; rfl) (by kernel_rfl) (by kernel_rfl) (by kernel_rfl) (by intro _ _ _ h; exact h) (Or.inl ⟨by rfl, fun w hS => by (have q := cell_kept hS b1; go_simp)⟩) hH ?_
              simp only [Act.put, List.setIfInBounds_toArray, List.set_cons_zero, List.set_cons_succ]
              refine wpAnyH_take (i := 2) (v := .pointer (some ⟨bW, oW + 40, none⟩)) (by simp only [List.getElem?_toArray, List.getElem?_cons_succ, List.getElem?_cons_zero]; rfl) (by kernel_rfl) (by kernel_rfl) (by kernel_rfl) (by intro _ _ _ h; exact h) (Or.inl ⟨by rfl, fun w hS => by go_simp⟩) hH ?_
              simp only [Act.put, List.setIfInBounds_toArray, List.set_cons_zero, List.set_cons_succ]
              refine wpAnyH_take (i := 3) (v := .slice p40 4 c40) (by simp only [List.getElem?_toArray, List.getElem?_cons_succ, List.getElem?_cons_zero]; rfl) (by kernel_rfl) (by kernel_rfl) (by kernel_rfl) (by intro _ _ _ h; exact h) (Or.inl ⟨by rfl, fun w hS => by (have q := cell_kept hS hc40; go_simp)⟩) hH ?_
              simp only [Act.put, List.setIfInBounds_toArray, List.set_cons_zero, List.set_cons_succ]
              refine wpAnyH_take (i := 4) (v := .pointer (some ⟨gW, 1, none⟩)) (by simp only [List.getElem?_toArray, List.getElem?_cons_succ, List.getElem?_cons_zero]; rfl) (by kernel_rfl) (by kernel_rfl) (by kernel_rfl) (by intro _ _ _ h; exact h) (Or.inl ⟨by rfl, fun w hS => by go_simp⟩) hH ?_
              simp only [Act.put, List.setIfInBounds_toArray, List.set_cons_zero, List.set_cons_succ]
              refine wpAnyH_take (i := 5) (v := .slice (some ⟨bW, oW, none⟩) 44 cW) (by simp only [List.getElem?_toArray, List.getElem?_cons_succ, List.getElem?_cons_zero]; rfl) (by kernel_rfl) (by kernel_rfl) (by kernel_rfl) (by intro _ _ _ h; exact h) (Or.inl ⟨by rfl, fun w hS => by (have q := cell_kept hS b1; go_simp)⟩) hH ?_
              simp only [Act.put, List.setIfInBounds_toArray, List.set_cons_zero, List.set_cons_succ]
              refine wpAnyH_take (i := 6) (v := .pointer (some ⟨bW, oW + 36, none⟩)) (by simp only [List.getElem?_toArray, List.getElem?_cons_succ, List.getElem?_cons_zero]; rfl) (by kernel_rfl) (by kernel_rfl) (by kernel_rfl) (by intro _ _ _ h; exact h) (Or.inl ⟨by rfl, fun w hS => by go_simp⟩) hH ?_
              simp only [Act.put, List.setIfInBounds_toArray, List.set_cons_zero, List.set_cons_succ]
              refine wpAnyH_take (i := 7) (v := .slice p36 4 c36) (by simp only [List.getElem?_toArray, List.getElem?_cons_succ, List.getElem?_cons_zero]; rfl) (by kernel_rfl) (by kernel_rfl) (by kernel_rfl) (by intro _ _ _ h; exact h) (Or.inl ⟨by rfl, fun w hS => by (have q := cell_kept hS hc36; go_simp)⟩) hH ?_
              simp only [Act.put, List.setIfInBounds_toArray, List.set_cons_zero, List.set_cons_succ]
              refine wpAnyH_ready (rs := [8]) (by kernel_rfl) (by simp) ?_
              refine AllReadyH.cons (by simp only [List.getElem?_toArray, List.getElem?_cons_succ, List.getElem?_cons_zero]; rfl) (fun K hK => ?_) AllReadyH.nil
              go_simp
              refine (lwxor _ _ _ _ _ (R40.out.below hH) (R36.out.below hH) (wd_byt _ (kf_lt d yd) _) (wd_byt _ (kf_lt d yd) _) (by rw [wd_len]; omega) (by rw [wd_len, wd_len])).mono ?_
              rintro e x8 ⟨vz, rfl, OZ, hM⟩
              have RZ := OZ.rd
              rw [← hLW.out] at RZ
              obtain ⟨pz, cz, rfl, -, -, -⟩ := RZ.parts
              rw [lLW.out] at RZ ⊢
              clear OZ
              refine hK.out _ _ (hH.trans (hM.mono hH.size)) (fun hH => ?_)
              clear hK K
              clear hM
              replace RZ := hid RZ
              refine wpAnyH_take (i := 9) (v := .slice pz 4 cz) (by simp only [List.getElem?_toArray, List.getElem?_cons_succ, List.getElem?_cons_zero]; rfl) (by kernel_rfl) (by kernel_rfl) (by kernel_rfl) (by intro _ _ _ h; exact h) (Or.inl ⟨by rfl, fun w hS => by go_simp⟩) hH ?_
              simp only [Act.put, List.setIfInBounds_toArray, List.set_cons_zero, List.set_cons_succ]
              refine wpAnyH_done (by kernel_rfl) ?_ _
              have hS := hH
              replace RK := hid (RK.out.below hS)
              replace R39 := hid (R39.out.below hS)
              replace OL := hid (OL.out.below hS)
              replace RW := hid (RW.out.below hS)
              replace VW := hid (var_below hS VW.out)
              replace HB := hid (HB.out.trans (hS.mono HB.out.size))
              replace b1 := cell_kept hS b1
              replace hc39 := cell_kept hS hc39
              clear hS hH hc40 hc36 R40 R36 I40 I36
              obtain ⟨b9, o9, c39, e9, -, -⟩ := R39.out.spot (by rw [wd_len]; omega)
              rw [wd_len] at e9
              cases e9
              have yF := kf_lt d yd
              have e0 := R39.out.cells 0 (by rw [wd_len]; omega)
              rw [wd_gt _ _ _ (by omega), show 4 * 39 + 0 = 156 from rfl] at e0
              have y0 := yF 156
              have J0 := idx_b b9 o9 4 c39 0 (by omega)
              rw [show ((0 : Nat) : Int) = 0 from rfl] at J0
              have e1 := R39.out.cells 1 (by rw [wd_len]; omega)
              rw [wd_gt _ _ _ (by omega), show 4 * 39 + 1 = 157 from rfl] at e1
              have y1 := yF 157
              have J1 := idx_b b9 o9 4 c39 1 (by omega)
              rw [show ((1 : Nat) : Int) = 1 from rfl] at J1
              have e2 := R39.out.cells 2 (by rw [wd_len]; omega)
              rw [wd_gt _ _ _ (by omega), show 4 * 39 + 2 = 158 from rfl] at e2
              have y2 := yF 158
              have J2 := idx_b b9 o9 4 c39 2 (by omega)
              rw [show ((2 : Nat) : Int) = 2 from rfl] at J2
              have e3 := R39.out.cells 3 (by rw [wd_len]; omega)
              rw [wd_gt _ _ _ (by omega), show 4 * 39 + 3 = 159 from rfl] at e3
              have y3 := yF 159
              have J3 := idx_b b9 o9 4 c39 3 (by omega)
              rw [show ((3 : Nat) : Int) = 3 from rfl] at J3
              rw [Nat.add_zero] at e0
              rw [Nat.add_zero] at J0
              have EW := hid (wd_last d lk)
              clear R39 yF
              generalize kf d 156 = z0 at *
              generalize kf d 157 = z1 at *
              generalize kf d 158 = z2 at *
              generalize kf d 159 = z3 at *
              have s1 := sbx_lt z1 y1
              have E := xor8' (sbx z1) 54 s1 (by omega)
              rw [show ((54 : Nat) : Int) = 54 from rfl] at E
              go_wp2_with fail
              refine wp_region_held_drew (S := fun w' => Below x8.heap.size x8 w') (by kernel_rfl) (Below.refl _ _).drew (fun hH => ?_)
              refine wpAnyH_take (i := 0) (v := .pointer (some ⟨gW, 1, none⟩)) (by simp only [List.getElem?_toArray, List.getElem?_cons_zero]; rfl) (by kernel_rfl) (by kernel_rfl) (by kernel_rfl) (by intro _ _ _ h; exact h) (Or.inl ⟨by rfl, fun w hS => by go_simp⟩) hH ?_
              simp only [Act.put, List.setIfInBounds_toArray, List.set_cons_zero, List.set_cons_succ]
              refine wpAnyH_take (i := 1) (v := .slice (some ⟨bW, oW, none⟩) 44 cW) (by simp only [List.getElem?_toArray, List.getElem?_cons_succ, List.getElem?_cons_zero]; rfl) (by kernel_rfl) (by kernel_rfl) (by kernel_rfl) (by intro _ _ _ h; exact h) (Or.inl ⟨by rfl, fun w hS => by (have q := cell_kept hS b1; go_simp)⟩) hH ?_
              simp only [Act.put, List.setIfInBounds_toArray, List.set_cons_zero, List.set_cons_succ]
              refine wpAnyH_take (i := 2) (v := .pointer (some ⟨bW, oW + 39, none⟩)) (by simp only [List.getElem?_toArray, List.getElem?_cons_succ, List.getElem?_cons_zero]; rfl) (by kernel_rfl) (by kernel_rfl) (by kernel_rfl) (by intro _ _ _ h; exact h) (Or.inl ⟨by rfl, fun w hS => by go_simp⟩) hH ?_
              simp only [Act.put, List.setIfInBounds_toArray, List.set_cons_zero, List.set_cons_succ]
              refine wpAnyH_take (i := 3) (v := .slice (some ⟨b9, o9, none⟩) 4 c39) (by simp only [List.getElem?_toArray, List.getElem?_cons_succ, List.getElem?_cons_zero]; rfl) (by kernel_rfl) (by kernel_rfl) (by kernel_rfl) (by intro _ _ _ h; exact h) (Or.inl ⟨by rfl, fun w hS => by (have q := cell_kept hS hc39; go_simp)⟩) hH ?_
              simp only [Act.put, List.setIfInBounds_toArray, List.set_cons_zero, List.set_cons_succ]
              refine wpAnyH_take (i := 4) (v := .pointer (some ⟨b9, o9 + 1, none⟩)) (by simp only [List.getElem?_toArray, List.getElem?_cons_succ, List.getElem?_cons_zero]; rfl) (by kernel_rfl) (by kernel_rfl) (by kernel_rfl) (by intro _ _ _ h; exact h) (Or.inl ⟨by rfl, fun w hS => by go_simp⟩) hH ?_
              simp only [Act.put, List.setIfInBounds_toArray, List.set_cons_zero, List.set_cons_succ]
              refine wpAnyH_take (i := 5) (v := .int .u8 (z1 : Int)) (by simp only [List.getElem?_toArray, List.getElem?_cons_succ, List.getElem?_cons_zero]; rfl) (by kernel_rfl) (by kernel_rfl) (by kernel_rfl) (by intro _ _ _ h; exact h) (Or.inl ⟨by rfl, fun w hS => by (have q := cell_kept hS e1; go_simp)⟩) hH ?_
              simp only [Act.put, List.setIfInBounds_toArray, List.set_cons_zero, List.set_cons_succ]
              refine wpAnyH_take (i := 8) (v := .pointer (some ⟨gW, 1, none⟩)) (by simp only [List.getElem?_toArray, List.getElem?_cons_succ, List.getElem?_cons_zero]; rfl) (by kernel_rfl) (by kernel_rfl) (by kernel_rfl) (by intro _ _ _ h; exact h) (Or.inl ⟨by rfl, fun w hS => by go_simp⟩) hH ?_
              simp only [Act.put, List.setIfInBounds_toArray, List.set_cons_zero, List.set_cons_succ]
              refine wpAnyH_take (i := 9) (v := .slice (some ⟨bW, oW, none⟩) 44 cW) (by simp only [List.getElem?_toArray, List.getElem?_cons_succ, List.getElem?_cons_zero]; rfl) (by kernel_rfl) (by kernel_rfl) (by kernel_rfl) (by intro _ _ _ h; exact h) (Or.inl ⟨by rfl, fun w hS => by (have q := cell_kept hS b1; go_simp)⟩) hH ?_
              simp only [Act.put, List.setIfInBounds_toArray, List.set_cons_zero, List.set_cons_succ]
              refine wpAnyH_take (i := 10) (v := .pointer (some ⟨bW, oW + 39, none⟩)) (by simp only [List.getElem?_toArray, List.getElem?_cons_succ, List.getElem?_cons_zero]; rfl) (by kernel_rfl) (by kernel_rfl) (by kernel_rfl) (by intro _ _ _ h; exact h) (Or.inl ⟨by rfl, fun w hS => by go_simp⟩) hH ?_
              simp only [Act.put, List.setIfInBounds_toArray, List.set_cons_zero, List.set_cons_succ]
              refine wpAnyH_take (i := 11) (v := .slice (some ⟨b9, o9, none⟩) 4 c39) (by simp only [List.getElem?_toArray, List.getElem?_cons_succ, List.getElem?_cons_zero]; rfl) (by kernel_rfl) (by kernel_rfl) (by kernel_rfl) (by intro _ _ _ h; exact h) (Or.inl ⟨by rfl, fun w hS => by (have q := cell_kept hS hc39; go_simp)⟩) hH ?_
              simp only [Act.put, List.setIfInBounds_toArray, List.set_cons_zero, List.set_cons_succ]
              refine wpAnyH_take (i := 12) (v := .pointer (some ⟨b9, o9 + 2, none⟩)) (by simp only [List.getElem?_toArray, List.getElem?_cons_succ, List.getElem?_cons_zero]; rfl) (by kernel_rfl) (by kernel_rfl) (by kernel_rfl) (by intro _ _ _ h; exact h) (Or.inl ⟨by rfl, fun w hS => by go_simp⟩) hH ?_
              simp only [Act.put, List.setIfInBounds_toArray, List.set_cons_zero, List.set_cons_succ]
              refine wpAnyH_take (i := 13) (v := .int .u8 (z2 : Int)) (by simp only [List.getElem?_toArray, List.getElem?_cons_succ, List.getElem?_cons_zero]; rfl) (by kernel_rfl) (by kernel_rfl) (by kernel_rfl) (by intro _ _ _ h; exact h) (Or.inl ⟨by rfl, fun w hS => by (have q := cell_kept hS e2; go_simp)⟩) hH ?_
              simp only [Act.put, List.setIfInBounds_toArray, List.set_cons_zero, List.set_cons_succ]
              refine wpAnyH_take (i := 15) (v := .pointer (some ⟨gW, 1, none⟩)) (by simp only [List.getElem?_toArray, List.getElem?_cons_succ, List.getElem?_cons_zero]; rfl) (by kernel_rfl) (by kernel_rfl) (by kernel_rfl) (by intro _ _ _ h; exact h) (Or.inl ⟨by rfl, fun w hS => by go_simp⟩) hH ?_
              simp only [Act.put, List.setIfInBounds_toArray, List.set_cons_zero, List.set_cons_succ]
              refine wpAnyH_take (i := 16) (v := .slice (some ⟨bW, oW, none⟩) 44 cW) (by simp only [List.getElem?_toArray, List.getElem?_cons_succ, List.getElem?_cons_zero]; rfl) (by kernel_rfl) (by kernel_rfl) (by kernel_rfl) (by intro _ _ _ h; exact h) (Or.inl ⟨by rfl, fun w hS => by (have q := cell_kept hS b1; go_simp)⟩) hH ?_
              simp only [Act.put, List.setIfInBounds_toArray, List.set_cons_zero, List.set_cons_succ]
              refine wpAnyH_take (i := 17) (v := .pointer (some ⟨bW, oW + 39, none⟩)) (by simp only [List.getElem?_toArray, List.getElem?_cons_succ, List.getElem?_cons_zero]; rfl) (by kernel_rfl) (by kernel_rfl) (by kernel_rfl) (by intro _ _ _ h; exact h) (Or.inl ⟨by rfl, fun w hS => by go_simp⟩) hH ?_
              simp only [Act.put, List.setIfInBounds_toArray, List.set_cons_zero, List.set_cons_succ]
              refine wpAnyH_take (i := 18) (v := .slice (some ⟨b9, o9, none⟩) 4 c39) (by simp only [List.getElem?_toArray, List.getElem?_cons_succ, List.getElem?_cons_zero]; rfl) (by kernel_rfl) (by kernel_rfl) (by kernel_rfl) (by intro _ _ _ h; exact h) (Or.inl ⟨by rfl, fun w hS => by (have q := cell_kept hS hc39; go_simp)⟩) hH ?_
              simp only [Act.put, List.setIfInBounds_toArray, List.set_cons_zero, List.set_cons_succ]
              refine wpAnyH_take (i := 19) (v := .pointer (some ⟨b9, o9 + 3, none⟩)) (by simp only [List.getElem?_toArray, List.getElem?_cons_succ, List.getElem?_cons_zero]; rfl) (by kernel_rfl) (by kernel_rfl) (by kernel_rfl) (by intro _ _ _ h; exact h) (Or.inl ⟨by rfl, fun w hS => by go_simp⟩) hH ?_
              simp only [Act.put, List.setIfInBounds_toArray, List.set_cons_zero, List.set_cons_succ]
              refine wpAnyH_take (i := 20) (v := .int .u8 (z3 : Int)) (by simp only [List.getElem?_toArray, List.getElem?_cons_succ, List.getElem?_cons_zero]; rfl) (by kernel_rfl) (by kernel_rfl) (by kernel_rfl) (by intro _ _ _ h; exact h) (Or.inl ⟨by rfl, fun w hS => by (have q := cell_kept hS e3; go_simp)⟩) hH ?_
              simp only [Act.put, List.setIfInBounds_toArray, List.set_cons_zero, List.set_cons_succ]
              refine wpAnyH_take (i := 22) (v := .pointer (some ⟨gW, 1, none⟩)) (by simp only [List.getElem?_toArray, List.getElem?_cons_succ, List.getElem?_cons_zero]; rfl) (by kernel_rfl) (by kernel_rfl) (by kernel_rfl) (by intro _ _ _ h; exact h) (Or.inl ⟨by rfl, fun w hS => by go_simp⟩) hH ?_
              simp only [Act.put, List.setIfInBounds_toArray, List.set_cons_zero, List.set_cons_succ]
              refine wpAnyH_take (i := 23) (v := .slice (some ⟨bW, oW, none⟩) 44 cW) (by simp only [List.getElem?_toArray, List.getElem?_cons_succ, List.getElem?_cons_zero]; rfl) (by kernel_rfl) (by kernel_rfl) (by kernel_rfl) (by intro _ _ _ h; exact h) (Or.inl ⟨by rfl, fun w hS => by (have q := cell_kept hS b1; go_simp)⟩) hH ?_
              simp only [Act.put, List.setIfInBounds_toArray, List.set_cons_zero, List.set_cons_succ]
              refine wpAnyH_take (i := 24) (v := .pointer (some ⟨bW, oW + 39, none⟩)) (by simp only [List.getElem?_toArray, List.getElem?_cons_succ, List.getElem?_cons_zero]; rfl) (by kernel_rfl) (by kernel_rfl) (by kernel_rfl) (by intro _ _ _ h; exact h) (Or.inl ⟨by rfl, fun w hS => by go_simp⟩) hH ?_
              simp only [Act.put, List.setIfInBounds_toArray, List.set_cons_zero, List.set_cons_succ]
              refine wpAnyH_take (i := 25) (v := .slice (some ⟨b9, o9, none⟩) 4 c39) (by simp only [List.getElem?_toArray, List.getElem?_cons_succ, List.getElem?_cons_zero]; rfl) (by kernel_rfl) (by kernel_rfl) (by kernel_rfl) (by intro _ _ _ h; exact h) (Or.inl ⟨by rfl, fun w hS => by (have q := cell_kept hS hc39; go_simp)⟩) hH ?_
              simp only [Act.put, List.setIfInBounds_toArray, List.set_cons_zero, List.set_cons_succ]
              refine wpAnyH_take (i := 26) (v := .pointer (some ⟨b9, o9, none⟩)) (by simp only [List.getElem?_toArray, List.getElem?_cons_succ, List.getElem?_cons_zero]; rfl) (by kernel_rfl) (by kernel_rfl) (by kernel_rfl) (by intro _ _ _ h; exact h) (Or.inl ⟨by rfl, fun w hS => by go_simp⟩) hH ?_
              simp only [Act.put, List.setIfInBounds_toArray, List.set_cons_zero, List.set_cons_succ]
              refine wpAnyH_take (i := 27) (v := .int .u8 (z0 : Int)) (by simp only [List.getElem?_toArray, List.getElem?_cons_succ, List.getElem?_cons_zero]; rfl) (by kernel_rfl) (by kernel_rfl) (by kernel_rfl) (by intro _ _ _ h; exact h) (Or.inl ⟨by rfl, fun w hS => by (have q := cell_kept hS e0; go_simp)⟩) hH ?_
              simp only [Act.put, List.setIfInBounds_toArray, List.set_cons_zero, List.set_cons_succ]
              refine wpAnyH_ready (rs := [6]) (by kernel_rfl) (by simp) ?_
              refine AllReadyH.cons (by simp only [List.getElem?_toArray, List.getElem?_cons_succ, List.getElem?_cons_zero]; rfl) (fun K hK => ?_) AllReadyH.nil
              go_simp
              refine (ssub z1 y1 _).mono ?_
              rintro e x6 ⟨rfl, hW⟩
              have hM : Below (x8.drew).heap.size (x8.drew) x6 := by rw [hW]; exact Below.refl _ _
              clear hW
              refine hK.out _ _ (hH.trans (hM.mono hH.size)) (fun hH => ?_)
              clear hK K
              clear hM
              try simp only [Act.put, List.setIfInBounds_toArray, List.set_cons_zero, List.set_cons_succ]
              refine wpAnyH_take (i := 7) (v := .int .u8 ((sbx z1 ^^^ 54 : Nat) : Int)) (by simp only [List.getElem?_toArray, List.getElem?_cons_succ, List.getElem?_cons_zero]; rfl) (by kernel_rfl) (by kernel_rfl) (by kernel_rfl) (by intro _ _ _ h; exact h) (Or.inl ⟨by rfl, fun w hS => by go_simp⟩) hH ?_
              simp only [Act.put, List.setIfInBounds_toArray, List.set_cons_zero, List.set_cons_succ]
              refine wpAnyH_ready (rs := [14]) (by kernel_rfl) (by simp) ?_
              refine AllReadyH.cons (by simp only [List.getElem?_toArray, List.getElem?_cons_succ, List.getElem?_cons_zero]; rfl) (fun K hK => ?_) AllReadyH.nil
              go_simp
              refine (ssub z2 y2 _).mono ?_
              rintro e x14 ⟨rfl, hW⟩
              have hM : Below (x6).heap.size (x6) x14 := by rw [hW]; exact Below.refl _ _
              clear hW
              refine hK.out _ _ (hH.trans (hM.mono hH.size)) (fun hH => ?_)
              clear hK K
              clear hM
              refine wpAnyH_ready (rs := [21]) (by kernel_rfl) (by simp) ?_
              refine AllReadyH.cons (by simp only [List.getElem?_toArray, List.getElem?_cons_succ, List.getElem?_cons_zero]; rfl) (fun K hK => ?_) AllReadyH.nil
              go_simp
              refine (ssub z3 y3 _).mono ?_
              rintro e x21 ⟨rfl, hW⟩
              have hM : Below (x14).heap.size (x14) x21 := by rw [hW]; exact Below.refl _ _
              clear hW
              refine hK.out _ _ (hH.trans (hM.mono hH.size)) (fun hH => ?_)
              clear hK K
              clear hM
              refine wpAnyH_ready (rs := [28]) (by kernel_rfl) (by simp) ?_
              refine AllReadyH.cons (by simp only [List.getElem?_toArray, List.getElem?_cons_succ, List.getElem?_cons_zero]; rfl) (fun K hK => ?_) AllReadyH.nil
              go_simp
              refine (ssub z0 y0 _).mono ?_
              rintro e x28 ⟨rfl, hW⟩
              have hM : Below (x21).heap.size (x21) x28 := by rw [hW]; exact Below.refl _ _
              clear hW
              refine hK.out _ _ (hH.trans (hM.mono hH.size)) (fun hH => ?_)
              clear hK K
              clear hM
              refine wpAnyH_ready (rs := [29]) (by kernel_rfl) (by simp) ?_
              refine AllReadyH.cons (by simp only [List.getElem?_toArray, List.getElem?_cons_succ, List.getElem?_cons_zero]; rfl) (fun K hK => ?_) AllReadyH.nil
              go_simp
              refine hK.out _ _ (hH.alloc hH.size _) (fun hH => ?_)
              clear hK K
              try simp only [Act.put, List.setIfInBounds_toArray, List.set_cons_zero, List.set_cons_succ]
              refine wpAnyH_take (i := 30) (v := .slice (some ⟨x28.heap.size, 0, none⟩) 4 4) (by simp only [List.getElem?_toArray, List.getElem?_cons_succ, List.getElem?_cons_zero]; rfl) (by kernel_rfl) (by kernel_rfl) (by kernel_rfl) (by intro _ _ _ h; exact h) (Or.inl ⟨by rfl, fun w hS => by go_simp⟩) hH ?_
              simp only [Act.put, List.setIfInBounds_toArray, List.set_cons_zero, List.set_cons_succ]
              refine wpAnyH_done (by kernel_rfl) ?_ _
              have RY := hid (rd_four x28 (sbx z1 ^^^ 54) (sbx z2) (sbx z3) (sbx z0))
              rw [← EW.out, ← hLW.out] at RY
              have hS := hH
              generalize x28.heap.size = g28 at *
              generalize x28.alloc (.cells #[.int .u8 ((sbx z1 ^^^ 54 : Nat) : Int), .int .u8 (sbx z2 : Int), .int .u8 (sbx z3 : Int), .int .u8 (sbx z0 : Int)] 5) = xw at *
              replace RK := hid (RK.out.below hS)
              replace OL := hid (OL.out.below hS)
              replace RZ := hid (RZ.out.below hS)
              replace HB := hid (HB.out.trans (hS.mono HB.out.size))
              clear hS hH b1 hc39 e0 e1 e2 e3 E EW hLW VW
              have hcA : 16 ≤ cA := by
                obtain ⟨_, _, e, h1, -, -⟩ := OL.out.rd.parts
                cases e
                rw [alls_len] at h1
                omega
              have U1 := upto16 pA 176 cA hcA
              have RF := hid (rd_first16 OL.out.rd (by rw [alls_len]; omega))
              rw [alls_key d lk] at RF
              go_wp2_with fail
              refine (lwsame _ _ d d _ RF.out RK.out).mono ?_
              rintro e xa ⟨rfl, rfl⟩
              rw [sam_self]
              go_wp2_with fail
              refine (lwsame _ _ LW LW _ RZ.out RY.out).mono ?_
              rintro e xb ⟨rfl, rfl⟩
              rw [sam_self]
              go_wp2
              go_ret
              exact ⟨rfl, HB.out⟩
    · go_wp2_with fail
      refine (ikw_no _ d _ RK.out lk).mono ?_
      rintro e w2 ⟨rfl, hB⟩
      replace RC := hid (RC.out.below hB)
      replace RK := hid (RK.out.below hB)
      replace HB := hid (HB.out.trans (hB.mono HB.out.size))
      clear hB
      go_wp2_with fail
      have VW := hid (heap_alloc_new w2 (.cells #[.int .i64 2, .slice none 0 0] 47))
      have hA := below_alloc1 w2 (.cells #[.int .i64 2, .slice none 0 0] 47)
      replace RC := hid (RC.out.below hA)
      replace RK := hid (RK.out.below hA)
      replace HB := hid (HB.out.trans (hA.mono HB.out.size))
      clear hA
      generalize w2.alloc (.cells #[.int .i64 2, .slice none 0 0] 47) = w2a at *
      generalize w2.heap.size = gW at *
      refine (drawRc _ l _ RC.out y hl).mono ?_
      rintro e w3 ⟨r, rfl, hB⟩
      replace RC := hid (RC.out.below hB)
      replace RK := hid (RK.out.below hB)
      replace VW := hid (var_below hB VW.out)
      replace HB := hid (HB.out.trans (hB.mono HB.out.size))
      clear hB
      obtain ⟨a0, a1, -, -⟩ := var2_facts VW.out
      have C1 := hid (fun (wq : World) (hb : Below w3.heap.size w3 wq) => (skw_no _ d wq (RK.out.below hb) lk).mono (R' := fun e w' => ∃ (p : Option Addr) (cc : Nat), e = .returned (.agg #[.int .i64 2, .slice p 0 cc]) ∧ Below wq.heap.size wq w') (fun e w' ⟨he, hb⟩ => ⟨none, 0, he, hb⟩))
      go_wp2_with fail
      go_region_held3 (fun w' => Below w3.heap.size w3 w' ∧ w'.cell? ⟨gW, 0, none⟩ = some (.int .i64 2) ∧ w'.cell? ⟨gW, 1, none⟩ = some (.slice none 0 0))
        (first | exact ⟨(Below.refl _ _).drew, a0, a1⟩ | exact ⟨Below.refl _ _, a0, a1⟩ | exact keepE ‹_ ∧ _ ∧ _› hz)
        (first | (go_at_call 33; refine (C1.out _ (‹Below w3.heap.size w3 _ ∧ _›).1).mono ?_; rintro e wq1 ⟨p1, c1, rfl, hz⟩) | (go_at_call 34; refine (ircon _ _).mono ?_; rintro e wq2 ⟨rfl, hz⟩) | (go_at_call 35; refine (srcon _ _).mono ?_; rintro e wq3 ⟨rfl, hz⟩))
      have hS := (‹Below w3.heap.size w3 wq3 ∧ _›).1
      replace RC := hid (RC.out.below hS)
      replace RK := hid (RK.out.below hS)
      replace VW := hid (var_below hS VW.out)
      replace HB := hid (HB.out.trans (hS.mono HB.out.size))
      clear hS C1 hz a0 a1
      obtain ⟨a0, a1, -, -⟩ := var2_facts VW.out
      go_wp2
      go_ret
      exact ⟨rfl, HB.out⟩
  · go_enter Try.func5, Try.ntmps5
    go_wp2_with (go_at_call 9; go_in)
    go_ret
    exact ⟨rfl, Below.refl _ _⟩
end Go.Proofs.Ytcmafbgfdddnnaa.W
