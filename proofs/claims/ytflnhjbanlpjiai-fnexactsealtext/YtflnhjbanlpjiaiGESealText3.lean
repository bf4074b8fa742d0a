/-
  The xor of slices of bytes: the model's l1Xor.
  The hash of blocks: the model's l3Hash.
  The products of bytes: what the model's FieldTimes answers.
  The words of a key: what the model's l2Keys answers.
  The tag, and what is sealed: the model's l3Tag, l3Seal.
  What SealText and OpenText tell: their codes, their bytes.
  Whether lengths fit: the model's l3Asked.
  What is sealed: the model's l3Seal, SealText.
  Group elements in memory.
  Blocks as arrays: their size.
  The bytes of a slice as an array: of no function.
  Steps of a region that draws its order: a whole array loaded or stored.
  What a key and a nonce tell, in memory: the program's sealer.
  A word turned: what the program's method turned answers.
  Bounds: what the program's within answers.
  A byte times the power 1: what the program's timesPowerOne answers.
  The constants of the rounds: what the program's RoundConstant answers.
  The words of a key: what the program's expandKey answers.
  The box of the byte whose inverse is known: what the program's boxOfInverse answers.
  The whole box: what the program's makeBox answers.
  What a key needs for all blocks: its box and its words, as one row of memory.
-/
import Derived.Test.YtflnhjbanlpjiaiGESealText1
import Derived.Test.YtflnhjbanlpjiaiGESealText2
import Derived.Deep.AppendLies
import Derived.Deep.RegionHeld3
import Derived.Test.YtflnhjbanlpjiaiRows
import Derived.WalkKit
import Derived.ProofKit
import Derived.WalkSpells
import Derived.StillTailTactics
import Derived.Deep.CutRange
import Derived.Deep.DeepCutAuto
import Derived.Deep.RegionLaw

namespace Go.Proofs.Ytflnhjbanlpjiai.W
open Go.ChangeShapes Go.WideShapes Go.ChangeAt Go.RowKit
open Go.Proofs.Ytflnhjbanlpjiai.M

set_option maxRecDepth 100000 in
theorem l1xor (va vb : Value) (la lb : List Nat) (w : World) (ha : Rd w va la) (hb : Rd w vb lb) (ya : Byt la) (yb : Byt lb) (h1 : la.length ≤ 1048576) (h2 : la.length = lb.length) :
    Calls Try.prog 69 #[va, vb] w fun e w' => ∃ v, e = .returned v ∧ Own w' w.heap.size v (xl la lb) ∧ Below w.heap.size w w' := by
  obtain ⟨a, capa, rfl, _, _, hca⟩ := ha.parts
  obtain ⟨b, capb, rfl, _, _, hcb⟩ := hb.parts
  rw [← h2]
  have HCA := hid hca
  have HCB := hid hcb
  have H2 := hid h2
  clear hca hcb ha hb h2
  obtain ⟨i0, hi, hz0, hz1, hz2⟩ := info_parts info8
  have hO0 := own_lit0 w
  go_enter Try.func69, Try.ntmps69
  go_wp2
  go_loopw [5, 6] (fun v i wr => ∃ k : Nat, k ≤ la.length ∧ i = .int .i64 k ∧ Own wr w.heap.size v ((xl la lb).take k) ∧ Below w.heap.size w wr) (fun _ i _ => la.length - (intOf i).toNat)
  case atStart => exact ⟨0, by omega, rfl, by rw [List.take_zero]; exact hO0, below_alloc1 w _⟩
  case round =>
    obtain ⟨k, hk, rfl, hown, hb⟩ := hrel
    clear hO0
    by_cases hlt : k < la.length
    · obtain ⟨ba, oa, rfl, ca⟩ := HCA.out k hlt
      have hk2 : k < lb.length := by have := H2.out; omega
      obtain ⟨bb, ob, rfl, cb⟩ := HCB.out k hk2
      have na := hown.ne (World.block_lt_of_cell? w _ ca)
      have nb := hown.ne (World.block_lt_of_cell? w _ cb)
      have ca := cell_kept hb ca
      have cb := cell_kept hb cb
      have KA := hid (cell_alloc ca)
      have KB := hid (cell_alloc cb)
      have hx := ya.at k hlt
      have hy := yb.at k hk2
      have hsn := take_snoc (xl la lb) k (by rw [xl_len]; exact hlt)
      rw [xl_at la lb k _ hlt hk2] at hsn
      have HS := hid hsn
      have hn : ((xl la lb).take k).length = k := by rw [List.length_take, xl_len]; omega
      have hownK : wr.ownsRow w.heap.size 5 1 u5 k (((xl la lb).take k).map bv) := by
        have h := hown
        unfold Own at h
        rw [hn] at h
        exact h
      have HN := hid hn
      have hsz := hb.size
      generalize la[k] = x at *
      generalize lb[k] = y at *
      unfold bv at ca cb KA KB
      have HX : Hid (bits .xor .u8 (x : Int) (y : Int) = ((x ^^^ y : Nat) : Int)) := xor8' x y hx hy
      clear hsn hk2 hn
      go_wp2
      go_region_held3 (fun w' => w'.cell? ⟨ba, oa + k, none⟩ = some (.int .u8 (x : Nat)) ∧ w'.cell? ⟨bb, ob + k, none⟩ = some (.int .u8 (y : Nat)))
        (first | exact ⟨ca, cb⟩ | exact ⟨KA.out _, KB.out _⟩ | exact ⟨hgrow.cell (KA.out _) na, hgrow.cell (KB.out _) nb⟩)
        ((refine step_append_lies _ (by rfl) _ _ _ (by rfl) w.heap.size 5 i0 _ 1 1 Try.underlying22 hi hz0 hz1 hz2 rfl (by omega) _ _ _ (by rfl) ((World.ownsRow.alloc hownK _).drew) ⟨wr.heap.size, 0, none⟩ 1 1 [.int .u8 (bits .xor .u8 (x : Int) (y : Int))] (by rfl) (by rfl) (World.news_of_block (cs := #[.int .u8 (bits .xor .u8 (x : Int) (y : Int))]) (t := 5) (fr := (0, 0)) (heap_alloc_new wr _)) (by simp [Value.oneCell']) (by omega) (by have := HN.out; unfold maxLen; omega) (by have := HN.out; omega) (by simp; omega) (wr.heap.size + 1) (by simp) ?_; intro gg cap w1 hown1 hgrow hat hlt2))
      have hO1 : Own w1 w.heap.size (.slice (some ⟨gg, 0, none⟩) (k + 1) cap) ((xl la lb).take (k + 1)) := by
        rw [HS.out]
        rw [HX.out] at hown1
        exact own_snoc (by rw [HN.out]; exact hown1)
      have hb1 : Below w.heap.size w w1 := ((hb.alloc hsz _).drew).grown hgrow (by simp; omega) (fun g e => (World.ownsRow.lt hown g e).1)
      clear hown1 hgrow hown hb hownK
      go_wp2
      go_roundw
      case rel => exact ⟨k + 1, by omega, by go_num, hO1, hb1⟩
      case measure => simp [intOf]; omega
    · have hk8 : k = la.length := by omega
      subst hk8
      rw [List.take_of_length_le (by rw [xl_len]; omega)] at hown
      go_wp2
      go_ret
      exact ⟨_, rfl, hown, hb⟩
end Go.Proofs.Ytflnhjbanlpjiai.W

namespace Go.Proofs.Ytflnhjbanlpjiai.W
open Go.ChangeShapes Go.WideShapes Go.ChangeAt Go.RowKit
open Go.Proofs.Ytflnhjbanlpjiai.M

set_option maxHeartbeats 1000000 in
set_option maxRecDepth 100000 in
theorem l3hash (vh vd : Value) (h d : List Nat) (w : World) (hh : Rd w vh h) (hd : Rd w vd d) (yh : Byt h) (yd : Byt d) (nh : h.length = 16) (nd : d.length ≤ 1048576) :
    Calls Try.prog 70 #[vh, vd] w fun e w' => ∃ g, e = .returned (.slice (some ⟨g, 0, none⟩) 16 16) ∧ Own w' w.heap.size (.slice (some ⟨g, 0, none⟩) 16 16) (hshB h d) ∧ Below w.heap.size w w' := by
  obtain ⟨i0, hi, hz0, hz1, hz2⟩ := info_parts info8
  obtain ⟨ph, caph, rfl, -, -, -⟩ := hh.parts
  obtain ⟨pd, capd, rfl, ec, -, hcd⟩ := hd.parts
  have HH := hid hh
  have HD := hid hd
  have NH := hid nh
  have HC := hid hcd
  clear hh hd nh hcd
  go_enter Try.func70, Try.ntmps70
  go_wp2_with (at_make; refine wpList_make_full _ rfl _ _ 22 rfl w.heap.size 5 i0 (.int .u8 0) 1 Try.underlying22 hi hz0 hz1 .i64 .i64 _ _ 16 rfl rfl rfl rfl (by rw [hz2]; omega) (by unfold maxLen; omega) (Nat.le_refl _) ?_; intro w0 hown0 hgrow0)
  have hown1 := hid (own_made w w0 16 hown0)
  have hb0 := hid (below_of_grown hgrow0 (Nat.le_refl _) (fun k hk => by simp at hk))
  clear hown0 hgrow0 hi hz0 hz1 hz2
  go_loopw [5, 6] (fun o5 a6 ws => ∃ n g : Nat, 16 * n ≤ d.length ∧ a6 = .int .i64 ((16 * n : Nat) : Int) ∧ o5 = .slice (some ⟨g, 0, none⟩) 16 16 ∧ Hid (Own ws w.heap.size (.slice (some ⟨g, 0, none⟩) 16 16) (eb (hsh (elt h) d n))) ∧ Hid (Below w.heap.size w ws)) (fun _ a6 _ => d.length - (intOf a6).toNat)
  case atStart => exact ⟨0, _, by omega, rfl, rfl, hid (by rw [hsh, eb_g0]; exact hown1.out), hb0⟩
  case round =>
    clear hown1 hb0
    obtain ⟨n, g, hn, rfl, rfl, HO, HB⟩ := hrel
    by_cases hlt : 16 * n + 16 ≤ d.length
    · obtain ⟨b, o, rfl, -⟩ := HC.out 0 (by omega)
      have RP := run_piece b o d.length capd (16 * n) 16 (by omega) (by omega)
      have PD := hid (rd_piece (HD.out.below HB.out) (16 * n) 16 (by omega))
      have SL := hid (sub_len d (16 * n) 16 hlt)
      have c1 : ((16 * n + 16 : Nat) : Int) ≤ (d.length : Int) := by omega
      have m0 : (0 : Int) ≤ ((16 * n : Nat) : Int) := by omega
      have HM := hid (show 16 * n + 16 = 16 * (n + 1) by omega)
      generalize HMm : 16 * n = m at *
      rw [show ((m + 16 : Nat) : Int) = (m : Int) + 16 by omega] at RP c1
      have XN := hid (show gtm (xl (eb (hsh (elt h) d n)) (sub d m 16)) h = eb (hsh (elt h) d (n + 1)) by
        rw [hsh, gtm, elt_xl _ _ (eb_byt _) (sub_byt d yd _ _) (eb_len _) SL.out, elt_eb _ (hsh_64 _ (elt_64 h yh) d n), HMm])
      replace HMm := hid HMm
      go_wp2_with fail
      refine (l1xor _ _ (eb (hsh (elt h) d n)) (sub d m 16) _ HO.out.rd PD.out (eb_byt _) (sub_byt d yd _ _) (by rw [eb_len]; omega) (by rw [eb_len, SL.out])).mono ?_
      rintro e w1 ⟨v, rfl, O1, B1⟩
      obtain ⟨p1, cp1, rfl, -, -, -⟩ := O1.rd.parts
      have H1 := hid (HH.out.below (HB.out.trans (B1.mono HB.out.size)))
      have Q1 := hid O1
      have R1 := hid (HB.out.trans (B1.mono HB.out.size))
      clear O1 B1
      go_wp2_with fail
      refine (l3times _ _ (xl (eb (hsh (elt h) d n)) (sub d m 16)) h _ Q1.out.rd H1.out (xlb_byt _ _ (eb_byt _) (sub_byt d yd _ _) (by rw [eb_len, SL.out])) yh (by rw [xl_len, eb_len]) NH.out).mono ?_
      rintro e w2 ⟨rfl, O2, B2⟩
      rw [XN.out] at O2
      have Q2 := hid (O2.mono (base' := w.heap.size) (R1.out.size))
      have R2 := hid (R1.out.trans (B2.mono R1.out.size))
      clear O2 B2
      go_wp2
      go_roundw
      case rel => exact ⟨n + 1, _, by have := HM.out; omega, i64_eq (by have := HM.out; omega), rfl, Q2, R2⟩
      case measure => simp [intOf]; omega
    · have c1 : ¬ ((16 * n : Nat) : Int) + 16 ≤ (d.length : Int) := by omega
      have m0 : (0 : Int) ≤ ((16 * n : Nat) : Int) := by omega
      have m1 : ((16 * n : Nat) : Int) ≤ 1048576 := by omega
      have E := hid (show d.length / 16 = n by omega)
      generalize 16 * n = m at *
      go_wp2
      go_ret
      exact ⟨g, rfl, by unfold hshB; rw [E.out]; exact HO.out, HB.out⟩
end Go.Proofs.Ytflnhjbanlpjiai.W

namespace Go.Proofs.Ytflnhjbanlpjiai.W
open Go.ChangeShapes Go.WideShapes Go.ChangeAt Go.RowKit
open Go.Proofs.Ytflnhjbanlpjiai.M

set_option maxRecDepth 100000 in
theorem sft (a b : Nat) (ha : a < 256) (hb : b < 256) (w : World) :
    Calls Try.prog 49 #[.int .u8 (a : Int), .int .u8 (b : Int)] w fun e w' => e = .returned (.int .u8 (ft a b : Nat)) ∧ w' = w := by
  go_enter Try.func49, Try.ntmps49
  go_wp2
  go_loop [0, 1, 5, 6, 7] (fun a' b' out i hi => ∃ k : Nat, ∃ h : Value, k ≤ 8 ∧ i = .int .i64 k ∧ a' = .int .u8 (xtN a k : Nat) ∧ b' = .int .u8 (b / 2 ^ k : Nat) ∧ out = .int .u8 (acc a b k : Nat) ∧ hi = h) (fun _ _ _ i _ => 8 - (intOf i).toNat)
  case atStart => exact ⟨0, _, by omega, rfl, by simp [xtN], by simp, by simp [acc], rfl⟩
  case round =>
    obtain ⟨k, h, hk, rfl, rfl, rfl, rfl, rfl⟩ := hrel
    by_cases hlt : k < 8
    · have hx := xtN_lt a ha k
      have ho := acc_lt a b ha k
      have hy : b / 2 ^ k < 256 := Nat.lt_of_le_of_lt (Nat.div_le_self _ _) hb
      have Hy : Hid (acc a b (k + 1) = if b / 2 ^ k % 2 = 1 then acc a b k ^^^ xtN a k else acc a b k) := rfl
      have Hp : Hid (b / 2 ^ (k + 1) = b / 2 ^ k / 2) := (half_pow b k).symm
      generalize b / 2 ^ k = y at *
      go_wp2
      all_goals
        go_round
        case rel =>
          refine ⟨k + 1, _, by omega, by go_num, ?_, ?_, ?_, rfl⟩
          · first | exact int_u8 (xt_hi _ ‹_› hx) | exact int_u8 (xt_lo _ ‹_›)
          · rw [Hp.out]; exact int_u8 (by omega)
          · rw [Hy.out]; first | (rw [if_pos (by have := beq_iff_eq.1 ‹((y : Int) % 2 == 1) = true›; omega)]; exact int_u8 (xor8 _ _ ho hx)) | (rw [if_neg (by have := beq_eq_false_iff_ne.1 ‹((y : Int) % 2 == 1) = false›; omega)])
        case measure => simp [intOf]; omega
    · have hk8 : k = 8 := by omega
      subst hk8
      go_wp2
      go_ret
      exact ⟨rfl, rfl⟩

end Go.Proofs.Ytflnhjbanlpjiai.W

namespace Go.Proofs.Ytflnhjbanlpjiai.W
open Go.ChangeShapes Go.WideShapes Go.ChangeAt Go.RowKit
open Go.Proofs.Ytflnhjbanlpjiai.M

theorem sft2k (k : Nat) (w : World) :
    Calls Try.prog 49 #[.int .u8 (xtN 1 k : Nat), .int .u8 2] w fun e w' => e = .returned (.int .u8 (xtN 1 (k + 1) : Nat)) ∧ w' = w := by
  have h := sft (xtN 1 k) 2 (xtN_lt 1 (by omega) k) (by omega) w
  rw [show ((2 : Nat) : Int) = 2 from rfl, ft2 _ (xtN_lt 1 (by omega) k)] at h
  exact h
theorem idx_row (g n c j : Nat) (z : Int) (hz : z = (j : Int)) (hj : j < n) (w : World) : (Instr.indexAt 22 (.slice (some ⟨g, 0, none⟩) n c) (.int .i64 z)).run Try.prog w = .ok (.pointer (some ⟨g, j, none⟩)) w := by
  subst hz
  have hs : ∀ w : World, (sizeOf (Try.prog.elem 22)).run Try.prog w = .ok 1 w := fun _ => by kernel_rfl
  rw [run_indexAt_slice (P := Try.prog) w 22 _ n c .i64 (j : Int) (by kernel_rfl)]
  simp [hs, hj, Result.andThen, Addr.add_lit]

set_option maxHeartbeats 2000000 in
set_option maxRecDepth 100000 in
theorem l2keys (v : Value) (key : List Nat) (w : World) (h : Rd w v key) (y : Byt key) (hk : key.length = 16) :
    Calls Try.prog 29 #[v] w fun e w' => e = .returned (.slice (some ⟨w.heap.size, 0, none⟩) 176 176) ∧ Ar w' w.heap.size 5 (rowTo 176 (kf key) 176) ∧ Below w.heap.size w w' := by
  obtain ⟨i0, hi, hz0, hz1, hz2⟩ := info_parts info8
  obtain ⟨b, o, cap, rfl, hcap, hb0⟩ := h.spot (by omega)
  have HC := hid (fun i hi => h.cells i hi)
  have HK := hid hk
  rw [hk] at hcap ⊢
  clear h hk
  go_enter Try.func29, Try.ntmps29
  go_wp2_with (at_make; refine wpList_make_full _ rfl _ _ 22 rfl w.heap.size 5 i0 (.int .u8 0) 1 Try.underlying22 hi hz0 hz1 .i64 .i64 _ _ 176 rfl rfl rfl rfl (by rw [hz2]; omega) (by unfold maxLen; omega) (Nat.le_refl _) ?_; intro w0 hown0 hgrow0)
  have A0 := (own_made w w0 176 hown0).ar (List.length_replicate ..)
  have hb1 := below_of_grown hgrow0 (Nat.le_refl _) (fun k hk => by simp at hk)
  obtain ⟨w1, hcp, hR1, hB1⟩ : ∃ w1, (Builtin.copy_ #[22, 22] 3 #[.slice (some ⟨w.heap.size, 0, none⟩) 176 176, .slice (some ⟨b, o, none⟩) 16 cap]).run Try.prog w0 = .ok (.int .i64 16) w1 ∧ Ar w1 w.heap.size 5 (rowTo 176 (kf key) 16) ∧ Below w.heap.size w w1 := by
    have hl : (key.map bv).length = 16 := by rw [List.length_map, HK.out]
    have hr := run_copy_row (P := Try.prog) w0 22 22 3 5 w.heap.size 0 176 176 ⟨b, o, none⟩ 16 cap _ 5 (key.map bv) Try.underlying22 (by kernel_rfl) A0 (by rw [hl]; rfl)
      (fun j u hj => by
        have hj' : j < key.length := by
          rcases Nat.lt_or_ge j key.length with q | q
          · exact q
          · rw [List.getElem?_eq_none (by simpa using q)] at hj; cases hj
        rw [List.getElem?_map, List.getElem?_eq_getElem hj'] at hj
        cases hj
        have q := cell_kept hb1 (HC.out j hj')
        rw [gt_eq key j hj'] at q
        rw [Addr.add_lit]
        exact q)
      (by rw [hl, arr_size, List.length_replicate]; omega) (by intro u hu; obtain ⟨x, _, rfl⟩ := List.mem_map.1 hu; rfl)
    rw [hl] at hr
    refine ⟨_, hr, ?_, below_setRow hb1 (Nat.le_refl _) _⟩
    have e : ((arr (List.replicate 176 0)).toList.take 0 ++ key.map bv ++ (arr (List.replicate 176 0)).toList.drop (0 + 16)) = (rowTo 176 (kf key) 16).map bv := by
      have f := rowTo_front 176 (kf key) key (by rw [HK.out]; omega) (fun j hj => kf_low key HK.out j (by rw [← HK.out]; exact hj))
      rw [HK.out] at f
      rw [f, arr, List.take_zero, List.nil_append, List.map_append, List.toList_toArray, List.map_replicate, List.map_replicate, List.drop_replicate]
    rw [e]
    exact setRow_heap w0 w.heap.size _ _ _ _ A0
  clear hown0 hgrow0 A0 hb1 hi hz0 hz1 hz2 HC
  rw [hcp]
  clear hcp
  go_wp2_with fail
  have KL := hid (kf_lt key y)
  have KS := hid (kf_step key HK.out)
  clear HK
  generalize hF : kf key = F at *
  have HF := hid hF
  clear hF
  go_loopw [4, 5, 6, 7] (fun c i t k' wr => ∃ n : Nat, ∃ u u2 : Value, n ≤ 40 ∧ i = .int .i64 (16 + 4 * n : Nat) ∧ c = .int .u8 (xtN 1 ((n + 3) / 4) : Nat) ∧ t = u ∧ k' = u2 ∧ Ar wr w.heap.size 5 (rowTo 176 F (16 + 4 * n)) ∧ Below w.heap.size w wr) (fun _ i _ _ _ => 176 - (intOf i).toNat)
  case atStart => exact ⟨0, _, _, by omega, rfl, rfl, rfl, rfl, hR1, hB1⟩
  case round =>
    obtain ⟨n, u, u2, hn, rfl, rfl, rfl, rfl, A, hB⟩ := hrel
    clear hR1 hB1
    by_cases hlt : n < 40
    · obtain ⟨i, hi⟩ : ∃ i, i = 16 + 4 * n := ⟨_, rfl⟩
      obtain ⟨p, hp⟩ : ∃ p, p = 12 + 4 * n := ⟨_, rfl⟩
      rw [← hi]
      rw [← hi] at A
      obtain ⟨p1, hp1⟩ : ∃ q, q = p + 1 := ⟨_, rfl⟩
      obtain ⟨p2, hp2⟩ : ∃ q, q = p + 2 := ⟨_, rfl⟩
      obtain ⟨p3, hp3⟩ : ∃ q, q = p + 3 := ⟨_, rfl⟩
      have d0 := A.cell p (by rw [rowTo_len]; omega)
      have d1 := A.cell p1 (by rw [rowTo_len]; omega)
      have d2 := A.cell p2 (by rw [rowTo_len]; omega)
      have d3 := A.cell p3 (by rw [rowTo_len]; omega)
      rw [rowTo_gt _ _ _ _ (by omega) (by omega)] at d0 d1 d2 d3
      have x0 := KL.out p
      have x1' := KL.out p1
      have x2 := KL.out p2
      have x3 := KL.out p3
      have i1 : 16 ≤ i := by omega
      have i2 : i ≤ 172 := by omega
      have e4 : (i : Int) - 4 = (p : Int) := by omega
      have e3 : (i : Int) - 3 = (p1 : Int) := by omega
      have e2 : (i : Int) - 2 = (p2 : Int) := by omega
      have e1 : (i : Int) - 1 = (p3 : Int) := by omega
      have v4 : IntKind.i64.wrap ((p : Nat) : Int) = ((p : Nat) : Int) := by rw [IntKind.wrap_i64]; omega
      have v3 : IntKind.i64.wrap (p1 : Int) = (p1 : Int) := by rw [IntKind.wrap_i64]; omega
      have v2 : IntKind.i64.wrap (p2 : Int) = (p2 : Int) := by rw [IntKind.wrap_i64]; omega
      have v1 : IntKind.i64.wrap (p3 : Int) = (p3 : Int) := by rw [IntKind.wrap_i64]; omega
      have ix4 := idx_row w.heap.size 176 176 p _ rfl (by omega)
      have ix3 := idx_row w.heap.size 176 176 p1 _ rfl (by omega)
      have ix2 := idx_row w.heap.size 176 176 p2 _ rfl (by omega)
      have ix1 := idx_row w.heap.size 176 176 p3 _ rfl (by omega)
      have D := hid (And.intro d0 (And.intro d1 (And.intro d2 d3)))
      have KA := hid (fun o : Obj => And.intro (cell_alloc d0 o) (And.intro (cell_alloc d1 o) (And.intro (cell_alloc d2 o) (cell_alloc d3 o))))
      have HA := hid A
      have HB := hid hB
      have Hi := hid hi
      have Hp := hid hp
      have Hp1 := hid hp1
      have Hp2 := hid hp2
      have Hp3 := hid hp3
      have hwr := A.lt
      clear A hB hi hp hp1 hp2 hp3 d0 d1 d2 d3
      have TY := hid (fun h => twl_yes F n p p1 p2 p3 h Hp.out Hp1.out Hp2.out Hp3.out)
      have TN := hid (fun h => twl_no F n p p1 p2 p3 h Hp.out Hp1.out Hp2.out Hp3.out)
      generalize F p = a0 at *
      generalize F p1 = a1 at *
      generalize F p2 = a2 at *
      generalize F p3 = a3 at *
      go_wp2_with fail
      go_region_held3 (fun w' => w'.cell? ⟨w.heap.size, p, none⟩ = some (.int .u8 (a0 : Nat)) ∧ w'.cell? ⟨w.heap.size, p1, none⟩ = some (.int .u8 (a1 : Nat)) ∧ w'.cell? ⟨w.heap.size, p2, none⟩ = some (.int .u8 (a2 : Nat)) ∧ w'.cell? ⟨w.heap.size, p3, none⟩ = some (.int .u8 (a3 : Nat))) (first | exact D.out | exact KA.out _) (fail)
      have T1 : Ar (wr.alloc (.cells #[.int .u8 (a0 : Nat), .int .u8 (a1 : Nat), .int .u8 (a2 : Nat), .int .u8 (a3 : Nat)] 64)).drew wr.heap.size 64 [a0, a1, a2, a3] := heap_alloc_new wr _
      have A1 := (HA.out.alloc (.cells #[.int .u8 (a0 : Nat), .int .u8 (a1 : Nat), .int .u8 (a2 : Nat), .int .u8 (a3 : Nat)] 64)).drew
      have B1 := (HB.out.alloc HB.out.size (.cells #[.int .u8 (a0 : Nat), .int .u8 (a1 : Nat), .int .u8 (a2 : Nat), .int .u8 (a3 : Nat)] 64)).drew
      have hg := A1.lt
      clear D KA HA HB e1 e2 e3 e4 v1 v2 v3 v4 ix1 ix2 ix3 ix4
      clear ‹_ ∧ _ ∧ _ ∧ _›
      generalize (wr.alloc (.cells #[.int .u8 (a0 : Nat), .int .u8 (a1 : Nat), .int .u8 (a2 : Nat), .int .u8 (a3 : Nat)] 64)).drew = x1 at *
      generalize wr.heap.size = g at *
      replace A1 := hid A1
      replace B1 := hid B1
      replace T1 := hid T1
      have em : (i : Int) % 16 = ((4 * (n % 4) : Nat) : Int) := by have := Hi.out; omega
      go_upto_if 39 with fail
      go_cut [4] from 12 to 76 (fun c wx => c = .int .u8 (xtN 1 ((n + 1 + 3) / 4) : Nat) ∧ Ar wx g 64 (twl F n) ∧ Ar wx w.heap.size 5 (rowTo 176 F i) ∧ Below w.heap.size w wx)
      case first =>
        by_cases hm : n % 4 = 0
        · have t39 : (4 * ((n : Int) % 4) == 0) = true := by rw [beq_iff_eq]; omega
          have TW := hid (TY.out hm)
          have c0 := T1.out.cell 0 (by simp)
          have c1 := T1.out.cell 1 (by simp)
          have c2 := T1.out.cell 2 (by simp)
          have c3 := T1.out.cell 3 (by simp)
          rw [show gt [a0, a1, a2, a3] 0 = a0 from rfl] at c0
          rw [show gt [a0, a1, a2, a3] 1 = a1 from rfl] at c1
          rw [show gt [a0, a1, a2, a3] 2 = a2 from rfl] at c2
          rw [show gt [a0, a1, a2, a3] 3 = a3 from rfl] at c3
          have hcc := xtN_lt 1 (by omega) ((n + 3) / 4)
          have E := xor8 _ _ (sbx_lt a1 x1') hcc
          have CS := hid (fun w => sft2k ((n + 3) / 4) w)
          have CE := hid (show xtN 1 ((n + 1 + 3) / 4) = xtN 1 ((n + 3) / 4 + 1) by rw [show (n + 1 + 3) / 4 = (n + 3) / 4 + 1 by omega])
          have Z4 := hid (show (Try.prog.info? 64).map (·.size) = some (arr [sbx a1 ^^^ xtN 1 ((n + 3) / 4), sbx a2, sbx a3, sbx a0]).size by rw [arr_size]; kernel_rfl)
          clear TY TN hm
          go_wp2_with fail
          refine wp_region_still_tail 15 (by kernel_rfl) (by kernel_rfl) ?_
          change wpStill _ _ (World.drew _) (fun a' => wpList _ _ _ _ a' (World.drew _)) _ _
          simp only [List.take_succ_cons, List.take_zero, List.drop_succ_cons, List.drop_zero]
          still_step
          still_step
          still_call (ssub a1 x1' _)
          still_step
          still_step
          still_step
          still_step
          still_call (ssub a2 x2 _)
          still_step
          still_step
          still_call (ssub a3 x3 _)
          still_step
          still_step
          still_call (ssub a0 x0 _)
          still_step
          refine wpStill_nil ?_
          refine wpList_store_row rfl 64 _ _ rfl g (arr [sbx a1 ^^^ xtN 1 ((n + 3) / 4), sbx a2, sbx a3, sbx a0]) rfl rfl 64 _ T1.out.drew Z4.out (by rw [arr_size, arr_size]; rfl) (arr_one _) ?_
          have T2 := hid (T1.out.drew.row (l' := [sbx a1 ^^^ xtN 1 ((n + 3) / 4), sbx a2, sbx a3, sbx a0]))
          have A2 := hid (A1.out.drew.rowFar (g' := g) (arr [sbx a1 ^^^ xtN 1 ((n + 3) / 4), sbx a2, sbx a3, sbx a0]) (by omega))
          have B2 := hid (below_row (B1.out.drew) (g := g) (by omega) (arr [sbx a1 ^^^ xtN 1 ((n + 3) / 4), sbx a2, sbx a3, sbx a0]))
          generalize x1.drew.setRow g (arr [sbx a1 ^^^ xtN 1 ((n + 3) / 4), sbx a2, sbx a3, sbx a0]) = x2w at *
          clear c0 c1 c2 c3 E
          go_wp2_with fail
          refine (CS.out _).mono ?_
          rintro e w' ⟨rfl, rfl⟩
          go_wp2_with fail
          go_meet
          case rel => exact ⟨by rw [CE.out], by rw [TW.out]; exact T2.out, A2.out, B2.out⟩
        · have t39 : (4 * ((n : Int) % 4) == 0) = false := by rw [beq_eq_false_iff_ne]; omega
          have TW := hid (TN.out hm)
          have CE := hid (show xtN 1 ((n + 1 + 3) / 4) = xtN 1 ((n + 3) / 4) by rw [show (n + 1 + 3) / 4 = (n + 3) / 4 by omega])
          clear TY TN hm
          go_wp2_with fail
          go_meet
          case rel => exact ⟨by rw [CE.out], by rw [TW.out]; exact T1.out, A1.out, B1.out⟩
      case rest =>
        obtain ⟨rfl, T2, A2, B2⟩ := hcut
        clear A1 B1 T1 TY TN x0 x1' x2 x3
        have KT := hid (fun k => tw_lt F KL.out n k)
        go_wp2_with fail
        have hB0 := B2.size
        have hgl := T2.lt
        go_loopw [7] (fun kk ws => ∃ k : Nat, k ≤ 4 ∧ kk = .int .i64 k ∧ Ar ws g 64 (twl F n) ∧ Ar ws w.heap.size 5 (rowTo 176 F (i + k)) ∧ Below w.heap.size w ws) (fun kk _ => 4 - (intOf kk).toNat)
        case atStart => exact ⟨0, by omega, rfl, T2, A2, B2⟩
        case round =>
          obtain ⟨k, hk4, rfl, T3, A3, B3⟩ := hrel
          clear T2 A2 B2
          by_cases hlk : k < 4
          · obtain ⟨m, hm⟩ : ∃ m, m = i + k := ⟨_, rfl⟩
            obtain ⟨q, hq⟩ : ∃ q, q = 4 * n + k := ⟨_, rfl⟩
            rw [← hm] at A3
            have hi' := Hi.out
            have c1 := A3.cell q (by rw [rowTo_len]; omega)
            rw [rowTo_gt _ _ _ _ (by omega) (by omega)] at c1
            have c2 := T3.cell k (by rw [twl_len]; exact hlk)
            rw [twl_gt _ _ _ hlk] at c2
            have c3 : ∃ u, wr.cell? ⟨w.heap.size, m, none⟩ = some u := ⟨_, A3.cell m (by rw [rowTo_len]; omega)⟩
            obtain ⟨u3, c3⟩ := c3
            have f3 := A3.open m
            have S := A3.stored m (F m)
            rw [rowTo_set 176 F m (by omega)] at S
            have ST := T3.far (g' := w.heap.size) (k := m) (.int .u8 (F m : Nat)) (by omega)
            have SB := B3.setCell (p := ⟨w.heap.size, m, none⟩) (Nat.le_refl _) (.int .u8 (F m : Nat))
            have hFm : F m = F q ^^^ tw F n k := by
              have := KS.out n k hlt hlk
              rw [show 16 + 4 * n + k = m by omega, show 4 * n + k = q by omega] at this
              exact this
            have y1 := KL.out q
            have y2 := KT.out k
            have E : bits .xor .u8 (F q : Nat) (tw F n k : Nat) = ((F m : Nat) : Int) := by rw [xor8 _ _ y1 y2, hFm]
            have e1 : (i : Int) + (k : Int) = (m : Int) := by omega
            have e2 : (m : Int) - 16 = (q : Int) := by omega
            have m1 : (m : Int) < 176 := by omega
            have m0 : (0 : Int) ≤ (m : Int) := by omega
            have q1 : (q : Int) < 176 := by omega
            have q0 : (0 : Int) ≤ (q : Int) := by omega
            have k0 : (0 : Int) ≤ (k : Int) := by omega
            have k1 : (k : Int) < 4 := by omega
            have v1 : IntKind.i64.wrap (m : Int) = (m : Int) := by rw [IntKind.wrap_i64]; omega
            have v2 : IntKind.i64.wrap (q : Int) = (q : Int) := by rw [IntKind.wrap_i64]; omega
            have Hm := hid hm
            replace S := hid S
            replace ST := hid ST
            replace SB := hid SB
            clear A3 T3 B3 hm hq hi' hFm
            generalize F q = z1 at *
            generalize tw F n k = z2 at *
            generalize F m = z3 at *
            go_wp2_with fail
            refine wp_region_still_tail 16 (by kernel_rfl) (by kernel_rfl) ?_
            change wpStill _ _ (World.drew _) (fun a' => wpList _ _ _ _ a' (World.drew _)) _ _
            simp only [List.take_succ_cons, List.take_zero, List.drop_succ_cons, List.drop_zero]
            repeat still_step
            refine wpStill_nil ?_
            go_wp2
            exact ⟨⟨k + 1, hlk, num_succ k, ST.out.drew, by rw [show i + (k + 1) = m + 1 by have := Hm.out; omega]; exact S.out.drew, SB.out.drew⟩, meas 4 k hlk⟩
          · have hk44 : k = 4 := by omega
            subst hk44
            have hi' := Hi.out
            go_wp2
            refine ⟨⟨n + 1, _, _, by omega, int_i64 (by omega), rfl, rfl, rfl, by rw [show 16 + 4 * (n + 1) = i + 4 by omega]; exact A3, B3⟩, ?_⟩
            simp [intOf]
            omega
    · have hn40 : n = 40 := by omega
      subst hn40
      rw [← HF.out] at A
      go_wp2
      go_ret
      exact ⟨rfl, A, hB⟩
end Go.Proofs.Ytflnhjbanlpjiai.W

namespace Go.Proofs.Ytflnhjbanlpjiai.W
open Go.ChangeShapes Go.WideShapes Go.ChangeAt Go.RowKit
open Go.Proofs.Ytflnhjbanlpjiai.M

theorem mul8 (n : Nat) (h : n ≤ 1000) : IntKind.i64.wrap (8 * (n : Int)) = 8 * (n : Int) := by rw [IntKind.wrap_i64]; omega
theorem pack8 (n : Nat) (w : World) (h : n ≤ 1000) :
    Calls Try.prog 44 #[.int .i64 (8 * (n : Int)), .int .i64 8] w fun e w' => ∃ v, e = .returned v ∧ Own w' w.heap.size v (packL (8 * n) 8) ∧ Below w.heap.size w w' := by
  have q := l1pack (8 * n) 8 w (by omega) (by omega) (by omega)
  rw [show ((8 * n : Nat) : Int) = 8 * (n : Int) by omega] at q
  exact q.mono fun e w' ⟨h1, h2, h3⟩ => ⟨_, h1, h2, h3⟩
theorem app_below {w w' w0 : World} {base B : Nat} {v : Value} {l : List Nat} (hO : Own w base v l) (hG : w.grownBy w' v.ownBlock) (hB : Below B w0 w) (hb : B ≤ base) (hz : B ≤ w.heap.size) : Below B w0 w' := hB.grown hG hz (hO.row hb)

set_option maxHeartbeats 2000000 in
set_option maxRecDepth 100000 in
theorem l3tag (gk : Nat) (F : Nat → Nat) (vn ve vc : Value) (n e c : List Nat) (w : World) (hK : Ar w gk 5 (rowTo 176 F 176)) (hF : ∀ j, F j < 256) (hn : Rd w vn n) (he : Rd w ve e) (hc : Rd w vc c) (yn : Byt n) (ye : Byt e) (yc : Byt c) (nn : n.length = 12) (ne : e.length ≤ 101) (nc : c.length ≤ 700) :
    Calls Try.prog 54 #[.slice (some ⟨gk, 0, none⟩) 176 176, vn, ve, vc] w fun r w' => ∃ v, r = .returned v ∧ Own w' w.heap.size v (tg F n e c) ∧ Below w.heap.size w w' := by
  obtain ⟨i0, hi, hz0, hz1, hz2⟩ := info_parts info8
  obtain ⟨p1, c1, rfl, -, -, -⟩ := hn.parts
  obtain ⟨p2, c2, rfl, -, -, -⟩ := he.parts
  obtain ⟨p3, c3, rfl, -, -, -⟩ := hc.parts
  have HK := hid hK
  have HKL := hid hK.lt
  have HN := hid hn
  have HE := hid he
  have HC := hid hc
  have NN := hid nn
  have NE := hid ne
  have NC := hid nc
  clear hK hn he hc nn ne nc
  go_enter Try.func54, Try.ntmps54
  go_wp2_with (at_make; refine wpList_make_full _ rfl _ _ 22 rfl w.heap.size 5 i0 (.int .u8 0) 1 Try.underlying22 hi hz0 hz1 .i64 .i64 _ _ 16 rfl rfl rfl rfl (by rw [hz2]; omega) (by unfold maxLen; omega) (Nat.le_refl _) ?_; intro w0 hown0 hgrow0)
  have Z0 := hid (show Own w0 w.heap.size (.slice (some ⟨w.heap.size, 0, none⟩) 16 16) (zs 16) from own_made w w0 16 hown0)
  have B0 := hid (below_of_grown hgrow0 (Nat.le_refl _) (fun k hk => by simp at hk))
  clear hown0 hgrow0 hi hz0 hz1 hz2
  refine (l2enc _ (zs 16) F gk _ Z0.out.rd (zs_byt 16) (zs_len 16) (HK.out.keep B0.out HKL.out) hF).mono ?_
  rintro r w1 ⟨vh, rfl, OH, hM⟩
  obtain ⟨bh, ch, rfl, hh1, hh2⟩ := own_spot OH (by rw [show (enc F (zs 16)).length = 16 from stt_len F _ (zs_len 16) 10]; omega)
  rw [show (enc F (zs 16)).length = 16 from stt_len F _ (zs_len 16) 10] at OH ⊢
  have RH := hid OH.rd
  have B1 := hid (B0.out.trans (hM.mono B0.out.size))
  clear OH hM Z0 B0 hh1 hh2
  go_wp2_with fail
  refine (l3whole _ e _ (HE.out.below B1.out) (by have := NE.out; omega)).mono ?_
  rintro r w2 ⟨v2, rfl, O2, hM⟩
  replace O2 := hid O2
  have H2 := hid hM
  have B2 := hid (B1.out.trans (hM.mono B1.out.size))
  clear hM
  have LE := hid (whole_len e)
  have LC := hid (whole_len c)
  have m1 := mul8 e.length (by have := NE.out; omega)
  have m2 := mul8 c.length (by have := NC.out; omega)
  go_wp2_with fail
  refine (l3whole _ c _ (HC.out.below B2.out) (by have := NC.out; omega)).mono ?_
  rintro r w3 ⟨v3, rfl, O3, hM⟩
  have P3 := hid (O2.out.below hM)
  have R3 := hid O3.rd
  have H3 := hid (H2.out.trans (hM.mono H2.out.size))
  have B3 := hid (B2.out.trans (hM.mono B2.out.size))
  clear hM O2 H2 B2 O3
  go_wp2_with (at_builtin; refine list_app rfl _ _ rfl _ _ (whole e) (whole c) w1.heap.size rfl rfl P3.out R3.out (by rw [LE.out, LC.out]; have := NE.out; have := NC.out; omega) (H3.out.size) ?_; intro v4 w4 O4 G4)
  have H4 := hid (app_below P3.out G4 H3.out (Nat.le_refl _) H3.out.size)
  have B4 := hid (app_below P3.out G4 B3.out B1.out.size B3.out.size)
  replace O4 := hid O4
  clear G4 P3 R3 H3 B3
  refine (pack8 e.length _ (by have := NE.out; omega)).mono ?_
  rintro r w5 ⟨v5, rfl, O5, hM⟩
  have P5 := hid (O4.out.below hM)
  have R5 := hid O5.rd
  have H5 := hid (H4.out.trans (hM.mono H4.out.size))
  have B5 := hid (B4.out.trans (hM.mono B4.out.size))
  clear hM O4 H4 B4 O5
  go_wp2_with (at_builtin; refine list_app rfl _ _ rfl _ _ (whole e ++ whole c) (packL (8 * e.length) 8) w1.heap.size rfl rfl P5.out R5.out (by rw [List.length_append, packL_len, LE.out, LC.out]; have := NE.out; have := NC.out; omega) (H5.out.size) ?_; intro v6 w6 O6 G6)
  have H6 := hid (app_below P5.out G6 H5.out (Nat.le_refl _) H5.out.size)
  have B6 := hid (app_below P5.out G6 B5.out B1.out.size B5.out.size)
  replace O6 := hid O6
  clear G6 P5 R5 H5 B5
  refine (pack8 c.length _ (by have := NC.out; omega)).mono ?_
  rintro r w7 ⟨v7, rfl, O7, hM⟩
  have P7 := hid (O6.out.below hM)
  have R7 := hid O7.rd
  have H7 := hid (H6.out.trans (hM.mono H6.out.size))
  have B7 := hid (B6.out.trans (hM.mono B6.out.size))
  clear hM O6 H6 B6 O7
  go_wp2_with (at_builtin; refine list_app rfl _ _ rfl _ _ (whole e ++ whole c ++ packL (8 * e.length) 8) (packL (8 * c.length) 8) w1.heap.size rfl rfl P7.out R7.out (by rw [List.length_append, List.length_append, packL_len, packL_len, LE.out, LC.out]; have := NE.out; have := NC.out; omega) (H7.out.size) ?_; intro v8 w8 O8 G8)
  have H8 := hid (app_below P7.out G8 H7.out (Nat.le_refl _) H7.out.size)
  have B8 := hid (app_below P7.out G8 B7.out B1.out.size B7.out.size)
  replace O8 := hid (show Own w8 w1.heap.size v8 (thash e c) from O8)
  clear G8 P7 R7 H7 B7
  refine (l3first _ n _ (HN.out.below B8.out) (by rw [NN.out]; omega)).mono ?_
  rintro r w9 ⟨v9, rfl, O9, hM⟩
  have P9 := hid (O8.out.below hM)
  have R9 := hid O9.rd
  have H9 := hid (H8.out.trans (hM.mono H8.out.size))
  have B9 := hid (B8.out.trans (hM.mono B8.out.size))
  clear hM O8 H8 B8 O9
  go_wp2_with fail
  refine (l2enc _ (jb n) F gk _ R9.out (jb_byt n yn) (jb_len n NN.out) (HK.out.keep B9.out HKL.out) hF).mono ?_
  rintro r w10 ⟨v10, rfl, O10, hM⟩
  have P10 := hid (P9.out.below hM)
  have R10 := hid O10
  have H10 := hid (H9.out.trans (hM.mono H9.out.size))
  have B10 := hid (B9.out.trans (hM.mono B9.out.size))
  clear hM P9 R9 H9 B9 O10
  go_wp2_with fail
  refine (l3hash _ _ (enc F (zs 16)) (thash e c) _ (RH.out.below H10.out) P10.out.rd (stt_byt F hF _ (zs_byt 16) 10) (thash_byt e c ye yc) (stt_len F _ (zs_len 16) 10) (by rw [thash_len, LE.out, LC.out]; have := NE.out; have := NC.out; omega)).mono ?_
  rintro r w11 ⟨g11, rfl, O11, hM⟩
  have R11 := hid (R10.out.below hM)
  have Q11 := hid O11
  have B11 := hid (B10.out.trans (hM.mono B10.out.size))
  clear hM P10 R10 H10 B10 O11
  go_wp2_with fail
  refine (l1xor _ _ (enc F (jb n)) (hshB (enc F (zs 16)) (thash e c)) _ R11.out.rd Q11.out.rd (stt_byt F hF _ (jb_byt n yn) 10) (hshB_byt _ _) (by rw [show (enc F (jb n)).length = 16 from stt_len F _ (jb_len n NN.out) 10]; omega) (by rw [show (enc F (jb n)).length = 16 from stt_len F _ (jb_len n NN.out) 10, hshB_len])).mono ?_
  rintro r w12 ⟨v12, rfl, O12, hM⟩
  have O13 := hid (O12.mono (base' := w.heap.size) B11.out.size)
  have B12 := hid (B11.out.trans (hM.mono B11.out.size))
  clear hM O12
  go_wp2
  go_ret
  exact ⟨v12, rfl, O13.out, B12.out⟩
end Go.Proofs.Ytflnhjbanlpjiai.W

namespace Go.Proofs.Ytflnhjbanlpjiai.M
open Go.RowKit
def askd (k n e : List Nat) : Bool := decide (k.length = 16 ∧ n.length = 12 ∧ e.length ≤ 100)
theorem askd_yes {k n e : List Nat} (h : askd k n e = true) : k.length = 16 ∧ n.length = 12 ∧ e.length ≤ 100 := by simpa [askd] using h
def slOk (k n e p : List Nat) : Bool := askd k n e && decide (p.length ≤ 600)
def slC (k n e p : List Nat) : Int := if slOk k n e p then 0 else 2
def slB (k n e p : List Nat) : List Nat := if slOk k n e p then sld (kf k) n e p else []
theorem slOk_parts {k n e p : List Nat} (h : slOk k n e p = true) : (k.length = 16 ∧ n.length = 12 ∧ e.length ≤ 100) ∧ p.length ≤ 600 := by
  simp only [slOk, Bool.and_eq_true, decide_eq_true_eq] at h
  exact ⟨askd_yes h.1, h.2⟩
theorem slB_len (k n e p : List Nat) : (slB k n e p).length ≤ 616 := by
  unfold slB
  split
  · rename_i h
    have q := slOk_parts h
    rw [sld_len _ _ _ _ q.1.2.1]
    omega
  · simp
def opOk (k n e s : List Nat) : Bool := askd k n e && decide (s.length ≤ 616)
def opC (k n e s : List Nat) : Int := if opOk k n e s then (if opens (kf k) n e s then 0 else 9) else 2
def opB (k n e s : List Nat) : List Nat := if opOk k n e s then (if opens (kf k) n e s then hid1 (kf k) n (s.take (s.length - 16)) else []) else []
theorem opOk_parts {k n e s : List Nat} (h : opOk k n e s = true) : (k.length = 16 ∧ n.length = 12 ∧ e.length ≤ 100) ∧ s.length ≤ 616 := by
  simp only [opOk, Bool.and_eq_true, decide_eq_true_eq] at h
  exact ⟨askd_yes h.1, h.2⟩
theorem opB_len (k n e s : List Nat) : (opB k n e s).length ≤ 616 := by
  unfold opB
  split
  · rename_i h
    have q := opOk_parts h
    split
    · rw [hid1, strm_len, List.length_take]
      omega
    · simp
  · simp
end Go.Proofs.Ytflnhjbanlpjiai.M

namespace Go.Proofs.Ytflnhjbanlpjiai.W
open Go.ChangeShapes Go.WideShapes Go.ChangeAt Go.RowKit
open Go.Proofs.Ytflnhjbanlpjiai.M

theorem l3asked (p1 p2 p3 : Option Addr) (c1 c2 c3 : Nat) (k n e : List Nat) (w : World) :
    Calls Try.prog 35 #[.slice p1 k.length c1, .slice p2 n.length c2, .slice p3 e.length c3] w fun r w' => r = .returned (.bool (askd k n e)) ∧ w' = w := by
  by_cases h1 : k.length = 16
  · by_cases h2 : n.length = 12
    · by_cases h3 : e.length ≤ 100
      · have E := hid (show askd k n e = true by simp [askd, h1, h2, h3])
        have d1 : ((k.length : Int) == 16) = true := by rw [h1]; rfl
        have d2 : ((n.length : Int) == 12) = true := by rw [h2]; rfl
        have d3 : (e.length : Int) ≤ 100 := by omega
        clear h1 h2 h3
        go_enter Try.func35, Try.ntmps35
        go_wp2
        go_ret
        exact ⟨ret_b E.out.symm, rfl⟩
      · have E := hid (show askd k n e = false by unfold askd; rw [decide_eq_false (fun h => h3 h.2.2)])
        have d1 : ((k.length : Int) == 16) = true := by rw [h1]; rfl
        have d2 : ((n.length : Int) == 12) = true := by rw [h2]; rfl
        have d3 : ¬ (e.length : Int) ≤ 100 := by omega
        clear h1 h2 h3
        go_enter Try.func35, Try.ntmps35
        go_wp2
        go_ret
        exact ⟨ret_b E.out.symm, rfl⟩
    · have E := hid (show askd k n e = false by unfold askd; rw [decide_eq_false (fun h => h2 h.2.1)])
      have d1 : ((k.length : Int) == 16) = true := by rw [h1]; rfl
      have d2 : ((n.length : Int) == 12) = false := by rw [beq_eq_false_iff_ne]; omega
      clear h1 h2
      go_enter Try.func35, Try.ntmps35
      go_wp2
      go_ret
      exact ⟨ret_b E.out.symm, rfl⟩
  · have E := hid (show askd k n e = false by unfold askd; rw [decide_eq_false (fun h => h1 h.1)])
    have d1 : ((k.length : Int) == 16) = false := by rw [beq_eq_false_iff_ne]; omega
    clear h1
    go_enter Try.func35, Try.ntmps35
    go_wp2
    go_ret
    exact ⟨ret_b E.out.symm, rfl⟩
end Go.Proofs.Ytflnhjbanlpjiai.W

namespace Go.Proofs.Ytflnhjbanlpjiai.W
open Go.ChangeShapes Go.WideShapes Go.ChangeAt Go.RowKit
open Go.Proofs.Ytflnhjbanlpjiai.M

set_option maxHeartbeats 1000000 in
set_option maxRecDepth 100000 in
theorem l3seal (vk vn ve vp : Value) (k n e p : List Nat) (w : World) (hk : Rd w vk k) (hn : Rd w vn n) (he : Rd w ve e) (hp : Rd w vp p) (yk : Byt k) (yn : Byt n) (ye : Byt e) (yp : Byt p) (nk : k.length = 16) (nn : n.length = 12) (ne : e.length ≤ 101) (np : p.length ≤ 700) :
    Calls Try.prog 36 #[vk, vn, ve, vp] w fun r w' => ∃ v, r = .returned v ∧ Own w' w.heap.size v (sld (kf k) n e p) ∧ Below w.heap.size w w' := by
  obtain ⟨p1, c1, rfl, -, -, -⟩ := hk.parts
  obtain ⟨p2, c2, rfl, -, -, -⟩ := hn.parts
  obtain ⟨p3, c3, rfl, -, -, -⟩ := he.parts
  obtain ⟨p4, c4, rfl, -, -, -⟩ := hp.parts
  have HN := hid hn
  have HE := hid he
  have HP := hid hp
  have HKy := hid hk
  have NK := hid nk
  have NN := hid nn
  have NE := hid ne
  have NP := hid np
  have HF := hid (kf_lt k yk)
  clear hk hn he hp nk nn ne np
  go_enter Try.func36, Try.ntmps36
  go_wp2_with fail
  refine (l2keys _ k _ HKy.out yk NK.out).mono ?_
  rintro r w1 ⟨rfl, K1, hM⟩
  have B1 := hid hM
  have K1 := hid K1
  have KL := hid (K1.out.lt)
  clear hM
  go_wp2_with fail
  refine (l3first _ n _ (HN.out.below B1.out) (by rw [NN.out]; omega)).mono ?_
  rintro r w2 ⟨v2, rfl, O2, hM⟩
  have R2 := hid O2.rd
  have K2 := hid (K1.out.below hM)
  have B2 := hid (B1.out.trans (hM.mono B1.out.size))
  clear hM O2 K1 B1
  go_wp2_with fail
  refine (l3count _ (jb n) _ R2.out (jb_byt n yn) (jb_len n NN.out)).mono ?_
  rintro r w3 ⟨v3, rfl, O3, hM⟩
  have R3 := hid O3.rd
  have K3 := hid (K2.out.below hM)
  have B3 := hid (B2.out.trans (hM.mono B2.out.size))
  clear hM O3 K2 B2 R2
  go_wp2_with fail
  refine (l3stream _ (kf k) _ _ (cu (jb n)) p _ K3.out HF.out R3.out (cu_len _ (jb_len n NN.out)) (cu_byt _ (jb_byt n yn)) (HP.out.below B3.out) yp (by have := NP.out; omega)).mono ?_
  rintro r w4 ⟨v4, rfl, O4, hM⟩
  replace O4 := hid (show Own w4 w3.heap.size v4 (hid1 (kf k) n p) from O4)
  have K4 := hid (K3.out.below hM)
  have B4 := hid (B3.out.trans (hM.mono B3.out.size))
  have Z3 := hid B3.out.size
  have Z34 := hid hM.size
  clear hM K3 B3 R3
  have HL := hid (show (hid1 (kf k) n p).length = p.length from strm_len _ _ _)
  go_wp2_with fail
  refine (l3tag _ (kf k) _ _ _ n e (hid1 (kf k) n p) _ K4.out HF.out (HN.out.below B4.out) (HE.out.below B4.out) O4.out.rd yn ye (strm_byt _ HF.out _ _ (cu_byt _ (jb_byt n yn)) yp) NN.out NE.out (by rw [HL.out]; exact NP.out)).mono ?_
  rintro r w5 ⟨v5, rfl, O5, hM⟩
  have P5 := hid (O4.out.below hM)
  have R5 := hid O5.rd
  have B5 := hid (B4.out.trans (hM.mono B4.out.size))
  have Z5 := hid (Nat.le_trans Z34.out hM.size)
  clear hM O4 B4 O5 K4
  go_wp2_with (at_builtin; refine list_app rfl _ _ rfl _ _ (hid1 (kf k) n p) (tg (kf k) n e (hid1 (kf k) n p)) w3.heap.size rfl rfl P5.out R5.out (by rw [HL.out, tg_len _ _ _ _ NN.out]; have := NP.out; omega) Z5.out ?_; intro v6 w6 O6 G6)
  have B6 := hid (app_below P5.out G6 B5.out Z3.out B5.out.size)
  have O7 := hid (show Own w6 w.heap.size v6 (sld (kf k) n e p) from O6.mono Z3.out)
  clear G6 O6
  go_wp2
  go_ret
  exact ⟨v6, rfl, O7.out, B6.out⟩

set_option maxRecDepth 100000 in
theorem ssl_ok (vk vn ve vp : Value) (k n e p : List Nat) (w : World) (hk : Rd w vk k) (hn : Rd w vn n) (he : Rd w ve e) (hp : Rd w vp p) (yk : Byt k) (yn : Byt n) (ye : Byt e) (yp : Byt p) (h : slOk k n e p = true) :
    Calls Try.prog 17 #[vk, vn, ve, vp] w fun r w' => ∃ v, r = .returned (.agg #[.int .i64 0, v]) ∧ Owx w' w.heap.size v (sld (kf k) n e p) ∧ Below w.heap.size w w' := by
  obtain ⟨p1, c1, rfl, -, -, -⟩ := hk.parts
  obtain ⟨p2, c2, rfl, -, -, -⟩ := hn.parts
  obtain ⟨p3, c3, rfl, -, -, -⟩ := he.parts
  obtain ⟨p4, c4, rfl, -, -, -⟩ := hp.parts
  have Q := hid (slOk_parts h)
  have A := hid (show askd k n e = true by simp only [slOk, Bool.and_eq_true] at h; exact h.1)
  have d4 : ¬ (600 : Int) < (p.length : Int) := by have := Q.out.2; omega
  have b0 := below_alloc1 w (.cells #[.int .i64 0, .slice none 0 0] 24)
  have HK := hid (hk.below b0)
  have HN := hid (hn.below b0)
  have HE := hid (he.below b0)
  have HP := hid (hp.below b0)
  clear hk hn he hp h b0
  go_enter Try.func17, Try.ntmps17
  go_wp2_with fail
  refine (l3asked _ _ _ _ _ _ k n e _).mono ?_
  rintro r w0 ⟨rfl, rfl⟩
  rw [A.out]
  go_wp2_with fail
  refine (l3seal _ _ _ _ k n e p _ HK.out HN.out HE.out HP.out yk yn ye yp Q.out.1.1 Q.out.1.2.1 (by have := Q.out.1.2.2; omega) (by have := Q.out.2; omega)).mono ?_
  rintro r w1 ⟨v, rfl, O, B1⟩
  simp only [World.size_alloc] at O
  obtain ⟨q, c, rfl, -, -, -⟩ := O.rd.parts
  have hv := var_below B1 (heap_alloc_new w (.cells #[.int .i64 0, .slice none 0 0] 24))
  have hB3 := (below_alloc1 w (.cells #[.int .i64 0, .slice none 0 0] 24)).trans (B1.mono (by simp))
  obtain ⟨f1, f2, f3, f4⟩ := var2_facts hv
  have hset := hid (var2_set (x' := .int .i64 0) (y' := .slice q (sld (kf k) n e p).length c) hv)
  have hbel := hid (below_set2 (x := .int .i64 0) (y := .slice q (sld (kf k) n e p).length c) hB3 (Nat.le_refl _))
  have hown := hid ((O.set2 (g := w.heap.size) (x := .int .i64 0) (y := .slice q (sld (kf k) n e p).length c) (by omega)).mono (base' := w.heap.size) (by omega)).x
  clear hv O B1 hB3 HK HN HE HP
  go_wp2
  exact bodyPost_ret (v := .agg #[.int .i64 0, .slice q (sld (kf k) n e p).length c]) (results_cell_row rfl _ _ w.heap.size 24 _ _ _ rfl hset.out Try.underlying24 rfl (by kernel_rfl)) rfl ⟨_, rfl, hown.out, hbel.out⟩

set_option maxRecDepth 100000 in
theorem ssl_no (vk vn ve vp : Value) (k n e p : List Nat) (w : World) (hk : Rd w vk k) (hn : Rd w vn n) (he : Rd w ve e) (hp : Rd w vp p) (h : slOk k n e p = false) :
    Calls Try.prog 17 #[vk, vn, ve, vp] w fun r w' => r = .returned (.agg #[.int .i64 2, .slice none 0 0]) ∧ Below w.heap.size w w' := by
  obtain ⟨p1, c1, rfl, -, -, -⟩ := hk.parts
  obtain ⟨p2, c2, rfl, -, -, -⟩ := hn.parts
  obtain ⟨p3, c3, rfl, -, -, -⟩ := he.parts
  obtain ⟨p4, c4, rfl, -, -, -⟩ := hp.parts
  clear hk hn he hp
  by_cases ha : askd k n e = true
  · have A := hid ha
    have d4 : (600 : Int) < (p.length : Int) := by
      simp only [slOk, ha, Bool.true_and, decide_eq_false_iff_not] at h
      omega
    clear ha h
    go_enter Try.func17, Try.ntmps17
    go_wp2_with fail
    refine (l3asked _ _ _ _ _ _ k n e _).mono ?_
    rintro r w0 ⟨rfl, rfl⟩
    rw [A.out]
    go_wp2
    exact bodyPost_ret (v := .agg #[.int .i64 2, .slice none 0 0]) (by simp [results, Try.results17, go_sem]) rfl ⟨rfl, below_alloc1 w _⟩
  · have A := hid (show askd k n e = false by simpa using ha)
    clear ha h
    go_enter Try.func17, Try.ntmps17
    go_wp2_with fail
    refine (l3asked _ _ _ _ _ _ k n e _).mono ?_
    rintro r w0 ⟨rfl, rfl⟩
    rw [A.out]
    go_wp2
    exact bodyPost_ret (v := .agg #[.int .i64 2, .slice none 0 0]) (by simp [results, Try.results17, go_sem]) rfl ⟨rfl, below_alloc1 w _⟩

theorem ssl (vk vn ve vp : Value) (k n e p : List Nat) (w : World) (hk : Rd w vk k) (hn : Rd w vn n) (he : Rd w ve e) (hp : Rd w vp p) (yk : Byt k) (yn : Byt n) (ye : Byt e) (yp : Byt p) :
    Calls Try.prog 17 #[vk, vn, ve, vp] w fun r w' => ∃ v, r = .returned (.agg #[.int .i64 (slC k n e p), v]) ∧ Owx w' w.heap.size v (slB k n e p) ∧ Below w.heap.size w w' := by
  by_cases h : slOk k n e p = true
  · rw [show slC k n e p = 0 by rw [slC, if_pos h], show slB k n e p = sld (kf k) n e p by rw [slB, if_pos h]]
    exact ssl_ok vk vn ve vp k n e p w hk hn he hp yk yn ye yp h
  · rw [show slC k n e p = 2 by rw [slC, if_neg h], show slB k n e p = [] by rw [slB, if_neg h]]
    exact (ssl_no vk vn ve vp k n e p w hk hn he hp (by simpa using h)).mono fun e w' ⟨he, hb⟩ => ⟨_, he, Owx.nil _ _, hb⟩
end Go.Proofs.Ytflnhjbanlpjiai.W

namespace Go.Proofs.Ytflnhjbanlpjiai.W
open Go.ChangeShapes Go.WideShapes Go.ChangeAt Go.RowKit
open Go.Proofs.Ytflnhjbanlpjiai.M

theorem below_alloc3 (w : World) (a b c : Obj) : Below w.heap.size w (((w.alloc a).alloc b).alloc c) := (below_alloc2 w a b).alloc (by simp; omega) _
/-- A group element's cells, and it as a value. -/
def ec (p : Nat × Nat) : Array Value := #[.int .u64 (p.1 : Int), .int .u64 (p.2 : Int)]
def ev (p : Nat × Nat) : Value := .agg (ec p)
theorem ec_size (p : Nat × Nat) : (Try.prog.info? 53).map (·.size) = some (ec p).size := by
  rw [show (ec p).size = 2 from rfl]; kernel_rfl
theorem ec_one (p : Nat × Nat) : (ec p).all (·.oneCell') = true := by
  rw [Array.all_eq_true_iff_forall_mem]
  intro v hv
  simp only [ec, List.mem_toArray, List.mem_cons, List.not_mem_nil, or_false] at hv
  rcases hv with rfl | rfl <;> rfl
/-- The block g is a group element. -/
def El (w : World) (g : Nat) (p : Nat × Nat) : Prop := w.heap[g]? = some (.cells (ec p) 53)
theorem El.below {w w' : World} {g : Nat} {p : Nat × Nat} (h : El w g p) (hb : Below w.heap.size w w') : El w' g p := var_below hb h
theorem El.row {w : World} {g : Nat} {p q : Nat × Nat} (h : El w g p) : El (w.setRow g (ec q)) g q := setRow_heap w g _ _ _ _ h
theorem El.far {w : World} {g g' : Nat} {p : Nat × Nat} (h : El w g p) (cs : Array Value) (hne : g ≠ g') : El (w.setRow g' cs) g p := by
  unfold El
  rw [setRow_other w g' g cs hne]
  exact h
theorem El.drew {w : World} {g : Nat} {p : Nat × Nat} (h : El w g p) : El w.drew g p := h

end Go.Proofs.Ytflnhjbanlpjiai.W

namespace Go.Proofs.Ytflnhjbanlpjiai.W
open Go.ChangeShapes Go.WideShapes Go.ChangeAt Go.RowKit
open Go.Proofs.Ytflnhjbanlpjiai.M

theorem blk_size (l : List Nat) (hl : l.length = 16) : (Try.prog.info? 39).map (·.size) = some (arr l).size := by rw [arr_size, hl]; kernel_rfl

end Go.Proofs.Ytflnhjbanlpjiai.W

namespace Go.Proofs.Ytflnhjbanlpjiai.W
open Go.ChangeShapes Go.WideShapes Go.ChangeAt Go.RowKit
open Go.Proofs.Ytflnhjbanlpjiai.M

theorem rd_range {w : World} {b o n cap : Nat} {l : List Nat} (h : Rd w (.slice (some ⟨b, o, none⟩) n cap) l) : w.rangeAt b o (l.map bv) := fun j v hv => by
  obtain ⟨a, c, e, _, _, hcc⟩ := h
  have hj : j < l.length := by have := (List.getElem?_eq_some_iff.1 hv).1; simpa using this
  obtain ⟨b', o', e', hc⟩ := hcc j hj
  subst e'
  cases e
  rw [List.getElem?_map, List.getElem?_eq_getElem hj] at hv
  cases hv
  exact hc
theorem rangeAt.below {w w' : World} {b o : Nat} {cs : List Value} (h : w.rangeAt b o cs) (hb : Below w.heap.size w w') : w'.rangeAt b o cs := fun j v hv => cell_kept hb (h j v hv)
theorem setRow_alloc2 (w : World) (R : Obj) (c c' : Array Value) (t : TypeId) : ((w.alloc R).alloc (.cells c t)).setRow (w.heap.size + 1) c' = (w.alloc R).alloc (.cells c' t) := by
  have h := World.setRow_alloc_new (w.alloc R) c c' t
  rw [World.size_alloc] at h
  exact h
end Go.Proofs.Ytflnhjbanlpjiai.W

namespace Go.Proofs.Ytflnhjbanlpjiai.M
open Go.RowKit

theorem step_store_row {P : Program} {ops : Array Oper} {o : Oper} {a : Act} {w : World} {K : Act → World → Prop} {Q : Exit → Act → World → Prop} {E : Prop} (hgd : o.guard = none) (ty : TypeId) (x y : Operand) (ho : o.op = .store ty x y)
    (g : Nat) (cells : Array Value) (hx : a.eval x = .pointer (some ⟨g, 0, none⟩)) (hy : a.eval y = .agg cells)
    (t : TypeId) (old : Array Value) (hg : w.heap[g]? = some (.cells old t (0, 0))) (hi : (P.info? ty).map (·.size) = some cells.size)
    (hold : old.size = cells.size) (h1 : cells.all (·.oneCell') = true)
    (h : K (a.put o.dst undef) (w.setRow g cells)) : if Region.wanted o (yielded ops a.tmps) = true then Oper.wp P o a w K Q else E := by
  have hw : Region.wanted o (yielded ops a.tmps) = true := by simp [Region.wanted, hgd]
  rw [if_pos hw]
  exact wp_store_row ty x y ho g cells hx hy t old hg hi hold h1 h
theorem step_load_sub {P : Program} {ops : Array Oper} {op : Oper} {a : Act} {w : World} {K : Act → World → Prop} {Q : Exit → Act → World → Prop} {E : Prop} (hgd : op.guard = none) (ty : TypeId) (x : Operand) (ho : op.op = .load ty x)
    (b o : Nat) (hx : a.eval x = .pointer (some ⟨b, o, none⟩)) (l : List Nat) (hc : w.rangeAt b o (l.map bv)) (d : TypeDesc) (hu : P.underlying ty = some d) (hd : d.isRow = true) (hi : (P.info? ty).map (·.size) = some (arr l).size)
    (h : K (a.put op.dst (.agg (arr l))) w) : if Region.wanted op (yielded ops a.tmps) = true then Oper.wp P op a w K Q else E := by
  have hw : Region.wanted op (yielded ops a.tmps) = true := by simp [Region.wanted, hgd]
  rw [if_pos hw]
  exact wp_load_mid ty x ho b o hx (l.map bv) d hc hu hd (by rw [List.length_map, ← arr_size]; exact hi) h
end Go.Proofs.Ytflnhjbanlpjiai.M

namespace Go.Proofs.Ytflnhjbanlpjiai.W
open Go.ChangeShapes Go.WideShapes Go.ChangeAt Go.RowKit
open Go.Proofs.Ytflnhjbanlpjiai.M

/-- The cells of a sealer: its cipher, its group element, its first block. -/
def sc (gc : Nat) (h : Nat × Nat) (j : List Nat) : Array Value := #[.pointer (some ⟨gc, 0, none⟩), .int .u64 (h.1 : Int), .int .u64 (h.2 : Int)] ++ arr j
theorem sc_size (gc : Nat) (h : Nat × Nat) (j : List Nat) (hj : j.length = 16) : (sc gc h j).size = 19 := by rw [sc, Array.size_append, arr_size, hj]; rfl
theorem sc_info (gc : Nat) (h : Nat × Nat) (j : List Nat) (hj : j.length = 16) : (Try.prog.info? 55).map (·.size) = some (sc gc h j).size := by rw [sc_size gc h j hj]; kernel_rfl
theorem sc_one (gc : Nat) (h : Nat × Nat) (j : List Nat) : (sc gc h j).all (·.oneCell') = true := by
  rw [Array.all_eq_true_iff_forall_mem]
  intro v hv
  rcases Array.mem_append.1 hv with q | q
  · simp only [List.mem_toArray, List.mem_cons, List.not_mem_nil, or_false] at q
    rcases q with rfl | rfl | rfl <;> rfl
  · exact (Array.all_eq_true_iff_forall_mem.1 (arr_one j)) v q
/-- The block g is a sealer. -/
def Sv (w : World) (g gc : Nat) (h : Nat × Nat) (j : List Nat) : Prop := w.heap[g]? = some (.cells (sc gc h j) 55)
theorem Sv.below {w w' : World} {g gc : Nat} {h : Nat × Nat} {j : List Nat} (q : Sv w g gc h j) (hb : Below w.heap.size w w') : Sv w' g gc h j := var_below hb q
theorem sc_low (gc : Nat) (h : Nat × Nat) (j : List Nat) (i : Nat) (hi : i < 3) : (sc gc h j)[i]? = #[.pointer (some ⟨gc, 0, none⟩), .int .u64 (h.1 : Int), .int .u64 (h.2 : Int)][i]? := by
  unfold sc
  rw [Array.getElem?_append_left (by simpa using hi)]
theorem sc_high (gc : Nat) (h : Nat × Nat) (j : List Nat) (i : Nat) : (sc gc h j)[3 + i]? = (arr j)[i]? := by
  unfold sc
  rw [Array.getElem?_append_right (by simp)]
  simp
theorem Sv.c0 {w : World} {g gc : Nat} {h : Nat × Nat} {j : List Nat} (q : Sv w g gc h j) : w.cell? ⟨g, 0, none⟩ = some (.pointer (some ⟨gc, 0, none⟩)) := by rw [cell_of_row w g 0 _ _ _ q, sc_low _ _ _ _ (by omega)]; rfl
theorem Sv.c1 {w : World} {g gc : Nat} {h : Nat × Nat} {j : List Nat} (q : Sv w g gc h j) : w.cell? ⟨g, 1, none⟩ = some (.int .u64 (h.1 : Int)) := by rw [cell_of_row w g 1 _ _ _ q, sc_low _ _ _ _ (by omega)]; rfl
theorem Sv.c2 {w : World} {g gc : Nat} {h : Nat × Nat} {j : List Nat} (q : Sv w g gc h j) : w.cell? ⟨g, 2, none⟩ = some (.int .u64 (h.2 : Int)) := by rw [cell_of_row w g 2 _ _ _ q, sc_low _ _ _ _ (by omega)]; rfl
theorem Sv.range {w : World} {g gc : Nat} {h : Nat × Nat} {j : List Nat} (q : Sv w g gc h j) : w.rangeAt g 3 (j.map bv) := fun i v hv => by
  rw [cell_of_row w g (3 + i) _ _ _ q, sc_high]
  simp [arr, hv]
theorem sc_built (gc : Nat) (h : Nat × Nat) (j : List Nat) (hj : j.length = 16) : Try.prog.built 55 [(0, .pointer (some ⟨gc, 0, none⟩)), (1, .agg (ec h)), (2, .agg (arr j))] = some (sc gc h j) := by
  obtain ⟨a0, a1, a2, a3, a4, a5, a6, a7, a8, a9, b0, b1, b2, b3, b4, b5, rfl⟩ := list16 j hj
  kernel_rfl
theorem sc_eq {x : List (Nat × Value)} (gc : Nat) (h : Nat × Nat) (j : List Nat) (hj : j.length = 16) (hx : x = [(0, .pointer (some ⟨gc, 0, none⟩)), (1, .agg (ec h)), (2, .agg (arr j))]) : Try.prog.built 55 x = some (sc gc h j) := by rw [hx]; exact sc_built gc h j hj
theorem j_built : Try.prog.built 39 [(15, .int .u8 1)] = some (arr (zs 15 ++ [1])) := by kernel_rfl
theorem step_build {ops : Array Oper} {o : Oper} {a : Act} {w : World} {K : Act → World → Prop} {Q : Exit → Act → World → Prop} {E : Prop} (hgd : o.guard = none) (t : TypeId) (parts : Array (Nat × Operand)) (ho : o.op = .build t parts) (cells : Array Value)
    (hb : Try.prog.built t (parts.map fun (i, x) => (i, a.eval x)).toList = some cells) (h : K (a.put o.dst (.agg cells)) w) : if Region.wanted o (yielded ops a.tmps) = true then Oper.wp Try.prog o a w K Q else E := by
  have hw : Region.wanted o (yielded ops a.tmps) = true := by simp [Region.wanted, hgd]
  rw [if_pos hw]
  refine wp_build t parts ho (by rw [hb]; rfl) ?_
  rw [hb]
  exact h
theorem cut_blk (g : Nat) (w : World) : (Instr.sliceAt 39 (.pointer (some ⟨g, 0, none⟩)) none none none).run Try.prog w = .ok (.slice (some ⟨g, 0, none⟩) 16 16) w := by
  have hs : ∀ w : World, (sizeOf (Try.prog.elem 39)).run Try.prog w = .ok 1 w := fun _ => by kernel_rfl
  have hl : Try.prog.arrayLen 39 = 16 := by kernel_rfl
  rw [run_sliceAt_array_all (P := Try.prog) w 39 _ (by kernel_rfl), hs]
  simp [Result.andThen, slicedAt, Addr.add_lit, hl]
theorem cut_non (g : Nat) (w : World) : (Instr.sliceAt 57 (.pointer (some ⟨g, 0, none⟩)) none none none).run Try.prog w = .ok (.slice (some ⟨g, 0, none⟩) 12 12) w := by
  have hs : ∀ w : World, (sizeOf (Try.prog.elem 57)).run Try.prog w = .ok 1 w := fun _ => by kernel_rfl
  have hl : Try.prog.arrayLen 57 = 12 := by kernel_rfl
  rw [run_sliceAt_array_all (P := Try.prog) w 57 _ (by kernel_rfl), hs]
  simp [Result.andThen, slicedAt, Addr.add_lit, hl]
end Go.Proofs.Ytflnhjbanlpjiai.W

namespace Go.Proofs.Ytflnhjbanlpjiai.W
open Go.ChangeShapes Go.WideShapes Go.ChangeAt Go.RowKit
open Go.Proofs.Ytflnhjbanlpjiai.M

set_option maxHeartbeats 2000000 in
set_option maxRecDepth 100000 in
theorem turnd (a0 a1 a2 a3 c gx : Nat) (w : World) (x0 : a0 < 256) (x1 : a1 < 256) (x2 : a2 < 256) (x3 : a3 < 256) (xc : c < 256) (hX : ∀ a, a < 256 → w.cell? ⟨gx, a, none⟩ = some (.int .u8 (sbx a : Nat))) :
    Calls Try.prog 63 #[.agg (arr [a0, a1, a2, a3]), .pointer (some ⟨gx, 0, none⟩), .int .u8 (c : Int)] w fun e w' => e = .returned (.agg (arr [sbx a1 ^^^ c, sbx a2, sbx a3, sbx a0])) ∧ Below w.heap.size w w' := by
  have T := (Ar.new w 74 [a0, a1, a2, a3]).alloc (.cells #[.int .u8 0, .int .u8 0, .int .u8 0, .int .u8 0] 74)
  have R : Ar ((w.alloc (.cells (arr [a0, a1, a2, a3]) 74)).alloc (.cells #[.int .u8 0, .int .u8 0, .int .u8 0, .int .u8 0] 74)) (w.heap.size + 1) 74 [0, 0, 0, 0] := heap_alloc2_new w _ _
  have B := below_alloc2 w (.cells (arr [a0, a1, a2, a3]) 74) (.cells #[.int .u8 0, .int .u8 0, .int .u8 0, .int .u8 0] 74)
  have X0 := cell_kept B (hX a0 x0)
  have X1 := cell_kept B (hX a1 x1)
  have X2 := cell_kept B (hX a2 x2)
  have X3 := cell_kept B (hX a3 x3)
  have c0 := T.cell 0 (by simp)
  have c1 := T.cell 1 (by simp)
  have c2 := T.cell 2 (by simp)
  have c3 := T.cell 3 (by simp)
  rw [show gt [a0, a1, a2, a3] 0 = a0 from rfl] at c0
  rw [show gt [a0, a1, a2, a3] 1 = a1 from rfl] at c1
  rw [show gt [a0, a1, a2, a3] 2 = a2 from rfl] at c2
  rw [show gt [a0, a1, a2, a3] 3 = a3 from rfl] at c3
  have E := xor8 _ _ (sbx_lt a1 x1) xc
  have Z4 := hid (show (Try.prog.info? 74).map (·.size) = some (arr [sbx a1 ^^^ c, sbx a2, sbx a3, sbx a0]).size by rw [arr_size]; kernel_rfl)
  go_enter Try.func63, Try.ntmps63
  go_wp2_with fail
  generalize (w.alloc (.cells (arr [a0, a1, a2, a3]) 74)).alloc (.cells #[.int .u8 0, .int .u8 0, .int .u8 0, .int .u8 0] 74) = W at *
  replace R := hid R
  replace B := hid B
  clear T hX
  have p0 : (0 : Int) ≤ (a0 : Int) := by omega
  have q0 : (a0 : Int) < 256 := by omega
  have p1 : (0 : Int) ≤ (a1 : Int) := by omega
  have q1 : (a1 : Int) < 256 := by omega
  have p2 : (0 : Int) ≤ (a2 : Int) := by omega
  have q2 : (a2 : Int) < 256 := by omega
  have p3 : (0 : Int) ≤ (a3 : Int) := by omega
  have q3 : (a3 : Int) < 256 := by omega
  refine wp_region_still_tail 27 (by kernel_rfl) (by kernel_rfl) ?_
  change wpStill _ _ (World.drew _) (fun a' => wpList _ _ _ _ a' (World.drew _)) _ _
  simp only [List.take_succ_cons, List.take_zero, List.drop_succ_cons, List.drop_zero]
  repeat still_step
  refine wpStill_nil ?_
  have S := hid (R.out.drew.row (l' := [sbx a1 ^^^ c, sbx a2, sbx a3, sbx a0]))
  have SB := hid (below_row B.out.drew (g := w.heap.size + 1) (by omega) (arr [sbx a1 ^^^ c, sbx a2, sbx a3, sbx a0]))
  refine wpList_store_row rfl 74 _ _ rfl (w.heap.size + 1) (arr [sbx a1 ^^^ c, sbx a2, sbx a3, sbx a0]) rfl rfl 74 _ R.out.drew Z4.out (by rw [arr_size, arr_size]; rfl) (arr_one _) ?_
  go_wp2
  exact bodyPost_ret (v := .agg (arr [sbx a1 ^^^ c, sbx a2, sbx a3, sbx a0])) (results_cell_row rfl _ _ (w.heap.size + 1) 74 _ _ _ rfl S.out Try.underlying74 rfl Z4.out) rfl ⟨rfl, SB.out⟩
end Go.Proofs.Ytflnhjbanlpjiai.W

namespace Go.Proofs.Ytflnhjbanlpjiai.W
open Go.ChangeShapes Go.WideShapes Go.ChangeAt Go.RowKit
open Go.Proofs.Ytflnhjbanlpjiai.M

/-- The bounds that within is told. -/
def inB (x lo hi : Int) : Bool := decide (lo ≤ x ∧ x ≤ hi)

set_option maxRecDepth 100000 in
theorem within2 (x1 l1 h1 x2 l2 h2 : Int) (g : Nat) (w : World) (hg : w.heap[g]? = some (.cells #[.int .i64 x1, .int .i64 l1, .int .i64 h1, .int .i64 x2, .int .i64 l2, .int .i64 h2] 46)) :
    Calls Try.prog 32 #[.slice (some ⟨g, 0, none⟩) 2 2] w fun e w' => e = .returned (.bool (inB x1 l1 h1 && inB x2 l2 h2)) ∧ Below w.heap.size w w' := by
  have hgl : g < w.heap.size := (Array.getElem?_eq_some_iff.1 hg).1
  have c0 : w.cell? ⟨g, 0, none⟩ = some (.int .i64 x1) := by rw [cell_of_row w g 0 _ _ _ hg]; rfl
  have c1 : w.cell? ⟨g, 1, none⟩ = some (.int .i64 l1) := by rw [cell_of_row w g 1 _ _ _ hg]; rfl
  have c2 : w.cell? ⟨g, 2, none⟩ = some (.int .i64 h1) := by rw [cell_of_row w g 2 _ _ _ hg]; rfl
  have c3 : w.cell? ⟨g, 3, none⟩ = some (.int .i64 x2) := by rw [cell_of_row w g 3 _ _ _ hg]; rfl
  have c4 : w.cell? ⟨g, 4, none⟩ = some (.int .i64 l2) := by rw [cell_of_row w g 4 _ _ _ hg]; rfl
  have c5 : w.cell? ⟨g, 5, none⟩ = some (.int .i64 h2) := by rw [cell_of_row w g 5 _ _ _ hg]; rfl
  clear hg
  by_cases a1 : l1 ≤ x1
  · by_cases a2 : x1 ≤ h1
    · by_cases a3 : l2 ≤ x2
      · by_cases a4 : x2 ≤ h2
        · have E : Hid ((inB x1 l1 h1 && inB x2 l2 h2) = true) := by unfold Hid inB; simp [a1, a2, a3, a4]
          go_enter Try.func32, Try.ntmps32
          go_wp2
          refine wp_loop_rounds 3 ?_
          iterate 3
            rw [rounds_succ]
            go_wp2
          go_ret
          exact ⟨ret_b E.out.symm, below_alloc2 w _ _ ⟩
        · have E : Hid ((inB x1 l1 h1 && inB x2 l2 h2) = false) := by unfold Hid inB; rw [decide_eq_false (fun h : l2 ≤ x2 ∧ x2 ≤ h2 => a4 h.2), Bool.and_false]
          go_enter Try.func32, Try.ntmps32
          go_wp2
          refine wp_loop_rounds 2 ?_
          iterate 2
            rw [rounds_succ]
            go_wp2
          go_ret
          exact ⟨ret_b E.out.symm, below_alloc2 w _ _ ⟩
      · have E : Hid ((inB x1 l1 h1 && inB x2 l2 h2) = false) := by unfold Hid inB; rw [decide_eq_false (fun h : l2 ≤ x2 ∧ x2 ≤ h2 => a3 h.1), Bool.and_false]
        go_enter Try.func32, Try.ntmps32
        go_wp2
        refine wp_loop_rounds 2 ?_
        iterate 2
          rw [rounds_succ]
          go_wp2
        go_ret
        exact ⟨ret_b E.out.symm, below_alloc2 w _ _ ⟩
    · have E : Hid ((inB x1 l1 h1 && inB x2 l2 h2) = false) := by unfold Hid inB; rw [decide_eq_false (fun h : l1 ≤ x1 ∧ x1 ≤ h1 => a2 h.2), Bool.false_and]
      go_enter Try.func32, Try.ntmps32
      go_wp2
      refine wp_loop_rounds 1 ?_
      iterate 1
        rw [rounds_succ]
        go_wp2
      go_ret
      exact ⟨ret_b E.out.symm, below_alloc1 w _ ⟩
  · have E : Hid ((inB x1 l1 h1 && inB x2 l2 h2) = false) := by unfold Hid inB; rw [decide_eq_false (fun h : l1 ≤ x1 ∧ x1 ≤ h1 => a1 h.1), Bool.false_and]
    go_enter Try.func32, Try.ntmps32
    go_wp2
    refine wp_loop_rounds 1 ?_
    iterate 1
      rw [rounds_succ]
      go_wp2
    go_ret
    exact ⟨ret_b E.out.symm, below_alloc1 w _ ⟩

set_option maxRecDepth 100000 in
theorem within1 (x1 l1 h1 : Int) (g : Nat) (w : World) (hg : w.heap[g]? = some (.cells #[.int .i64 x1, .int .i64 l1, .int .i64 h1] 46)) :
    Calls Try.prog 32 #[.slice (some ⟨g, 0, none⟩) 1 1] w fun e w' => e = .returned (.bool (inB x1 l1 h1)) ∧ Below w.heap.size w w' := by
  have hgl : g < w.heap.size := (Array.getElem?_eq_some_iff.1 hg).1
  have c0 : w.cell? ⟨g, 0, none⟩ = some (.int .i64 x1) := by rw [cell_of_row w g 0 _ _ _ hg]; rfl
  have c1 : w.cell? ⟨g, 1, none⟩ = some (.int .i64 l1) := by rw [cell_of_row w g 1 _ _ _ hg]; rfl
  have c2 : w.cell? ⟨g, 2, none⟩ = some (.int .i64 h1) := by rw [cell_of_row w g 2 _ _ _ hg]; rfl
  clear hg
  by_cases a1 : l1 ≤ x1
  · by_cases a2 : x1 ≤ h1
    · have E : Hid (inB x1 l1 h1 = true) := by unfold Hid inB; simp [a1, a2]
      go_enter Try.func32, Try.ntmps32
      go_wp2
      refine wp_loop_rounds 2 ?_
      iterate 2
        rw [rounds_succ]
        go_wp2
      go_ret
      exact ⟨ret_b E.out.symm, below_alloc1 w _ ⟩
    · have E : Hid (inB x1 l1 h1 = false) := by unfold Hid inB; rw [decide_eq_false (fun h : l1 ≤ x1 ∧ x1 ≤ h1 => a2 h.2)]
      go_enter Try.func32, Try.ntmps32
      go_wp2
      refine wp_loop_rounds 1 ?_
      iterate 1
        rw [rounds_succ]
        go_wp2
      go_ret
      exact ⟨ret_b E.out.symm, below_alloc1 w _ ⟩
  · have E : Hid (inB x1 l1 h1 = false) := by unfold Hid inB; rw [decide_eq_false (fun h : l1 ≤ x1 ∧ x1 ≤ h1 => a1 h.1)]
    go_enter Try.func32, Try.ntmps32
    go_wp2
    refine wp_loop_rounds 1 ?_
    iterate 1
      rw [rounds_succ]
      go_wp2
    go_ret
    exact ⟨ret_b E.out.symm, below_alloc1 w _ ⟩
end Go.Proofs.Ytflnhjbanlpjiai.W

namespace Go.Proofs.Ytflnhjbanlpjiai.W
open Go.ChangeShapes Go.WideShapes Go.ChangeAt Go.RowKit
open Go.Proofs.Ytflnhjbanlpjiai.M

theorem tp1 (a : Nat) (ha : a < 256) (w : World) :
    Calls Try.prog 61 #[.int .u8 (a : Int)] w fun e w' => e = .returned (.int .u8 (xt a : Nat)) ∧ w' = w := by
  go_enter Try.func61, Try.ntmps61
  go_wp2
  · go_ret
    exact ⟨ret_int (xt_hi' a ‹_› ha), rfl⟩
  · go_ret
    exact ⟨ret_int (xt_lo' a ‹_› ha), rfl⟩

end Go.Proofs.Ytflnhjbanlpjiai.W

namespace Go.Proofs.Ytflnhjbanlpjiai.W
open Go.ChangeShapes Go.WideShapes Go.ChangeAt Go.RowKit
open Go.Proofs.Ytflnhjbanlpjiai.M

/-- The code and the value. -/
def rcC (i : Int) : Int := if 1 ≤ i ∧ i ≤ 10 then 0 else 3
def rcV (i : Int) : Int := if 1 ≤ i ∧ i ≤ 10 then ((xtN 1 (i.toNat - 1) : Nat) : Int) else 0
theorem xtN1_lt (k : Nat) : xtN 1 k < 256 := xtN_lt 1 (by omega) k
set_option maxRecDepth 100000 in
theorem ircon (i : Int) (w : World) :
    Calls Try.prog 64 #[.int .i64 i] w fun e w' => e = .returned (.agg #[.int .i64 (rcC i), .int .i64 (rcV i)]) ∧ Below w.heap.size w w' := by
  by_cases h : 1 ≤ i ∧ i ≤ 10
  · have hin : inB i 1 10 = true := by unfold inB; exact decide_eq_true h
    have C : Hid (rcC i = 0) := by unfold Hid rcC; rw [if_pos h]
    have V : Hid (rcV i = ((xtN 1 (i.toNat - 1) : Nat) : Int)) := by unfold Hid rcV; rw [if_pos h]
    obtain ⟨n, rfl⟩ : ∃ t : Nat, i = t := ⟨i.toNat, by omega⟩
    rw [C.out, V.out, Int.toNat_natCast]
    go_enter Try.func64, Try.ntmps64
    go_wp2_with fail
    refine (within1 _ _ _ _ _ (heap_alloc2_new w _ _)).mono ?_
    rintro e w1 ⟨rfl, hB⟩
    have hv : w1.heap[w.heap.size]? = some (.cells #[.int .i64 0, .int .i64 0] 85) := by rw [hB.block _ (by simp; omega)]; exact heap_alloc2_old w _ _
    have hb1 : Below w.heap.size w w1 := (below_alloc2 w _ _).trans (hB.mono (by simp; omega))
    clear hB
    go_wp2
    go_loop [3, 12] (fun p j => ∃ k : Nat, k + 1 ≤ n ∧ j = .int .i64 k ∧ p = .int .u8 (xtN 1 k : Nat)) (fun _ j => n - (intOf j).toNat)
    case atStart => exact ⟨0, by omega, rfl, rfl⟩
    case round =>
      obtain ⟨k, hk, rfl, rfl⟩ := hrel
      have hx := xtN1_lt k
      by_cases hlt : k + 1 < n
      · have X := hid (show xtN 1 (k + 1) = xt (xtN 1 k) from rfl)
        generalize xtN 1 k = x at *
        go_wp2_with fail
        refine (tp1 x hx _).mono ?_
        rintro e w' ⟨rfl, rfl⟩
        go_wp2_with fail
        exact ⟨⟨k + 1, by omega, by go_num, by rw [X.out]⟩, by simp [intOf]; omega⟩
      · have hk8 : k = n - 1 := by omega
        subst hk8
        obtain ⟨f1, f2, f3, f4⟩ := var2_facts hv
        have hset := var2_set (x' := .int .i64 0) (y' := .int .i64 (xtN 1 (n - 1) : Nat)) hv
        have hbel := below_set2 (x := .int .i64 0) (y := .int .i64 (xtN 1 (n - 1) : Nat)) hb1 (Nat.le_refl _)
        clear hv hb1
        go_wp2
        exact bodyPost_ret (v := .agg #[.int .i64 0, .int .i64 (xtN 1 (n - 1) : Nat)]) (results_cell_row rfl _ _ w.heap.size 85 _ _ _ rfl hset Try.underlying85 rfl (by kernel_rfl)) rfl ⟨rfl, hbel⟩
  · have hin : inB i 1 10 = false := by unfold inB; exact decide_eq_false h
    have C : Hid (rcC i = 3) := by unfold Hid rcC; rw [if_neg h]
    have V : Hid (rcV i = 0) := by unfold Hid rcV; rw [if_neg h]
    rw [C.out, V.out]
    clear h
    go_enter Try.func64, Try.ntmps64
    go_wp2_with fail
    refine (within1 _ _ _ _ _ (heap_alloc2_new w _ _)).mono ?_
    rintro e w1 ⟨rfl, hB⟩
    have hv : w1.heap[w.heap.size]? = some (.cells #[.int .i64 0, .int .i64 0] 85) := by rw [hB.block _ (by simp; omega)]; exact heap_alloc2_old w _ _
    have hb1 : Below w.heap.size w w1 := (below_alloc2 w _ _).trans (hB.mono (by simp; omega))
    obtain ⟨f1, f2, f3, f4⟩ := var2_facts hv
    have hset := var2_set (x' := .int .i64 3) (y' := .int .i64 0) hv
    have hbel := below_set2 (x := .int .i64 3) (y := .int .i64 0) hb1 (Nat.le_refl _)
    clear hB hv hb1
    go_wp2
    exact bodyPost_ret (v := .agg #[.int .i64 3, .int .i64 0]) (results_cell_row rfl _ _ w.heap.size 85 _ _ _ rfl hset Try.underlying85 rfl (by kernel_rfl)) rfl ⟨rfl, hbel⟩
end Go.Proofs.Ytflnhjbanlpjiai.W

namespace Go.Proofs.Ytflnhjbanlpjiai.W
open Go.ChangeShapes Go.WideShapes Go.ChangeAt Go.RowKit
open Go.Proofs.Ytflnhjbanlpjiai.M

theorem zero_words : ∀ w : World, (zeroValue 75).run Try.prog w = .ok (.agg (arr (zs 176))) w :=
  (zero_of_info (P := Try.prog) (t := 75) (v := .agg (arr (zs 176))) (n := 176) (by kernel_rfl)).1
theorem words_size (l : List Nat) (hl : l.length = 176) : (Try.prog.info? 75).map (·.size) = some (arr l).size := by rw [arr_size, hl]; kernel_rfl
theorem word_size (l : List Nat) (hl : l.length = 4) : (Try.prog.info? 74).map (·.size) = some (arr l).size := by rw [arr_size, hl]; kernel_rfl
/-- Where word i lies. -/
theorem idx_word (g o i : Nat) (hi : i < 44) (w : World) : (Instr.indexAt 75 (.pointer (some ⟨g, o, none⟩)) (.int .i64 (i : Int))).run Try.prog w = .ok (.pointer (some ⟨g, o + 4 * i, none⟩)) w := by
  have hs : ∀ w : World, (sizeOf (Try.prog.elem 75)).run Try.prog w = .ok 4 w := fun _ => by kernel_rfl
  have hl : Try.prog.arrayLen 75 = 44 := by kernel_rfl
  rw [run_indexAt_array (P := Try.prog) w 75 _ .i64 (i : Int) (by kernel_rfl), hl, if_pos (by omega), hs]
  simp [Result.andThen, Addr.add_lit, Nat.mul_comm]
theorem idx_byte (g o k : Nat) (hk : k < 4) (w : World) : (Instr.indexAt 74 (.pointer (some ⟨g, o, none⟩)) (.int .i64 (k : Int))).run Try.prog w = .ok (.pointer (some ⟨g, o + k, none⟩)) w := by
  have hs : ∀ w : World, (sizeOf (Try.prog.elem 74)).run Try.prog w = .ok 1 w := fun _ => by kernel_rfl
  have hl : Try.prog.arrayLen 74 = 4 := by kernel_rfl
  rw [run_indexAt_array (P := Try.prog) w 74 _ .i64 (k : Int) (by kernel_rfl), hl, if_pos (by omega), hs]
  simp [Result.andThen, Addr.add_lit]
/-- Four bytes of a key. -/
theorem cut_key (g c : Nat) (hc : c < 4) (w : World) : (Instr.sliceAt 38 (.pointer (some ⟨g, 0, none⟩)) (some (.int .i64 (4 * (c : Int)))) (some (.int .i64 (4 * ((c : Int) + 1)))) none).run Try.prog w = .ok (.slice (some ⟨g, 4 * c, none⟩) 4 (16 - 4 * c)) w := by
  have hs : ∀ w : World, (sizeOf (Try.prog.elem 38)).run Try.prog w = .ok 1 w := fun _ => by kernel_rfl
  rw [run_sliceAt_array_lh (P := Try.prog) w 38 _ (by kernel_rfl) .i64 .i64 (4 * (c : Int)) (4 * ((c : Int) + 1)) (by omega) (by omega) (by rw [show Try.prog.arrayLen 38 = 16 by kernel_rfl]; omega), hs]
  have e1 : (4 * (c : Int)).toNat = 4 * c := by omega
  have e2 : (4 * ((c : Int) + 1)).toNat = 4 * c + 4 := by omega
  have e3 : ¬ (16 = 4 * c) := by omega
  simp [Result.andThen, slicedAt, e1, e2, e3, Addr.add_lit, show Try.prog.arrayLen 38 = 16 by kernel_rfl]

set_option maxHeartbeats 2000000 in
set_option maxRecDepth 100000 in
theorem expk (key : List Nat) (gx : Nat) (w : World) (hk : key.length = 16) (y : Byt key) (hX : ∀ a, a < 256 → w.cell? ⟨gx, a, none⟩ = some (.int .u8 (sbx a : Nat))) :
    Calls Try.prog 51 #[.agg (arr key), .pointer (some ⟨gx, 0, none⟩)] w fun e w' => e = .returned (.agg (arr (rowTo 176 (kf key) 176))) ∧ Below w.heap.size w w' := by
  have hz1 := zero_words
  have HX := hid hX
  have HK := hid hk
  have KL := hid (kf_lt key y)
  have KS := hid (kf_step key hk)
  have KW := hid (kf_low key hk)
  clear hX
  go_enter Try.func51, Try.ntmps51
  go_wp2_with fail
  have K0 := ((Ar.new w 38 key).alloc (.cells (arr (zs 176)) 75)).alloc (.cells (arr (zs 176)) 75)
  have R0 : Ar ((w.alloc (.cells (arr key) 38)).alloc (.cells (arr (zs 176)) 75)) (w.heap.size + 1) 75 (zs 176) := heap_alloc2_new w _ _
  replace R0 := R0.alloc (.cells (arr (zs 176)) 75)
  have A0 : Ar (((w.alloc (.cells (arr key) 38)).alloc (.cells (arr (zs 176)) 75)).alloc (.cells (arr (zs 176)) 75)) (w.heap.size + 1 + 1) 75 (zs 176) := by
    have h := heap_alloc2_new (w.alloc (.cells (arr key) 38)) (.cells (arr (zs 176)) 75) (.cells (arr (zs 176)) 75)
    rw [World.size_alloc] at h
    exact h
  have B0 := (below_alloc2 w (.cells (arr key) 38) (.cells (arr (zs 176)) 75)).alloc (by simp; omega) (.cells (arr (zs 176)) 75)
  generalize ((w.alloc (.cells (arr key) 38)).alloc (.cells (arr (zs 176)) 75)).alloc (.cells (arr (zs 176)) 75) = W at *
  rw [← rowTo_zero 176 (kf key)] at A0
  obtain ⟨g, hg⟩ : ∃ g, g = w.heap.size + 1 + 1 := ⟨_, rfl⟩
  rw [← hg] at A0 ⊢
  have Hg := hid hg
  generalize hF : kf key = F at *
  have HF := hid hF
  clear hF hg hk
  go_loopw [6, 7, 8, 9] (fun s6 s7 s8 s9 wr => ∃ n : Nat, ∃ u6 u7 u8 : Value, n ≤ 44 ∧ s9 = .int .i64 n ∧ s6 = u6 ∧ s7 = u7 ∧ s8 = u8 ∧ Ar wr g 75 (rowTo 176 F (4 * n)) ∧ Ar wr (w.heap.size + 1) 75 (zs 176) ∧ Ar wr w.heap.size 38 key ∧ Below w.heap.size w wr) (fun _ _ _ s9 _ => 44 - (intOf s9).toNat)
  case atStart => exact ⟨0, _, _, _, by omega, rfl, rfl, rfl, rfl, A0, R0, K0, B0⟩
  case round =>
    obtain ⟨n, v6, v7, v8, hn, rfl, rfl, rfl, rfl, A, R, K, B⟩ := hrel
    clear A0 R0 K0 B0 hz1
    by_cases hlt : n < 44
    · have n0 : (0 : Int) ≤ (n : Int) := by omega
      have hgw := Hg.out
      by_cases h4 : n < 4
      · have n1 : (n : Int) < 4 := by omega
        have HS := cut_key w.heap.size n h4
        have HP := arr_at 74 5 4 Try.underlying74 (some ⟨w.heap.size, 4 * n, none⟩) 4 (16 - 4 * n) (Nat.le_refl _)
        have HI := idx_word g 0 n hlt
        rw [Nat.zero_add] at HI
        have hcl := sub_len key (4 * n) 4 (by rw [HK.out]; omega)
        have Z4 := hid (word_size (sub key (4 * n) 4) hcl)
        have ZL := hid hcl
        have RG := hid (K.range (4 * n) 4)
        have TH := hid (A.there (4 * n) 4 (by rw [rowTo_len]; omega))
        have SA := hid (A.set4 (by omega) (sub key (4 * n) 4) hcl (fun k hk => by rw [sub_gt _ _ _ _ hk, KW.out _ (by omega)]))
        have SR := hid (R.far4 (g' := g) (m := 4 * n) (by omega) (sub key (4 * n) 4) hcl)
        have SK := hid (K.far4 (g' := g) (m := 4 * n) (by omega) (sub key (4 * n) 4) hcl)
        have SB := hid (below_set4 (g := g) (m := 4 * n) B (by omega) (sub key (4 * n) 4) hcl)
        clear A R K B hcl hgw
        go_wp2_with (first | refine load_sub rfl 74 _ rfl w.heap.size (4 * n) rfl (sub key (4 * n) 4) RG.out _ Try.underlying74 rfl Z4.out ?_ | refine wpList_store_mid rfl 74 _ _ rfl g (4 * n) (arr (sub key (4 * n) 4)) rfl rfl (by rw [arr_size, ZL.out]; exact TH.out) Z4.out (arr_one _) ?_)
        exact ⟨⟨n + 1, _, _, _, hlt, num_succ n, rfl, rfl, rfl, SA.out, SR.out, SK.out, SB.out⟩, meas 44 n hlt⟩
      · obtain ⟨m, hm⟩ : ∃ m, n = m + 4 := ⟨n - 4, by omega⟩
        obtain ⟨j1, hj1⟩ : ∃ j, j = m + 3 := ⟨_, rfl⟩
        obtain ⟨p, hp⟩ : ∃ p, p = 12 + 4 * m := ⟨_, rfl⟩
        have n1 : ¬ (n : Int) < 4 := by omega
        have e1 : (n : Int) - 1 = (j1 : Int) := by omega
        have HI := idx_word g 0 j1 (by omega)
        rw [show 0 + 4 * j1 = p by omega] at HI
        have RG := hid (A.range4 (F p) (F (p + 1)) (F (p + 2)) (F (p + 3)) (p := p) (by rw [rowTo_len]; omega) (rowTo_gt _ _ _ _ (by omega) (by omega)) (rowTo_gt _ _ _ _ (by omega) (by omega)) (rowTo_gt _ _ _ _ (by omega) (by omega)) (rowTo_gt _ _ _ _ (by omega) (by omega)))
        have TY := hid (fun h => twl_yes F m p (p + 1) (p + 2) (p + 3) h hp rfl rfl rfl)
        have TN := hid (fun h => twl_no F m p (p + 1) (p + 2) (p + 3) h hp rfl rfl rfl)
        have x0 := KL.out p
        have x1 := KL.out (p + 1)
        have x2 := KL.out (p + 2)
        have x3 := KL.out (p + 3)
        generalize F p = a0 at *
        generalize F (p + 1) = a1 at *
        generalize F (p + 2) = a2 at *
        generalize F (p + 3) = a3 at *
        have Z4 := hid (word_size [a0, a1, a2, a3] rfl)
        have T1 := Ar.new wr 74 [a0, a1, a2, a3]
        have A1 := A.alloc (.cells (arr [a0, a1, a2, a3]) 74)
        have R1 := R.alloc (.cells (arr [a0, a1, a2, a3]) 74)
        have K1 := K.alloc (.cells (arr [a0, a1, a2, a3]) 74)
        have B1 := B.alloc B.size (.cells (arr [a0, a1, a2, a3]) 74)
        have hgt := A.lt
        have Hm := hid hm
        have Hp := hid hp
        have Hj := hid hj1
        have em : (n : Int) % 4 = ((m % 4 : Nat) : Int) := by omega
        clear A R K B hgw hm hp hj1 h4
        go_upto_if 30 with (first | refine load_sub rfl 74 _ rfl g p rfl [a0, a1, a2, a3] RG.out _ Try.underlying74 rfl Z4.out ?_ | refine wpList_store_row rfl 74 _ _ rfl wr.heap.size (arr [a0, a1, a2, a3]) rfl rfl 74 _ (heap_alloc_new wr _) Z4.out (by rw [arr_size]; rfl) (arr_one _) ?_)
        rw [World.setRow_alloc_new]
        generalize wr.alloc (.cells (arr [a0, a1, a2, a3]) 74) = x1w at *
        have Hgt : Hid (g < wr.heap.size) := hgt
        generalize wr.heap.size = gt at *
        replace T1 := hid T1
        replace A1 := hid A1
        replace R1 := hid R1
        replace K1 := hid K1
        replace B1 := hid B1
        go_cut [9] from 9 to 57 (fun c9 wx => c9 = .int .i64 n ∧ Ar wx gt 74 (twl F m) ∧ Ar wx g 75 (rowTo 176 F (4 * n)) ∧ Ar wx (w.heap.size + 1) 75 (zs 176) ∧ Ar wx w.heap.size 38 key ∧ Below w.heap.size w wx)
        case first =>
          by_cases hq : m % 4 = 0
          · have t30 : ((m : Int) % 4 == 0) = true := by rw [beq_iff_eq]; omega
            have TW := hid (TY.out hq)
            -- REGION 9
            obtain ⟨cc, hcc⟩ : ∃ c, c = xtN 1 ((m + 3) / 4) := ⟨_, rfl⟩
            rw [← hcc] at TW
            obtain ⟨dd, hdd⟩ : ∃ d, d = n / 4 := ⟨_, rfl⟩
            have hm' := Hm.out
            have CR : Hid (∀ w : World, Calls Try.prog 64 #[.int .i64 (dd : Int)] w fun e w' => e = .returned (.agg #[.int .i64 0, .int .i64 (cc : Nat)]) ∧ Below w.heap.size w w') := fun w => by
              have h := ircon (dd : Int) w
              have c1 : rcC (dd : Int) = 0 := by unfold rcC; rw [if_pos (by omega)]
              have c2 : rcV (dd : Int) = ((cc : Nat) : Int) := by unfold rcV; rw [if_pos (by omega), hcc, Int.toNat_natCast, show dd - 1 = (m + 3) / 4 by omega]
              rw [c1, c2] at h
              exact h
            have xc : cc < 256 := by rw [hcc]; exact xtN_lt 1 (by omega) _
            have e5 : (n : Int) / 4 = (dd : Int) := by omega
            have e6 : (n : Int).tdiv 4 = (dd : Int) := by rw [Int.tdiv_eq_ediv_of_nonneg (by omega)]; omega
            have ZT := hid (word_size [sbx a1 ^^^ cc, sbx a2, sbx a3, sbx a0] rfl)
            have e7 : IntKind.i64.wrap (dd : Int) = (dd : Int) := by rw [IntKind.wrap_i64]; omega
            have e8 : IntKind.u8.wrap (cc : Int) = (cc : Int) := by rw [IntKind.wrap_u8]; omega
            have hfl : ∀ w : World, (Instr.field 85 (.agg #[.int .i64 0, .int .i64 (cc : Int)]) 1).run Try.prog w = .ok (.int .i64 (cc : Int)) w := fun _ => by kernel_rfl
            have F1 := hid T1.out.drew
            have F2 := hid A1.out.drew
            have F3 := hid R1.out.drew
            have F4 := hid K1.out.drew
            have F5 := hid B1.out.drew
            clear TY TN hq hcc hdd hm' em T1 A1 R1 K1 B1
            go_wp2_with fail
            refine wp_region_held_drew (S := fun _ => True) (by kernel_rfl) trivial (fun hH => ?_)
            generalize x1w.drew = y1 at *
            refine wpAnyH_take (i := 1) (v := .pointer (some ⟨gx, 0, none⟩)) (by simp only [List.getElem?_toArray, List.getElem?_cons_succ, List.getElem?_cons_zero]; rfl) (by kernel_rfl) (by kernel_rfl) (by kernel_rfl) (by intro _ _ _ h; exact h) (Or.inl ⟨by rfl, fun w _ => by go_simp⟩) hH ?_
            simp only [Act.put, List.setIfInBounds_toArray, List.set_cons_zero, List.set_cons_succ]
            refine wpAnyH_take (i := 2) (v := .int .i64 (n : Int)) (by simp only [List.getElem?_toArray, List.getElem?_cons_succ, List.getElem?_cons_zero]; rfl) (by kernel_rfl) (by kernel_rfl) (by kernel_rfl) (by intro _ _ _ h; exact h) (Or.inl ⟨by rfl, fun w _ => by go_simp⟩) hH ?_
            simp only [Act.put, List.setIfInBounds_toArray, List.set_cons_zero, List.set_cons_succ]
            refine wpAnyH_take (i := 3) (v := .int .i64 (dd : Int)) (by simp only [List.getElem?_toArray, List.getElem?_cons_succ, List.getElem?_cons_zero]; rfl) (by kernel_rfl) (by kernel_rfl) (by kernel_rfl) (by intro _ _ _ h; exact h) (Or.inl ⟨by rfl, fun w _ => by go_simp⟩) hH ?_
            simp only [Act.put, List.setIfInBounds_toArray, List.set_cons_zero, List.set_cons_succ]
            refine wpAnyH_ready (rs := [0, 4]) (by kernel_rfl) (by simp) ?_
            refine AllReadyH.cons (by simp only [List.getElem?_toArray, List.getElem?_cons_zero]; rfl) (fun K hK => ?_) ?_
            · skip
              refine step_load_sub (by rfl) 74 _ (by rfl) gt 0 (by rfl) [a0, a1, a2, a3] (Ar.range4 F1.out a0 a1 a2 a3 (p := 0) (by simp) rfl rfl rfl rfl) _ Try.underlying74 rfl Z4.out ?_
              refine hK.out _ _ trivial (fun hH => ?_)
              clear hK K
              simp only [Act.put, List.setIfInBounds_toArray, List.set_cons_zero, List.set_cons_succ]
              refine wpAnyH_ready (rs := [4]) (by kernel_rfl) (by simp) ?_
              refine AllReadyH.cons (by simp only [List.getElem?_toArray, List.getElem?_cons_succ, List.getElem?_cons_zero]; rfl) (fun K hK => ?_) AllReadyH.nil
              go_simp
              refine (CR.out _).mono ?_
              rintro e y2 ⟨rfl, hM⟩
              refine hK.out _ _ trivial (fun hH => ?_)
              clear hK K
              replace F1 := hid (F1.out.below hM)
              replace F2 := hid (F2.out.below hM)
              replace F3 := hid (F3.out.below hM)
              replace F4 := hid (F4.out.below hM)
              replace F5 := hid (F5.out.trans (hM.mono F5.out.size))
              clear hM
              refine wpAnyH_take (i := 5) (v := .int .i64 (cc : Int)) (by simp only [List.getElem?_toArray, List.getElem?_cons_succ, List.getElem?_cons_zero]; rfl) (by kernel_rfl) (by kernel_rfl) (by kernel_rfl) (by intro _ _ _ h; exact h) (Or.inl ⟨by rfl, fun w _ => by go_simp⟩) hH ?_
              simp only [Act.put, List.setIfInBounds_toArray, List.set_cons_zero, List.set_cons_succ]
              refine wpAnyH_take (i := 6) (v := .int .u8 (cc : Int)) (by simp only [List.getElem?_toArray, List.getElem?_cons_succ, List.getElem?_cons_zero]; rfl) (by kernel_rfl) (by kernel_rfl) (by kernel_rfl) (by intro _ _ _ h; exact h) (Or.inl ⟨by rfl, fun w _ => by go_simp⟩) hH ?_
              simp only [Act.put, List.setIfInBounds_toArray, List.set_cons_zero, List.set_cons_succ]
              refine wpAnyH_ready (rs := [7]) (by kernel_rfl) (by simp) ?_
              refine AllReadyH.cons (by simp only [List.getElem?_toArray, List.getElem?_cons_succ, List.getElem?_cons_zero]; rfl) (fun K hK => ?_) AllReadyH.nil
              go_simp
              refine (turnd a0 a1 a2 a3 cc gx _ x0 x1 x2 x3 xc (fun a ha => cell_kept F5.out (HX.out a ha))).mono ?_
              rintro e y9 ⟨rfl, hM⟩
              refine hK.out _ _ trivial (fun hH => ?_)
              clear hK K
              replace F1 := hid (F1.out.below hM)
              replace F2 := hid (F2.out.below hM)
              replace F3 := hid (F3.out.below hM)
              replace F4 := hid (F4.out.below hM)
              replace F5 := hid (F5.out.trans (hM.mono F5.out.size))
              clear hM
              refine wpAnyH_ready (rs := [8]) (by kernel_rfl) (by simp) ?_
              refine AllReadyH.cons (by simp only [List.getElem?_toArray, List.getElem?_cons_succ, List.getElem?_cons_zero]; rfl) (fun K hK => ?_) AllReadyH.nil
              refine step_store_row (by rfl) _ _ _ (by rfl) gt (arr [sbx a1 ^^^ cc, sbx a2, sbx a3, sbx a0]) (by rfl) (by rfl) 74 _ F1.out ZT.out (by rw [arr_size, arr_size]; rfl) (arr_one _) ?_
              refine hK.out _ _ trivial (fun hH => ?_)
              clear hK K
              simp only [Act.put]
              refine wpAnyH_done (by kernel_rfl) ?_ _
              have q1 := Hgt.out
              have q2 := Hg.out
              have q3 := hid (show w.heap.size ≤ gt by omega)
              have q4 := hid (show g ≠ gt by omega)
              have q5 := hid (show w.heap.size + 1 ≠ gt by omega)
              have q6 := hid (show w.heap.size ≠ gt by omega)
              clear q1 q2
              go_wp2_with fail
              go_meet
              case rel => exact ⟨rfl, by rw [TW.out]; exact F1.out.row, F2.out.rowFar _ q4.out, F3.out.rowFar _ q5.out, F4.out.rowFar _ q6.out, below_row F5.out q3.out _⟩
            refine AllReadyH.cons (by simp only [List.getElem?_toArray, List.getElem?_cons_succ, List.getElem?_cons_zero]; rfl) (fun K hK => ?_) AllReadyH.nil
            go_simp
            refine (CR.out _).mono ?_
            rintro e y2 ⟨rfl, hM⟩
            refine hK.out _ _ trivial (fun hH => ?_)
            clear hK K
            replace F1 := hid (F1.out.below hM)
            replace F2 := hid (F2.out.below hM)
            replace F3 := hid (F3.out.below hM)
            replace F4 := hid (F4.out.below hM)
            replace F5 := hid (F5.out.trans (hM.mono F5.out.size))
            clear hM
            refine wpAnyH_take (i := 5) (v := .int .i64 (cc : Int)) (by simp only [List.getElem?_toArray, List.getElem?_cons_succ, List.getElem?_cons_zero]; rfl) (by kernel_rfl) (by kernel_rfl) (by kernel_rfl) (by intro _ _ _ h; exact h) (Or.inl ⟨by rfl, fun w _ => by go_simp⟩) hH ?_
            simp only [Act.put, List.setIfInBounds_toArray, List.set_cons_zero, List.set_cons_succ]
            refine wpAnyH_take (i := 6) (v := .int .u8 (cc : Int)) (by simp only [List.getElem?_toArray, List.getElem?_cons_succ, List.getElem?_cons_zero]; rfl) (by kernel_rfl) (by kernel_rfl) (by kernel_rfl) (by intro _ _ _ h; exact h) (Or.inl ⟨by rfl, fun w _ => by go_simp⟩) hH ?_
            simp only [Act.put, List.setIfInBounds_toArray, List.set_cons_zero, List.set_cons_succ]
            refine wpAnyH_ready (rs := [0]) (by kernel_rfl) (by simp) ?_
            refine AllReadyH.cons (by simp only [List.getElem?_toArray, List.getElem?_cons_zero]; rfl) (fun K hK => ?_) AllReadyH.nil
            refine step_load_sub (by rfl) 74 _ (by rfl) gt 0 (by rfl) [a0, a1, a2, a3] (Ar.range4 F1.out a0 a1 a2 a3 (p := 0) (by simp) rfl rfl rfl rfl) _ Try.underlying74 rfl Z4.out ?_
            refine hK.out _ _ trivial (fun hH => ?_)
            clear hK K
            simp only [Act.put, List.setIfInBounds_toArray, List.set_cons_zero, List.set_cons_succ]
            refine wpAnyH_ready (rs := [7]) (by kernel_rfl) (by simp) ?_
            refine AllReadyH.cons (by simp only [List.getElem?_toArray, List.getElem?_cons_succ, List.getElem?_cons_zero]; rfl) (fun K hK => ?_) AllReadyH.nil
            go_simp
            refine (turnd a0 a1 a2 a3 cc gx _ x0 x1 x2 x3 xc (fun a ha => cell_kept F5.out (HX.out a ha))).mono ?_
            rintro e y9 ⟨rfl, hM⟩
            refine hK.out _ _ trivial (fun hH => ?_)
            clear hK K
            replace F1 := hid (F1.out.below hM)
            replace F2 := hid (F2.out.below hM)
            replace F3 := hid (F3.out.below hM)
            replace F4 := hid (F4.out.below hM)
            replace F5 := hid (F5.out.trans (hM.mono F5.out.size))
            clear hM
            refine wpAnyH_ready (rs := [8]) (by kernel_rfl) (by simp) ?_
            refine AllReadyH.cons (by simp only [List.getElem?_toArray, List.getElem?_cons_succ, List.getElem?_cons_zero]; rfl) (fun K hK => ?_) AllReadyH.nil
            refine step_store_row (by rfl) _ _ _ (by rfl) gt (arr [sbx a1 ^^^ cc, sbx a2, sbx a3, sbx a0]) (by rfl) (by rfl) 74 _ F1.out ZT.out (by rw [arr_size, arr_size]; rfl) (arr_one _) ?_
            refine hK.out _ _ trivial (fun hH => ?_)
            clear hK K
            simp only [Act.put]
            refine wpAnyH_done (by kernel_rfl) ?_ _
            have q1 := Hgt.out
            have q2 := Hg.out
            have q3 := hid (show w.heap.size ≤ gt by omega)
            have q4 := hid (show g ≠ gt by omega)
            have q5 := hid (show w.heap.size + 1 ≠ gt by omega)
            have q6 := hid (show w.heap.size ≠ gt by omega)
            clear q1 q2
            go_wp2_with fail
            go_meet
            case rel => exact ⟨rfl, by rw [TW.out]; exact F1.out.row, F2.out.rowFar _ q4.out, F3.out.rowFar _ q5.out, F4.out.rowFar _ q6.out, below_row F5.out q3.out _⟩
          · have t30 : ((m : Int) % 4 == 0) = false := by rw [beq_eq_false_iff_ne]; omega
            have TW := hid (TN.out hq)
            clear TY TN hq
            go_wp2_with fail
            go_meet
            case rel => exact ⟨rfl, by rw [TW.out]; exact T1.out, A1.out, R1.out, K1.out, B1.out⟩
        case rest =>
          obtain ⟨rfl, T2, A2, R2, K2, B2⟩ := hcut
          clear A1 B1 T1 R1 K1 TY TN x0 x1 x2 x3 Z4 RG HI
          have KT := hid (fun k => tw_lt F KL.out m k)
          have hB0 := B2.size
          go_wp2_with fail
          go_loopw [8, 39] (fun s8 s39 ws => ∃ k : Nat, ∃ u : Value, k ≤ 4 ∧ s39 = .int .i64 k ∧ s8 = u ∧ Ar ws gt 74 (twl F m) ∧ Ar ws g 75 (rowTo 176 F (4 * n + k)) ∧ Ar ws (w.heap.size + 1) 75 (zs 176) ∧ Ar ws w.heap.size 38 key ∧ Below w.heap.size w ws) (fun _ s39 _ => 4 - (intOf s39).toNat)
          case atStart => exact ⟨0, _, by omega, rfl, rfl, T2, A2, R2, K2, B2⟩
          case round =>
            obtain ⟨k, v8', hk4, rfl, rfl, T3, A3, R3, K3, B3⟩ := hrel
            clear T2 A2 R2 K2 B2
            by_cases hlk : k < 4
            · obtain ⟨t, ht⟩ : ∃ t, t = 4 * n + k := ⟨_, rfl⟩
              obtain ⟨q, hq⟩ : ∃ q, q = 4 * m + k := ⟨_, rfl⟩
              have hm' := Hm.out
              have hgw := Hg.out
              rw [← ht] at A3
              have c1 := A3.cell q (by rw [rowTo_len]; omega)
              rw [rowTo_gt _ _ _ _ (by omega) (by omega)] at c1
              have c2 := T3.cell k (by rw [twl_len]; exact hlk)
              rw [twl_gt _ _ _ hlk] at c2
              have c3 : ∃ u, wr.cell? ⟨g, t, none⟩ = some u := ⟨_, A3.cell t (by rw [rowTo_len]; omega)⟩
              obtain ⟨u3, c3⟩ := c3
              have f3 := A3.open t
              have S := A3.stored t (F t)
              rw [rowTo_set 176 F t (by omega)] at S
              have ST := T3.far (g' := g) (k := t) (.int .u8 (F t : Nat)) (by have := Hgt.out; omega)
              have SR := R3.far (g' := g) (k := t) (.int .u8 (F t : Nat)) (by omega)
              have SK := K3.far (g' := g) (k := t) (.int .u8 (F t : Nat)) (by omega)
              have SB := B3.setCell (p := ⟨g, t, none⟩) (by simp; omega) (.int .u8 (F t : Nat))
              have hFm : F t = F q ^^^ tw F m k := by
                have := KS.out m k (by omega) hlk
                rw [show 16 + 4 * m + k = t by omega, show 4 * m + k = q by omega] at this
                exact this
              have y1 := KL.out q
              have y2 := KT.out k
              have E : bits .xor .u8 (F q : Nat) (tw F m k : Nat) = ((F t : Nat) : Int) := by rw [xor8 _ _ y1 y2, hFm]
              have e2 : (n : Int) - 4 = (m : Int) := by omega
              have k0 : (0 : Int) ≤ (k : Int) := by omega
              have k1 : (k : Int) < 4 := by omega
              have I1 := idx_word g 0 m (by omega)
              have I2 := idx_word g 0 n (by omega)
              rw [Nat.zero_add] at I1 I2
              have J1 := idx_byte g (4 * m) k hlk
              have J2 := idx_byte g (4 * n) k hlk
              rw [show 4 * m + k = q by omega] at J1
              rw [show 4 * n + k = t by omega] at J2
              have J3 := idx_byte gt 0 k hlk
              rw [Nat.zero_add] at J3
              have v2 : IntKind.i64.wrap (m : Int) = (m : Int) := by rw [IntKind.wrap_i64]; omega
              have Ht := hid ht
              replace S := hid S
              replace ST := hid ST
              replace SR := hid SR
              replace SK := hid SK
              replace SB := hid SB
              clear A3 T3 R3 K3 B3 ht hq hm' hFm hgw
              generalize F q = z1 at *
              generalize tw F m k = z2 at *
              generalize F t = z3 at *
              go_wp2_with fail
              refine wp_region_still_tail 14 (by kernel_rfl) (by kernel_rfl) ?_
              change wpStill _ _ (World.drew _) (fun a' => wpList _ _ _ _ a' (World.drew _)) _ _
              simp only [List.take_succ_cons, List.take_zero, List.drop_succ_cons, List.drop_zero]
              repeat still_step
              refine wpStill_nil ?_
              go_wp2
              exact ⟨⟨k + 1, _, hlk, num_succ k, rfl, ST.out.drew, by rw [show 4 * n + (k + 1) = t + 1 by have := Ht.out; omega]; exact S.out.drew, SR.out.drew, SK.out.drew, SB.out.drew⟩, meas 4 k hlk⟩
            · have hk44 : k = 4 := by omega
              subst hk44
              go_wp2
              exact ⟨⟨n + 1, _, _, _, hlt, num_succ n, rfl, rfl, rfl, by rw [show 4 * (n + 1) = 4 * n + 4 by omega]; exact A3, R3, K3, B3⟩, meas 44 n hlt⟩
    · have hn44 : n = 44 := by omega
      subst hn44
      rw [show 4 * 44 = 176 from rfl, ← HF.out] at A
      have Z := hid (words_size (rowTo 176 (kf key) 176) (rowTo_len _ _ _))
      have SR := hid (R.row (l' := rowTo 176 (kf key) 176))
      have SB := hid (below_row B (g := w.heap.size + 1) (by omega) (arr (rowTo 176 (kf key) 176)))
      have ho := hid (show (arr (zs 176)).size = (arr (rowTo 176 (kf key) 176)).size by rw [arr_size, arr_size, zs_len, rowTo_len])
      replace A := hid A
      replace R := hid R
      clear K B hlt
      go_wp2_with (first | refine wpList_load_row rfl 75 _ rfl g rfl 75 (arr (rowTo 176 (kf key) 176)) _ _ A.out Try.underlying75 rfl Z.out ?_ | refine wpList_store_row rfl 75 _ _ rfl (w.heap.size + 1) (arr (rowTo 176 (kf key) 176)) rfl rfl 75 _ R.out Z.out ho.out (arr_one _) ?_)
      exact bodyPost_ret (v := .agg (arr (rowTo 176 (kf key) 176))) (results_cell_row rfl _ _ (w.heap.size + 1) 75 _ _ _ rfl SR.out Try.underlying75 rfl Z.out) rfl ⟨rfl, SB.out⟩
end Go.Proofs.Ytflnhjbanlpjiai.W

namespace Go.Proofs.Ytflnhjbanlpjiai.W
open Go.ChangeShapes Go.WideShapes Go.ChangeAt Go.RowKit
open Go.Proofs.Ytflnhjbanlpjiai.M

theorem rot_0 (x : Nat) (hx : x < 256) : bits .or .u8 (x : Int) ((x : Int) / 256) = ((rot x 0 : Nat) : Int) := by
  have h := rot_at x 1 256 hx
  have e : (x : Int) * ((1 : Nat) : Int) % 256 = x := by omega
  rw [e] at h
  exact h

theorem rotl (x : Nat) (k : Int) (hx : x < 256) (hk : k = 0 ∨ k = -4 ∨ k = -5 ∨ k = -6 ∨ k = -7) (w : World) :
    Calls Try.prog 75 #[.int .u8 (x : Int), .int .i64 k] w fun e w' => e = .returned (.int .u8 (rot x (-k).toNat : Nat)) ∧ w' = w := by
  have f0 : bits .and .u64 0 7 = 0 := by decide +kernel
  have f4 : bits .and .u64 (IntKind.u64.wrap (-4)) 7 = 4 := by decide +kernel
  have f5 : bits .and .u64 (IntKind.u64.wrap (-5)) 7 = 3 := by decide +kernel
  have f6 : bits .and .u64 (IntKind.u64.wrap (-6)) 7 = 2 := by decide +kernel
  have f7 : bits .and .u64 (IntKind.u64.wrap (-7)) 7 = 1 := by decide +kernel
  rcases hk with rfl | rfl | rfl | rfl | rfl
  all_goals
    go_enter Try.func75, Try.ntmps75
    go_wp2
    go_ret
    refine ⟨ret_int ?_, rfl⟩
  · exact rot_0 x hx
  · exact rot_4 x hx
  · exact rot_5 x hx
  · exact rot_6 x hx
  · exact rot_7 x hx

set_option maxRecDepth 100000 in
theorem boi (x : Nat) (hl : x < 256) (w : World) :
    Calls Try.prog 62 #[.int .u8 (x : Int)] w fun e w' => e = .returned (.int .u8 (bi x : Nat)) ∧ w' = w := by
  have X : Hid (bi x = ((((99 ^^^ rot x 0) ^^^ rot x 4) ^^^ rot x 5) ^^^ rot x 6) ^^^ rot x 7) := rfl
  have i0 : ∀ w : World, (Instr.index 94 (.agg #[.int .i64 0, .int .i64 4, .int .i64 5, .int .i64 6, .int .i64 7]) (.int .i64 0)).run Try.prog w = .ok (.int .i64 0) w := fun _ => by kernel_rfl
  have i1 : ∀ w : World, (Instr.index 94 (.agg #[.int .i64 0, .int .i64 4, .int .i64 5, .int .i64 6, .int .i64 7]) (.int .i64 1)).run Try.prog w = .ok (.int .i64 4) w := fun _ => by kernel_rfl
  have i2 : ∀ w : World, (Instr.index 94 (.agg #[.int .i64 0, .int .i64 4, .int .i64 5, .int .i64 6, .int .i64 7]) (.int .i64 2)).run Try.prog w = .ok (.int .i64 5) w := fun _ => by kernel_rfl
  have i3 : ∀ w : World, (Instr.index 94 (.agg #[.int .i64 0, .int .i64 4, .int .i64 5, .int .i64 6, .int .i64 7]) (.int .i64 3)).run Try.prog w = .ok (.int .i64 6) w := fun _ => by kernel_rfl
  have i4 : ∀ w : World, (Instr.index 94 (.agg #[.int .i64 0, .int .i64 4, .int .i64 5, .int .i64 6, .int .i64 7]) (.int .i64 4)).run Try.prog w = .ok (.int .i64 7) w := fun _ => by kernel_rfl
  go_enter Try.func62, Try.ntmps62
  go_wp2
  refine wp_loop_rounds 6 ?_
  iterate 6
    rw [rounds_succ]
    go_wp2_with (go_at_call 75; refine (rotl x _ hl ?_ _).mono ?_; (omega); rintro e w' ⟨rfl, rfl⟩)
  go_ret
  exact ⟨ret_int (by rw [X.out]; exact sbx_sum x hl), rfl⟩

end Go.Proofs.Ytflnhjbanlpjiai.W

namespace Go.Proofs.Ytflnhjbanlpjiai.W
open Go.ChangeShapes Go.WideShapes Go.ChangeAt Go.RowKit
open Go.Proofs.Ytflnhjbanlpjiai.M

theorem zero_box : ∀ w : World, (zeroValue 69).run Try.prog w = .ok (.agg (arr (zs 256))) w :=
  (zero_of_info (P := Try.prog) (t := 69) (v := .agg (arr (zs 256))) (n := 256) (by kernel_rfl)).1
theorem zero_pws : ∀ w : World, (zeroValue 82).run Try.prog w = .ok (.agg (arr (zs 255))) w :=
  (zero_of_info (P := Try.prog) (t := 82) (v := .agg (arr (zs 255))) (n := 255) (by kernel_rfl)).1

theorem boi0 (w : World) :
    Calls Try.prog 62 #[.int .u8 0] w fun e w' => e = .returned (.int .u8 (bi 0 : Nat)) ∧ w' = w := boi 0 (by omega) w

set_option maxRecDepth 100000 in
theorem mkbox (w : World) :
    Calls Try.prog 50 #[] w fun e w' => e = .returned (.agg (arr boxL)) ∧ Below w.heap.size w w' := by
  have hz1 := zero_box
  have hz2 := zero_pws
  go_enter Try.func50, Try.ntmps50
  go_wp2_with fail
  go_loopw [2, 3, 7] (fun p i j wr => ∃ k : Nat, ∃ u : Value, k ≤ 255 ∧ j = .int .i64 k ∧ p = .int .u8 (pw k : Nat) ∧ i = u ∧ Ar wr w.heap.size 69 (zs 256) ∧ Ar wr (w.heap.size + 1) 82 (pws k) ∧ Below w.heap.size w wr) (fun _ _ j _ => 255 - (intOf j).toNat)
  case atStart => exact ⟨0, _, by omega, rfl, rfl, rfl, (Ar.new w _ _).alloc _, by rw [pws_zero]; exact heap_alloc2_new w _ _, below_alloc2 w _ _⟩
  case round =>
    obtain ⟨k, u, hk, rfl, rfl, rfl, A0, A1, hB⟩ := hrel
    by_cases hlt : k < 255
    · have hp := pw_lt k
      have hl := pws_len k hk
      have c1 : ∃ u, wr.cell? ⟨w.heap.size + 1, k, none⟩ = some u := ⟨_, A1.cell k (by omega)⟩
      obtain ⟨u1, c1⟩ := c1
      have f1 := A1.open k
      have S1 := A1.stored k (pw k)
      rw [pws_set k hlt] at S1
      have S0 := A0.far (g' := w.heap.size + 1) (k := k) (.int .u8 (pw k : Nat)) (by omega)
      have SB := hB.setCell (p := ⟨w.heap.size + 1, k, none⟩) (by simp) (.int .u8 (pw k : Nat))
      have X : Hid (pw (k + 1) = pw k ^^^ xt (pw k)) := rfl
      replace S1 := hid S1
      replace S0 := hid S0
      replace SB := hid SB
      clear A0 A1 hB
      generalize pw k = x at *
      go_wp2_with (go_at_call 61; refine (tp1 x hp _).mono ?_; rintro e w' ⟨rfl, rfl⟩)
      exact ⟨⟨k + 1, _, by omega, by go_num, int_u8 (by rw [X.out]; exact xor8 _ _ hp (xt_lt x)), rfl, S0.out, S1.out, SB.out⟩, by simp [intOf]; omega⟩
    · have hk8 : k = 255 := by omega
      subst hk8
      obtain ⟨w1, rfl⟩ : ∃ w1, w1 = wr := ⟨_, rfl⟩
      clear hk hlt
      have hz := A1.lt
      have N2 := Ar.new w1 69 (zs 256)
      have N1 := A1.alloc (.cells (arr (zs 256)) 69)
      have N0 := A0.alloc (.cells (arr (zs 256)) 69)
      have NB := hB.alloc (by omega) (.cells (arr (zs 256)) 69)
      clear A0 A1 hB
      go_wp2_with fail
      refine (boi0 _).mono ?_
      rintro e w' ⟨rfl, rfl⟩
      generalize w1.alloc (.cells (arr (zs 256)) 69) = W at *
      generalize w1.heap.size = g at *
      have c2 := N2.cell 0 (by rw [zs_len]; omega)
      have f2 := N2.open 0
      have S2 := N2.stored 0 (bi 0)
      have S1 := N1.far (g' := g) (k := 0) (.int .u8 (bi 0 : Nat)) (by omega)
      have S0 := N0.far (g' := g) (k := 0) (.int .u8 (bi 0 : Nat)) (by omega)
      have SB := NB.setCell (p := ⟨g, 0, none⟩) (by simp; omega) (.int .u8 (bi 0 : Nat))
      rw [show (zs 256).set 0 (bi 0) = bx 0 from rfl] at S2
      clear N0 N1 N2 NB
      replace S2 := hid S2
      replace S1 := hid S1
      replace S0 := hid S0
      replace SB := hid SB
      go_wp2_with (refine wpList_load_row rfl 82 _ rfl (w.heap.size + 1) rfl 82 (arr (pws 255)) _ _ S1.out Try.underlying82 rfl (by rw [arr_size, pws_len 255 (by omega)]; kernel_rfl) ?_)
      go_loopw [5, 6, 21] (fun i p j wr => ∃ k : Nat, ∃ u v : Value, k ≤ 255 ∧ j = .int .i64 k ∧ i = u ∧ p = v ∧ Ar wr w.heap.size 69 (zs 256) ∧ Ar wr (w.heap.size + 1) 82 (pws 255) ∧ Ar wr g 69 (bx k) ∧ Below w.heap.size w wr) (fun _ _ j _ => 255 - (intOf j).toNat)
      case atStart => exact ⟨0, _, _, by omega, rfl, rfl, rfl, S0.out, S1.out, S2.out, SB.out⟩
      case round =>
        obtain ⟨k, u, v, hk, rfl, rfl, rfl, A0, A1, A2, hB⟩ := hrel
        clear S0 S1 S2 SB c2 f2 W
        by_cases hlt : k < 255
        · obtain ⟨j, hj⟩ : ∃ j, j = (255 - k) % 255 := ⟨_, rfl⟩
          have hj2 : j < 255 := by omega
          have ej : (255 - (k : Int)) % 255 = (j : Int) := by omega
          have X : Hid (bx (k + 1) = (bx k).set (pw k) (bi (pw j))) := by unfold Hid; rw [bx, hj]
          clear hj
          have hix := idx_arr 82 255 Try.underlying82 (pws 255) (pws_len 255 (by omega)) k hlt
          rw [gt_some _ _ _ (pws_at k hlt)] at hix
          have c1 := A1.cell j (by rw [pws_len 255 (by omega)]; exact hj2)
          rw [gt_some _ _ _ (pws_at j hj2)] at c1
          have hp := pw_lt k
          have hq := pw_lt j
          have c2 : ∃ u, wr.cell? ⟨g, pw k, none⟩ = some u := ⟨_, A2.cell (pw k) (by rw [bx_len]; exact hp)⟩
          obtain ⟨u2, c2⟩ := c2
          have f2 := A2.open (pw k)
          have S2 := hid (A2.stored (pw k) (bi (pw j)))
          have S1 := hid (A1.far (g' := g) (k := pw k) (.int .u8 (bi (pw j) : Nat)) (by omega))
          have S0 := hid (A0.far (g' := g) (k := pw k) (.int .u8 (bi (pw j) : Nat)) (by omega))
          have SB := hid (hB.setCell (p := ⟨g, pw k, none⟩) (by simp; omega) (.int .u8 (bi (pw j) : Nat)))
          clear A0 A1 A2 hB
          generalize pw k = x at *
          generalize pw j = y at *
          go_wp2_with fail
          refine (boi y hq _).mono ?_
          rintro e w' ⟨rfl, rfl⟩
          go_wp2_with fail
          exact ⟨⟨k + 1, _, _, by omega, by go_num, rfl, rfl, S0.out, S1.out, by rw [X.out]; exact S2.out, SB.out⟩, by simp [intOf]; omega⟩
        · have hk8 : k = 255 := by omega
          subst hk8
          rw [bx_end] at A2
          have hsz : (Try.prog.info? 69).map (·.size) = some (arr boxL).size := by rw [arr_size, boxL_len]; kernel_rfl
          have SR := A0.row (l' := boxL)
          have SB := below_row hB (Nat.le_refl _) (arr boxL)
          have ho : (arr (zs 256)).size = (arr boxL).size := by rw [arr_size, arr_size, zs_len, boxL_len]
          have A2 := hid A2
          have A0 := hid A0
          have SR := hid SR
          have SB := hid SB
          have ho := hid ho
          have hsz := hid hsz
          clear A1 hB
          go_wp2_with (first | refine wpList_load_row rfl 69 _ rfl g rfl 69 (arr boxL) _ _ A2.out Try.underlying69 rfl hsz.out ?_ | refine wpList_store_row rfl 69 _ _ rfl w.heap.size (arr boxL) rfl rfl 69 _ A0.out hsz.out ho.out (arr_one _) ?_)
          exact bodyPost_ret (v := .agg (arr boxL)) (results_cell_row rfl _ _ w.heap.size 69 _ _ _ rfl SR.out Try.underlying69 rfl hsz.out) rfl ⟨rfl, SB.out⟩
end Go.Proofs.Ytflnhjbanlpjiai.W

namespace Go.Proofs.Ytflnhjbanlpjiai.W
open Go.ChangeShapes Go.WideShapes Go.ChangeAt Go.RowKit
open Go.Proofs.Ytflnhjbanlpjiai.M

/-- The box, and the words behind it. -/
def cph (F : Nat → Nat) (m : Nat) : List Nat := boxL ++ rowTo 176 F m
theorem cph_len (F : Nat → Nat) (m : Nat) : (cph F m).length = 432 := by rw [cph, List.length_append, boxL_len, rowTo_len]
theorem cph_box (F : Nat → Nat) (m a : Nat) (ha : a < 256) : gt (cph F m) a = sbx a := by
  rw [cph, gt_append _ _ _ (by rw [boxL_len]; exact ha), gt_some _ _ _ (boxL_at a ha)]
theorem cph_word (F : Nat → Nat) (m j : Nat) : gt (cph F m) (256 + j) = gt (rowTo 176 F m) j := by
  have h := gt_append2 boxL (rowTo 176 F m) j
  rw [boxL_len] at h
  exact h
set_option maxRecDepth 100000 in
theorem cip_built : Try.prog.built 73 [(0, .agg (arr boxL))] = some (arr (boxL ++ zs 176)) := by kernel_rfl
theorem cip_eq {x : List (Nat × Value)} (h : x = [(0, .agg (arr boxL))]) : Try.prog.built 73 x = some (arr (boxL ++ zs 176)) := by rw [h]; exact cip_built
theorem build_eq {P : Program} {ops : Array Oper} {rest : List Oper} {o : Oper} {a : Act} {w : World} {Q : Exit → Act → World → Prop} (hg : o.guard = none) (t : TypeId) (parts : Array (Nat × Operand)) (ho : o.op = .build t parts) (cells : Array Value)
    (hb : P.built t (parts.map fun (i, x) => (i, a.eval x)).toList = some cells) (h : wpList P ops Q rest (a.put o.dst (.agg cells)) w) : wpList P ops Q (o :: rest) a w := by
  refine wpList_build hg t parts ho (by rw [hb]; rfl) ?_
  rw [hb]
  exact h
theorem cip_start (F : Nat → Nat) : boxL ++ zs 176 = cph F 0 := by rw [cph, rowTo_zero]
/-- Word i of all words. -/
theorem idx_all (l : List Nat) (i : Nat) (hi : i < 44) (w : World) : (Instr.index 75 (.agg (arr l)) (.int .i64 (i : Int))).run Try.prog w = .ok (.agg (arr (sub l (4 * i) 4))) w := by
  have hs : ∀ w : World, (sizeOf 74).run Try.prog w = .ok 4 w := fun _ => by kernel_rfl
  have hag : ∀ w : World, (isAgg 74).run Try.prog w = .ok true w := fun _ => by kernel_rfl
  have e : (arr l).extract (i * 4) (i * 4 + 4) = arr (sub l (4 * i) 4) := by
    apply Array.ext'
    rw [Array.toList_extract]
    unfold arr sub
    simp [List.extract, Nat.mul_comm, List.map_take, List.map_drop]
  simp [Instr.index, run_underlying Try.underlying75, asIntOf, part, hs, hag, e, go_sem]
  intro h
  omega
theorem cph_copy (F : Nat → Nat) (n : Nat) (hn : n < 44) : ((arr (cph F (4 * n))).toList.take (256 + 4 * n) ++ (sub (rowTo 176 F 176) (4 * n) 4).map bv ++ (arr (cph F (4 * n))).toList.drop (256 + 4 * n + 4)).toArray = arr (cph F (4 * n + 4)) := by
  unfold arr
  rw [List.toList_toArray, ← List.map_take, ← List.map_drop, ← List.map_append, ← List.map_append]
  congr 1
  congr 1
  have hl := cph_len F (4 * n)
  have hs := sub_len (rowTo 176 F 176) (4 * n) 4 (by rw [rowTo_len]; omega)
  apply List.ext_getElem?
  intro i
  have key : ∀ m j, (cph F m)[j]? = if j < 256 then some (sbx j) else if j < 432 then some (if j - 256 < m then F (j - 256) else 0) else none := fun m j => by
    unfold cph
    by_cases h1 : j < 256
    · rw [if_pos h1, List.getElem?_append_left (by rw [boxL_len]; exact h1), boxL_at j h1]
    · rw [if_neg h1, List.getElem?_append_right (by rw [boxL_len]; omega), boxL_len]
      by_cases h2 : j < 432
      · rw [if_pos h2, rowTo_get _ _ _ _ (by omega)]
      · rw [if_neg h2, List.getElem?_eq_none (by rw [rowTo_len]; omega)]
  have e1 : ((cph F (4 * n)).take (256 + 4 * n)).length = 256 + 4 * n := by rw [List.length_take, hl]; omega
  rw [key (4 * n + 4) i, List.append_assoc]
  by_cases c1 : i < 256 + 4 * n
  · rw [List.getElem?_append_left (by rw [e1]; exact c1), List.getElem?_take, if_pos c1, key]
    by_cases h1 : i < 256
    · rw [if_pos h1, if_pos h1]
    · rw [if_neg h1, if_neg h1, if_pos (by omega), if_pos (by omega), if_pos (by omega), if_pos (by omega)]
  · rw [List.getElem?_append_right (by rw [e1]; omega), e1, if_neg (by omega)]
    by_cases c2 : i < 256 + 4 * n + 4
    · rw [List.getElem?_append_left (by rw [hs]; omega), if_pos (by omega), if_pos (by omega)]
      unfold sub
      rw [List.getElem?_take, if_pos (by omega), List.getElem?_drop, rowTo_get _ _ _ _ (by omega), if_pos (by omega), show 4 * n + (i - (256 + 4 * n)) = i - 256 by omega]
    · rw [List.getElem?_append_right (by rw [hs]; omega), hs, List.getElem?_drop, key, show 256 + 4 * n + 4 + (i - (256 + 4 * n) - 4) = i by omega, if_neg (by omega)]
      by_cases h2 : i < 432
      · rw [if_pos h2, if_pos h2, if_neg (by omega), if_neg (by omega)]
      · rw [if_neg h2, if_neg h2]
end Go.Proofs.Ytflnhjbanlpjiai.W
