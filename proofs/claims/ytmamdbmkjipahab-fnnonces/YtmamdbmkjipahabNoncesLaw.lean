/-
  The law of nonces, out of the contracts of its callees.
-/
import Derived.Test.YtmamdbmkjipahabDrawNc
import Derived.Test.YtmamdbmkjipahabNcX
import Derived.Test.YtmamdbmkjipahabNoF
import Derived.Test.YtmamdbmkjipahabIrhL
import Derived.Test.YtmamdbmkjipahabLwWalks
import Derived.StillTailTactics
import Derived.Deep.RegionHeld3
namespace Go.Proofs.Ytmamdbmkjipahab.W
open Go.ChangeShapes Go.WideShapes Go.ChangeAt Go.RowKit
open Go.Proofs.Ytmamdbmkjipahab.M

theorem keepG {W a b : World} {p q : Nat} {x1 x2 z1 z2 : Value}
    (h : Below W.heap.size W a ∧ a.cell? ⟨p, 0, none⟩ = some x1 ∧ a.cell? ⟨p, 1, none⟩ = some x2 ∧ a.cell? ⟨q, 0, none⟩ = some z1 ∧ a.cell? ⟨q, 1, none⟩ = some z2) (hB : Below a.heap.size a b) :
    Below W.heap.size W b ∧ b.cell? ⟨p, 0, none⟩ = some x1 ∧ b.cell? ⟨p, 1, none⟩ = some x2 ∧ b.cell? ⟨q, 0, none⟩ = some z1 ∧ b.cell? ⟨q, 1, none⟩ = some z2 :=
  ⟨h.1.trans (hB.mono h.1.size), cell_kept hB h.2.1, cell_kept hB h.2.2.1, cell_kept hB h.2.2.2.1, cell_kept hB h.2.2.2.2⟩
theorem keepE {W a b : World} {p : Nat} {x1 x2 : Value}
    (h : Below W.heap.size W a ∧ a.cell? ⟨p, 0, none⟩ = some x1 ∧ a.cell? ⟨p, 1, none⟩ = some x2) (hB : Below a.heap.size a b) :
    Below W.heap.size W b ∧ b.cell? ⟨p, 0, none⟩ = some x1 ∧ b.cell? ⟨p, 1, none⟩ = some x2 :=
  ⟨h.1.trans (hB.mono h.1.size), cell_kept hB h.2.1, cell_kept hB h.2.2⟩
theorem sam_self (l : List Nat) : sameS l l = true := by simp [sameS]
theorem fldLR (c k s n : Int) (w : World) : (Instr.field 70 (.agg #[.int .i64 c, .int .i64 k, .int .i64 s, .int .i64 n, .slice none 0 0]) 0).run Try.prog w = .ok (.int .i64 c) w := by kernel_rfl

set_option maxHeartbeats 16000000 in
set_option maxRecDepth 100000 in
theorem law_no (v : Value) (l : List Nat) (w : World) (h : Rd w v l) (y : Byt l) :
    Calls Try.prog 7 #[v] w fun e w' => e = .returned (.bool true) ∧ Below w.heap.size w w' := by
  have RC := hid h
  obtain ⟨q, cap, rfl, _, _, _⟩ := h.parts
  clear h
  by_cases hl : l.length ≤ 1048576
  case neg =>
    go_enter Try.func7, Try.ntmps7
    go_wp2_with (go_at_call 8; go_in)
    go_ret
    exact ⟨rfl, Below.refl _ _⟩
  go_enter Try.func7, Try.ntmps7
  go_wp2_with (go_at_call 8; go_in)
  refine (drawNc _ l _ RC.out y hl).mono ?_
  rintro e w1 ⟨s, c, hsc, rfl, hBel⟩
  have SC := hid hsc
  replace RC := hid (RC.out.below hBel)
  have HB := hid hBel
  clear hBel hsc
  obtain ⟨cN0, BN0, hN⟩ := nc_some s c
  have NI := hid hN
  clear hN
  go_wp2_with fail
  refine (inc s c cN0 BN0 _ NI.out).mono ?_
  rintro e w2 ⟨vr, rfl, OE, hB⟩
  have RN := OE.rd
  obtain ⟨pN, kN, rfl, -, -, -⟩ := RN.parts
  replace RC := hid (RC.out.below hB)
  replace HB := hid (HB.out.trans (hB.mono HB.out.size))
  clear hB OE
  obtain ⟨BN, hb⟩ : ∃ B, B = BN0 := ⟨_, rfl⟩
  obtain ⟨cN, hc⟩ : ∃ c, c = cN0 := ⟨_, rfl⟩
  obtain ⟨mN, hm⟩ : ∃ m, m = BN.length := ⟨_, rfl⟩
  rw [← hb] at RN ⊢
  rw [← hc]
  rw [← hm] at RN ⊢
  have HBN := hid hb
  have HCN := hid hc
  have HMN := hid hm
  replace RN := hid RN
  clear hb hc hm
  go_wp2_with fail
  have VN := hid (heap_alloc_new w2 (.cells #[.int .i64 cN, .slice pN mN kN] 27))
  have hA := below_alloc1 w2 (.cells #[.int .i64 cN, .slice pN mN kN] 27)
  replace RC := hid (RC.out.below hA)
  replace RN := hid (RN.out.below hA)
  replace HB := hid (HB.out.trans (hA.mono HB.out.size))
  clear hA
  generalize w2.alloc (.cells #[.int .i64 cN, .slice pN mN kN] 27) = w2a at *
  generalize w2.heap.size = gN at *
  refine (drawHo _ l _ RC.out y hl).mono ?_
  rintro e w3 ⟨k2, s2, c2, hk2, rfl, hBel⟩
  have KC := hid hk2
  replace RC := hid (RC.out.below hBel)
  replace RN := hid (RN.out.below hBel)
  replace VN := hid (var_below hBel VN.out)
  replace HB := hid (HB.out.trans (hBel.mono HB.out.size))
  clear hBel hk2
  obtain ⟨cH0, BH0, hH⟩ := ho_some k2 s2 c2
  have HI := hid hH
  clear hH
  go_wp2_with fail
  refine (iho k2 s2 c2 cH0 BH0 _ HI.out).mono ?_
  rintro e w4 ⟨vr, rfl, OE, hB⟩
  have RH := OE.rd
  obtain ⟨pH, kH, rfl, -, -, -⟩ := RH.parts
  replace RC := hid (RC.out.below hB)
  replace RN := hid (RN.out.below hB)
  replace VN := hid (var_below hB VN.out)
  replace HB := hid (HB.out.trans (hB.mono HB.out.size))
  clear hB OE
  obtain ⟨BH, hb⟩ : ∃ B, B = BH0 := ⟨_, rfl⟩
  obtain ⟨cH, hc⟩ : ∃ c, c = cH0 := ⟨_, rfl⟩
  obtain ⟨mH, hm⟩ : ∃ m, m = BH.length := ⟨_, rfl⟩
  rw [← hb] at RH ⊢
  rw [← hc]
  rw [← hm] at RH ⊢
  have HBH := hid hb
  have HCH := hid hc
  have HMH := hid hm
  replace RH := hid RH
  clear hb hc hm
  go_wp2_with fail
  have VH := hid (heap_alloc_new w4 (.cells #[.int .i64 cH, .slice pH mH kH] 27))
  have hA := below_alloc1 w4 (.cells #[.int .i64 cH, .slice pH mH kH] 27)
  replace RC := hid (RC.out.below hA)
  replace RN := hid (RN.out.below hA)
  replace RH := hid (RH.out.below hA)
  replace VN := hid (var_below hA VN.out)
  replace HB := hid (HB.out.trans (hA.mono HB.out.size))
  clear hA
  generalize w4.alloc (.cells #[.int .i64 cH, .slice pH mH kH] 27) = w4a at *
  generalize w4.heap.size = gH at *
  obtain ⟨a0, a1, -, -⟩ := var2_facts VN.out
  obtain ⟨a2, a3, -, -⟩ := var2_facts VH.out
  have C1 := hid (fun (wq : World) (hb : Below w4a.heap.size w4a wq) => (snc  s c cN0 BN0 wq  NI.out).mono (R' := fun e w' => ∃ (p : Option Addr) (cc : Nat), e = .returned (.agg #[.int .i64 cN, .slice p mN cc]) ∧ Rd w' (.slice p mN cc) BN ∧ Below wq.heap.size wq w') (fun e w' ⟨r, he, ho, hb⟩ => by
    have q := ho.rd
    rw [← HBN.out] at q
    obtain ⟨p, cc, rfl, -, -, -⟩ := q.parts
    rw [← HCN.out] at he
    rw [← HMN.out] at he q
    exact ⟨p, cc, he, q, hb⟩))
  have C2 := hid (fun (wq : World) (hb : Below w4a.heap.size w4a wq) => (sho  k2 s2 c2 cH0 BH0 wq  HI.out).mono (R' := fun e w' => ∃ (p : Option Addr) (cc : Nat), e = .returned (.agg #[.int .i64 cH, .slice p mH cc]) ∧ Rd w' (.slice p mH cc) BH ∧ Below wq.heap.size wq w') (fun e w' ⟨r, he, ho, hb⟩ => by
    have q := ho.rd
    rw [← HBH.out] at q
    obtain ⟨p, cc, rfl, -, -, -⟩ := q.parts
    rw [← HCH.out] at he
    rw [← HMH.out] at he q
    exact ⟨p, cc, he, q, hb⟩))
  have C3 := hid (fun (t : List Nat) (wq : World) (va vb : Value) (ha : Rd wq va t) (hb : Rd wq vb t) => (lwsame va vb t t wq ha hb).mono (R' := fun e w' => e = .returned (.bool true) ∧ Below wq.heap.size wq w') (fun e w' ⟨he, hw⟩ => by
    rw [sam_self] at he
    exact ⟨he, by rw [hw]; exact Below.refl _ _⟩))
  have tg : (cN != cN) = false := by simp
  have tx : (cH != cH) = false := by simp
  have hf0 : ∀ (x : Int) (p : Option Addr) (m cc : Nat) (w : World), (Instr.field 27 (.agg #[.int .i64 x, .slice p m cc]) 0).run Try.prog w = .ok (.int .i64 x) w := fun _ _ _ _ _ => by kernel_rfl
  have hf1 : ∀ (x : Int) (p : Option Addr) (m cc : Nat) (w : World), (Instr.field 27 (.agg #[.int .i64 x, .slice p m cc]) 1).run Try.prog w = .ok (.slice p m cc) w := fun _ _ _ _ _ => by kernel_rfl
  go_wp2_with fail
  go_region_held3 (fun w' => Below w4a.heap.size w4a w' ∧ w'.cell? ⟨gN, 0, none⟩ = some (.int .i64 cN) ∧ w'.cell? ⟨gN, 1, none⟩ = some (.slice pN mN kN) ∧ w'.cell? ⟨gH, 0, none⟩ = some (.int .i64 cH) ∧ w'.cell? ⟨gH, 1, none⟩ = some (.slice pH mH kH))
    (first | exact ⟨(Below.refl _ _).drew, a0, a1, a2, a3⟩ | exact ⟨Below.refl _ _, a0, a1, a2, a3⟩ | exact keepG ‹_ ∧ _ ∧ _› hz)
    (first | (go_at_call 48; refine (C1.out _ ?_).mono ?_; exact (‹Below w4a.heap.size w4a _ ∧ _›).1; rintro e wq ⟨pq, cq, rfl, hq', hz⟩) | (go_at_call 49; refine (C2.out _ ?_).mono ?_; exact (‹Below w4a.heap.size w4a _ ∧ _›).1; rintro e wq ⟨pq, cq, rfl, hq, hz⟩) | (go_at_call 15; refine (C3.out _ _ _ _ ?_ hq).mono ?_; exact RH.out.below (‹Below w4a.heap.size w4a _ ∧ _›).1; rintro e wx ⟨rfl, hz⟩))
  have hS := (‹Below w4a.heap.size w4a wx ∧ _›).1
  replace RC := hid (RC.out.below hS)
  replace RN := hid (RN.out.below hS)
  replace RH := hid (RH.out.below hS)
  replace VN := hid (var_below hS VN.out)
  replace VH := hid (var_below hS VH.out)
  replace HB := hid (HB.out.trans (hS.mono HB.out.size))
  clear hS C1 C2 C3 hz hq hq' tg tx a0 a1 a2 a3
  rcases NI.out with ⟨n1, n2, n3⟩ | ⟨n1, n2, n3⟩
  · obtain ⟨sn, rfl⟩ : ∃ t : Nat, s = t := ⟨s.toNat, by have := n1.1.1; omega⟩
    obtain ⟨cn, rfl⟩ : ∃ t : Nat, c = t := ⟨c.toNat, by have := n1.2.1; omega⟩
    have hs15 : sn ≤ 15 := by have := n1.1.2; omega
    have hc9 : cn ≤ 1000000000 := by have := n1.2.2; omega
    have hc0 : cN = 0 := HCN.out.trans n2
    have hm0 : mN = 12 := by rw [HMN.out, HBN.out, n3, nonceL_len]
    have EN := hid (show BN = nonceL sn cn from HBN.out.trans (by rw [n3]; simp))
    subst hc0
    subst hm0
    clear n1 n2 n3 HCN HMN HBN NI
    rcases HI.out with ⟨h1, h2, h3⟩ | ⟨h1, h2, h3⟩
    · have hc0 : cH = 0 := HCH.out.trans h2
      have hm0 : mH = 11 := by rw [HMH.out, HBH.out, h3, headL_len]
      have EH := hid (show BH = headL k2.toNat s2.toNat c2.toNat from HBH.out.trans h3)
      subst hc0
      subst hm0
      have H1 := hid h1
      clear h1 h2 h3 HCH HMH HBH HI
      obtain ⟨a0, a1, -, -⟩ := var2_facts VH.out
      go_wp2_with fail
      clear a0 a1
      obtain ⟨dd, rk, rs, rc, hR⟩ := rh_some BH
      have D0 : dd = 0 := by
        rw [EH.out] at hR
        exact rh_head ⟨by have := H1.out.1; omega, by have := H1.out.1; omega⟩ (by have := H1.out.2.1; omega) (by have := H1.out.2.2; omega) hR
      have YB := hid (show Byt BH by rw [EH.out]; exact headL_byt _ _ _ (by have := H1.out.1; omega) (by have := H1.out.2.1; omega))
      refine (irhd _ BH dd rk rs rc _ RH.out YB.out (by rw [EH.out, headL_len]; omega) hR).mono ?_
      rintro e w6 ⟨rfl, hB⟩
      replace RC := hid (RC.out.below hB)
      replace RN := hid (RN.out.below hB)
      replace RH := hid (RH.out.below hB)
      replace VN := hid (var_below hB VN.out)
      replace VH := hid (var_below hB VH.out)
      replace HB := hid (HB.out.trans (hB.mono HB.out.size))
      have hf := fldLR dd rk rs rc
      subst D0
      clear hB hR
      obtain ⟨a0, a1, -, -⟩ := var2_facts VN.out
      go_wp2_with fail
      clear a0 a1
      obtain ⟨so, hso⟩ : ∃ t : Nat, t = (sn + 1) % 16 := ⟨_, rfl⟩
      have eX : ((sn : Int) + 1) % 16 = (so : Int) := by omega
      rw [eX]
      have SO := hid (show so ≤ 15 ∧ so ≠ sn by omega)
      have NO := hid (show ncIs (so : Int) (cn : Int) 0 (nonceL so cn) from .inl ⟨⟨⟨by omega, by omega⟩, by omega, by omega⟩, rfl, by simp⟩)
      clear eX hso
      refine (inc (so : Int) (cn : Int) 0 (nonceL so cn) _ NO.out).mono ?_
      rintro e w7 ⟨vr, rfl, OE, hB⟩
      have RO := OE.rd
      obtain ⟨pO, kO, rfl, -, -, -⟩ := RO.parts
      replace RC := hid (RC.out.below hB)
      replace RN := hid (RN.out.below hB)
      replace VN := hid (var_below hB VN.out)
      replace HB := hid (HB.out.trans (hB.mono HB.out.size))
      clear hB OE
      rw [nonceL_len] at RO ⊢
      replace RO := hid RO
      go_wp2_with fail
      have VO := hid (heap_alloc_new w7 (.cells #[.int .i64 0, .slice pO 12 kO] 27))
      have hA := below_alloc1 w7 (.cells #[.int .i64 0, .slice pO 12 kO] 27)
      replace RC := hid (RC.out.below hA)
      replace RN := hid (RN.out.below hA)
      replace RO := hid (RO.out.below hA)
      replace VN := hid (var_below hA VN.out)
      replace HB := hid (HB.out.trans (hA.mono HB.out.size))
      clear hA
      generalize w7.alloc (.cells #[.int .i64 0, .slice pO 12 kO] 27) = w7a at *
      generalize w7.heap.size = gO at *
      obtain ⟨cx, hcx⟩ : ∃ t : Nat, t = cn / 2 + 1 := ⟨_, rfl⟩
      have eY : (cn : Int) / 2 + 1 = (cx : Int) := by omega
      rw [eY]
      have CX := hid hcx
      have NX := hid (show ncIs (sn : Int) (cx : Int) 0 (nonceL sn cx) from .inl ⟨⟨⟨by omega, by omega⟩, by omega, by omega⟩, rfl, by simp⟩)
      have hx9 : cx ≤ 1000000000 := by omega
      clear hcx
      refine (inc (sn : Int) (cx : Int) 0 (nonceL sn cx) _ NX.out).mono ?_
      rintro e w8 ⟨vr, rfl, OE, hB⟩
      have RX := OE.rd
      obtain ⟨pX, kX, rfl, -, -, -⟩ := RX.parts
      replace RC := hid (RC.out.below hB)
      replace RN := hid (RN.out.below hB)
      replace RO := hid (RO.out.below hB)
      replace VN := hid (var_below hB VN.out)
      replace VO := hid (var_below hB VO.out)
      replace HB := hid (HB.out.trans (hB.mono HB.out.size))
      clear hB OE
      rw [nonceL_len] at RX ⊢
      replace RX := hid RX
      go_wp2_with fail
      have VX := hid (heap_alloc_new w8 (.cells #[.int .i64 0, .slice pX 12 kX] 27))
      have hA := below_alloc1 w8 (.cells #[.int .i64 0, .slice pX 12 kX] 27)
      replace RC := hid (RC.out.below hA)
      replace RN := hid (RN.out.below hA)
      replace RO := hid (RO.out.below hA)
      replace RX := hid (RX.out.below hA)
      replace VN := hid (var_below hA VN.out)
      replace VO := hid (var_below hA VO.out)
      replace HB := hid (HB.out.trans (hA.mono HB.out.size))
      clear hA
      generalize w8.alloc (.cells #[.int .i64 0, .slice pX 12 kX] 27) = w8a at *
      generalize w8.heap.size = gX at *
      obtain ⟨a0, a1, -, -⟩ := var2_facts VN.out
      obtain ⟨a2, a3, -, -⟩ := var2_facts VO.out
      obtain ⟨a4, a5, -, -⟩ := var2_facts VX.out
      have SF1 := hid (show sameS (nonceL so cn) BN = false by rw [EN.out]; exact same_no (nonceL_byt _ _) (nonceL_byt _ _) (nonce_s (by have := SO.out; omega) (by omega) SO.out.2))
      have ST := hid (show sameS BN (nonceL sn cn) = true by rw [EN.out]; exact same_yes _)
      have SP := hid (fun (wq : World) => snc (sn : Int) (cn : Int) 0 (nonceL sn cn) wq (.inl ⟨⟨⟨by omega, by omega⟩, by omega, by omega⟩, rfl, by simp⟩))
      have CX2 := CX.out
      by_cases hcc : cx = cn
      · have HCC := hid hcc
        have q14 : Hid (IntKind.i64.wrap ((cn : Int) / 2) = (cn : Int) / 2) := hid (by rw [IntKind.wrap_i64]; omega)
        have q15b : Hid (IntKind.i64.wrap (cx : Int) = (cx : Int)) := hid (by rw [IntKind.wrap_i64]; omega)
        have q15 : Hid (IntKind.i64.wrap ((cn : Int) / 2 + 1) = (cx : Int)) := hid (by rw [IntKind.wrap_i64]; omega)
        have q17 : ((cx : Int) == (cn : Int)) = true := by simp; omega
        clear hcc CX2
        refine wp_region_held_drew (S := fun w' => Below w8a.heap.size w8a w') (by kernel_rfl) (Below.refl _ _).drew (fun hH => ?_)
        refine wpAnyH_take (i := 0) (v := .pointer (some ⟨gN, 1, none⟩)) (by simp only [List.getElem?_toArray, List.getElem?_cons_zero]; rfl) (by kernel_rfl) (by kernel_rfl) (by kernel_rfl) (by intro _ _ _ h; exact h) (Or.inl ⟨by rfl, fun w hS => by go_simp⟩) hH ?_
        simp only [Act.put, List.setIfInBounds_toArray, List.set_cons_zero, List.set_cons_succ]
        refine wpAnyH_take (i := 1) (v := .slice pN 12 kN) (by simp only [List.getElem?_toArray, List.getElem?_cons_succ, List.getElem?_cons_zero]; rfl) (by kernel_rfl) (by kernel_rfl) (by kernel_rfl) (by intro _ _ _ h; exact h) (Or.inl ⟨by rfl, fun w hS => by (have y := cell_kept hS a1; go_simp)⟩) hH ?_
        simp only [Act.put, List.setIfInBounds_toArray, List.set_cons_zero, List.set_cons_succ]
        refine wpAnyH_take (i := 2) (v := .int .i64 12) (by simp only [List.getElem?_toArray, List.getElem?_cons_succ, List.getElem?_cons_zero]; rfl) (by kernel_rfl) (by kernel_rfl) (by kernel_rfl) (by intro _ _ _ h; exact h) (Or.inl ⟨by rfl, fun w hS => by go_simp⟩) hH ?_
        simp only [Act.put, List.setIfInBounds_toArray, List.set_cons_zero, List.set_cons_succ]
        refine wpAnyH_take (i := 3) (v := .bool true) (by simp only [List.getElem?_toArray, List.getElem?_cons_succ, List.getElem?_cons_zero]; rfl) (by kernel_rfl) (by kernel_rfl) (by kernel_rfl) (by intro _ _ _ h; exact h) (Or.inl ⟨by rfl, fun w hS => by go_simp⟩) hH ?_
        simp only [Act.put, List.setIfInBounds_toArray, List.set_cons_zero, List.set_cons_succ]
        refine wpAnyH_take (i := 4) (v := .bool true) (by simp only [List.getElem?_toArray, List.getElem?_cons_succ, List.getElem?_cons_zero]; rfl) (by kernel_rfl) (by kernel_rfl) (by kernel_rfl) (by intro _ _ _ h; exact h) (Or.inl ⟨by rfl, fun w hS => by go_simp⟩) hH ?_
        simp only [Act.put, List.setIfInBounds_toArray, List.set_cons_zero, List.set_cons_succ]
        refine wpAnyH_take (i := 5) (v := .pointer (some ⟨gO, 1, none⟩)) (by simp only [List.getElem?_toArray, List.getElem?_cons_succ, List.getElem?_cons_zero]; rfl) (by kernel_rfl) (by kernel_rfl) (by kernel_rfl) (by intro _ _ _ h; exact h) (Or.inl ⟨by rfl, fun w hS => by go_simp⟩) hH ?_
        simp only [Act.put, List.setIfInBounds_toArray, List.set_cons_zero, List.set_cons_succ]
        refine wpAnyH_take (i := 6) (v := .slice pO 12 kO) (by simp only [List.getElem?_toArray, List.getElem?_cons_succ, List.getElem?_cons_zero]; rfl) (by kernel_rfl) (by kernel_rfl) (by kernel_rfl) (by intro _ _ _ h; exact h) (Or.inl ⟨by rfl, fun w hS => by (have y := cell_kept hS a3; go_simp)⟩) hH ?_
        simp only [Act.put, List.setIfInBounds_toArray, List.set_cons_zero, List.set_cons_succ]
        refine wpAnyH_take (i := 7) (v := .pointer (some ⟨gN, 1, none⟩)) (by simp only [List.getElem?_toArray, List.getElem?_cons_succ, List.getElem?_cons_zero]; rfl) (by kernel_rfl) (by kernel_rfl) (by kernel_rfl) (by intro _ _ _ h; exact h) (Or.inl ⟨by rfl, fun w hS => by go_simp⟩) hH ?_
        simp only [Act.put, List.setIfInBounds_toArray, List.set_cons_zero, List.set_cons_succ]
        refine wpAnyH_take (i := 8) (v := .slice pN 12 kN) (by simp only [List.getElem?_toArray, List.getElem?_cons_succ, List.getElem?_cons_zero]; rfl) (by kernel_rfl) (by kernel_rfl) (by kernel_rfl) (by intro _ _ _ h; exact h) (Or.inl ⟨by rfl, fun w hS => by (have y := cell_kept hS a1; go_simp)⟩) hH ?_
        simp only [Act.put, List.setIfInBounds_toArray, List.set_cons_zero, List.set_cons_succ]
        refine wpAnyH_ready (rs := [9]) (by kernel_rfl) (by simp) ?_
        refine AllReadyH.cons (by simp only [List.getElem?_toArray, List.getElem?_cons_succ, List.getElem?_cons_zero]; rfl) (fun K hK => ?_) AllReadyH.nil
        go_simp
        refine (lwsame _ _ _ _ _ (RO.out.below hH) (RN.out.below hH)).mono ?_
        rintro e x9 ⟨rfl, hx⟩
        rw [SF1.out, hx]
        clear hx x9
        refine hK.out _ _ hH (fun hH => ?_)
        clear hK K
        refine wpAnyH_take (i := 10) (v := .bool true) (by simp only [List.getElem?_toArray, List.getElem?_cons_succ, List.getElem?_cons_zero]; rfl) (by kernel_rfl) (by kernel_rfl) (by kernel_rfl) (by intro _ _ _ h; exact h) (Or.inl ⟨by rfl, fun w hS => by go_simp⟩) hH ?_
        simp only [Act.put, List.setIfInBounds_toArray, List.set_cons_zero, List.set_cons_succ]
        refine wpAnyH_take (i := 11) (v := .bool true) (by simp only [List.getElem?_toArray, List.getElem?_cons_succ, List.getElem?_cons_zero]; rfl) (by kernel_rfl) (by kernel_rfl) (by kernel_rfl) (by intro _ _ _ h; exact h) (Or.inl ⟨by rfl, fun w hS => by go_simp⟩) hH ?_
        simp only [Act.put, List.setIfInBounds_toArray, List.set_cons_zero, List.set_cons_succ]
        refine wpAnyH_take (i := 12) (v := .bool true) (by simp only [List.getElem?_toArray, List.getElem?_cons_succ, List.getElem?_cons_zero]; rfl) (by kernel_rfl) (by kernel_rfl) (by kernel_rfl) (by intro _ _ _ h; exact h) (Or.inl ⟨by rfl, fun w hS => by go_simp⟩) hH ?_
        simp only [Act.put, List.setIfInBounds_toArray, List.set_cons_zero, List.set_cons_succ]
        refine wpAnyH_take (i := 13) (v := .int .i64 (cn : Int)) (by simp only [List.getElem?_toArray, List.getElem?_cons_succ, List.getElem?_cons_zero]; rfl) (by kernel_rfl) (by kernel_rfl) (by kernel_rfl) (by intro _ _ _ h; exact h) (Or.inl ⟨by rfl, fun w hS => by go_simp⟩) hH ?_
        simp only [Act.put, List.setIfInBounds_toArray, List.set_cons_zero, List.set_cons_succ]
        refine wpAnyH_take (i := 14) (v := .int .i64 ((cn : Int) / 2)) (by simp only [List.getElem?_toArray, List.getElem?_cons_succ, List.getElem?_cons_zero]; rfl) (by kernel_rfl) (by kernel_rfl) (by kernel_rfl) (by intro _ _ _ h; exact h) (Or.inl ⟨by rfl, fun w hS => by (go_simp; exact q14.out)⟩) hH ?_
        simp only [Act.put, List.setIfInBounds_toArray, List.set_cons_zero, List.set_cons_succ]
        refine wpAnyH_take (i := 15) (v := .int .i64 (cx : Int)) (by simp only [List.getElem?_toArray, List.getElem?_cons_succ, List.getElem?_cons_zero]; rfl) (by kernel_rfl) (by kernel_rfl) (by kernel_rfl) (by intro _ _ _ h; exact h) (Or.inl ⟨by rfl, fun w hS => by (go_simp; first | exact q15.out | exact q15b.out)⟩) hH ?_
        simp only [Act.put, List.setIfInBounds_toArray, List.set_cons_zero, List.set_cons_succ]
        refine wpAnyH_take (i := 16) (v := .int .i64 (cn : Int)) (by simp only [List.getElem?_toArray, List.getElem?_cons_succ, List.getElem?_cons_zero]; rfl) (by kernel_rfl) (by kernel_rfl) (by kernel_rfl) (by intro _ _ _ h; exact h) (Or.inl ⟨by rfl, fun w hS => by go_simp⟩) hH ?_
        simp only [Act.put, List.setIfInBounds_toArray, List.set_cons_zero, List.set_cons_succ]
        refine wpAnyH_take (i := 17) (v := .bool true) (by simp only [List.getElem?_toArray, List.getElem?_cons_succ, List.getElem?_cons_zero]; rfl) (by kernel_rfl) (by kernel_rfl) (by kernel_rfl) (by intro _ _ _ h; exact h) (Or.inl ⟨by rfl, fun w hS => by (have hq := q17; go_simp)⟩) hH ?_
        simp only [Act.put, List.setIfInBounds_toArray, List.set_cons_zero, List.set_cons_succ]
        refine wpAnyH_take (i := 18) (v := .bool true) (by simp only [List.getElem?_toArray, List.getElem?_cons_succ, List.getElem?_cons_zero]; rfl) (by kernel_rfl) (by kernel_rfl) (by kernel_rfl) (by intro _ _ _ h; exact h) (Or.inl ⟨by rfl, fun w hS => by go_simp⟩) hH ?_
        simp only [Act.put, List.setIfInBounds_toArray, List.set_cons_zero, List.set_cons_succ]
        refine wpAnyH_take (i := 19) (v := undef) (by simp only [List.getElem?_toArray, List.getElem?_cons_succ, List.getElem?_cons_zero]; rfl) (by kernel_rfl) (by kernel_rfl) (by kernel_rfl) (by intro _ _ _ h; exact h) (Or.inr ⟨by rfl, rfl⟩) hH ?_
        simp only [Act.put, List.setIfInBounds_toArray, List.set_cons_zero, List.set_cons_succ]
        refine wpAnyH_take (i := 20) (v := undef) (by simp only [List.getElem?_toArray, List.getElem?_cons_succ, List.getElem?_cons_zero]; rfl) (by kernel_rfl) (by kernel_rfl) (by kernel_rfl) (by intro _ _ _ h; exact h) (Or.inr ⟨by rfl, rfl⟩) hH ?_
        simp only [Act.put, List.setIfInBounds_toArray, List.set_cons_zero, List.set_cons_succ]
        refine wpAnyH_take (i := 21) (v := undef) (by simp only [List.getElem?_toArray, List.getElem?_cons_succ, List.getElem?_cons_zero]; rfl) (by kernel_rfl) (by kernel_rfl) (by kernel_rfl) (by intro _ _ _ h; exact h) (Or.inr ⟨by rfl, rfl⟩) hH ?_
        simp only [Act.put, List.setIfInBounds_toArray, List.set_cons_zero, List.set_cons_succ]
        refine wpAnyH_take (i := 22) (v := undef) (by simp only [List.getElem?_toArray, List.getElem?_cons_succ, List.getElem?_cons_zero]; rfl) (by kernel_rfl) (by kernel_rfl) (by kernel_rfl) (by intro _ _ _ h; exact h) (Or.inr ⟨by rfl, rfl⟩) hH ?_
        simp only [Act.put, List.setIfInBounds_toArray, List.set_cons_zero, List.set_cons_succ]
        refine wpAnyH_take (i := 23) (v := undef) (by simp only [List.getElem?_toArray, List.getElem?_cons_succ, List.getElem?_cons_zero]; rfl) (by kernel_rfl) (by kernel_rfl) (by kernel_rfl) (by intro _ _ _ h; exact h) (Or.inr ⟨by rfl, rfl⟩) hH ?_
        simp only [Act.put, List.setIfInBounds_toArray, List.set_cons_zero, List.set_cons_succ]
        refine wpAnyH_take (i := 24) (v := undef) (by simp only [List.getElem?_toArray, List.getElem?_cons_succ, List.getElem?_cons_zero]; rfl) (by kernel_rfl) (by kernel_rfl) (by kernel_rfl) (by intro _ _ _ h; exact h) (Or.inr ⟨by rfl, rfl⟩) hH ?_
        simp only [Act.put, List.setIfInBounds_toArray, List.set_cons_zero, List.set_cons_succ]
        refine wpAnyH_take (i := 25) (v := .bool true) (by simp only [List.getElem?_toArray, List.getElem?_cons_succ, List.getElem?_cons_zero]; rfl) (by kernel_rfl) (by kernel_rfl) (by kernel_rfl) (by intro _ _ _ h; exact h) (Or.inl ⟨by rfl, fun w hS => by go_simp⟩) hH ?_
        simp only [Act.put, List.setIfInBounds_toArray, List.set_cons_zero, List.set_cons_succ]
        refine wpAnyH_take (i := 26) (v := .bool true) (by simp only [List.getElem?_toArray, List.getElem?_cons_succ, List.getElem?_cons_zero]; rfl) (by kernel_rfl) (by kernel_rfl) (by kernel_rfl) (by intro _ _ _ h; exact h) (Or.inl ⟨by rfl, fun w hS => by go_simp⟩) hH ?_
        simp only [Act.put, List.setIfInBounds_toArray, List.set_cons_zero, List.set_cons_succ]
        refine wpAnyH_take (i := 27) (v := .bool true) (by simp only [List.getElem?_toArray, List.getElem?_cons_succ, List.getElem?_cons_zero]; rfl) (by kernel_rfl) (by kernel_rfl) (by kernel_rfl) (by intro _ _ _ h; exact h) (Or.inl ⟨by rfl, fun w hS => by go_simp⟩) hH ?_
        simp only [Act.put, List.setIfInBounds_toArray, List.set_cons_zero, List.set_cons_succ]
        refine wpAnyH_take (i := 28) (v := .pointer (some ⟨gN, 1, none⟩)) (by simp only [List.getElem?_toArray, List.getElem?_cons_succ, List.getElem?_cons_zero]; rfl) (by kernel_rfl) (by kernel_rfl) (by kernel_rfl) (by intro _ _ _ h; exact h) (Or.inl ⟨by rfl, fun w hS => by go_simp⟩) hH ?_
        simp only [Act.put, List.setIfInBounds_toArray, List.set_cons_zero, List.set_cons_succ]
        refine wpAnyH_take (i := 29) (v := .slice pN 12 kN) (by simp only [List.getElem?_toArray, List.getElem?_cons_succ, List.getElem?_cons_zero]; rfl) (by kernel_rfl) (by kernel_rfl) (by kernel_rfl) (by intro _ _ _ h; exact h) (Or.inl ⟨by rfl, fun w hS => by (have y := cell_kept hS a1; go_simp)⟩) hH ?_
        simp only [Act.put, List.setIfInBounds_toArray, List.set_cons_zero, List.set_cons_succ]
        refine wpAnyH_take (i := 30) (v := .int .i64 (sn : Int)) (by simp only [List.getElem?_toArray, List.getElem?_cons_succ, List.getElem?_cons_zero]; rfl) (by kernel_rfl) (by kernel_rfl) (by kernel_rfl) (by intro _ _ _ h; exact h) (Or.inl ⟨by rfl, fun w hS => by go_simp⟩) hH ?_
        simp only [Act.put, List.setIfInBounds_toArray, List.set_cons_zero, List.set_cons_succ]
        refine wpAnyH_take (i := 31) (v := .int .i64 (cn : Int)) (by simp only [List.getElem?_toArray, List.getElem?_cons_succ, List.getElem?_cons_zero]; rfl) (by kernel_rfl) (by kernel_rfl) (by kernel_rfl) (by intro _ _ _ h; exact h) (Or.inl ⟨by rfl, fun w hS => by go_simp⟩) hH ?_
        simp only [Act.put, List.setIfInBounds_toArray, List.set_cons_zero, List.set_cons_succ]
        refine wpAnyH_ready (rs := [32]) (by kernel_rfl) (by simp) ?_
        refine AllReadyH.cons (by simp only [List.getElem?_toArray, List.getElem?_cons_succ, List.getElem?_cons_zero]; rfl) (fun K hK => ?_) AllReadyH.nil
        go_simp
        refine (SP.out _).mono ?_
        rintro e x32 ⟨vq, rfl, OE, hM⟩
        have RQ := OE.rd
        obtain ⟨pQ, kQ, rfl, -, -, -⟩ := RQ.parts
        rw [nonceL_len] at RQ ⊢
        replace RQ := hid RQ
        refine hK.out _ _ (hH.trans (hM.mono hH.size)) (fun hH => ?_)
        clear hK K hM OE
        refine wpAnyH_take (i := 33) (v := .slice pQ 12 kQ) (by simp only [List.getElem?_toArray, List.getElem?_cons_succ, List.getElem?_cons_zero]; rfl) (by kernel_rfl) (by kernel_rfl) (by kernel_rfl) (by intro _ _ _ h; exact h) (Or.inl ⟨by rfl, fun w hS => by (have hf := hf1 0 pQ 12 kQ; go_simp)⟩) hH ?_
        simp only [Act.put, List.setIfInBounds_toArray, List.set_cons_zero, List.set_cons_succ]
        refine wpAnyH_ready (rs := [34]) (by kernel_rfl) (by simp) ?_
        refine AllReadyH.cons (by simp only [List.getElem?_toArray, List.getElem?_cons_succ, List.getElem?_cons_zero]; rfl) (fun K hK => ?_) AllReadyH.nil
        go_simp
        refine (lwsame _ _ _ _ _ (RN.out.below hH) RQ.out).mono ?_
        rintro e x34 ⟨rfl, hx⟩
        rw [ST.out, hx]
        clear hx x34
        refine hK.out _ _ hH (fun hH => ?_)
        clear hK K
        refine wpAnyH_take (i := 35) (v := .bool true) (by simp only [List.getElem?_toArray, List.getElem?_cons_succ, List.getElem?_cons_zero]; rfl) (by kernel_rfl) (by kernel_rfl) (by kernel_rfl) (by intro _ _ _ h; exact h) (Or.inl ⟨by rfl, fun w hS => by go_simp⟩) hH ?_
        simp only [Act.put, List.setIfInBounds_toArray, List.set_cons_zero, List.set_cons_succ]
        refine wpAnyH_take (i := 36) (v := .bool true) (by simp only [List.getElem?_toArray, List.getElem?_cons_succ, List.getElem?_cons_zero]; rfl) (by kernel_rfl) (by kernel_rfl) (by kernel_rfl) (by intro _ _ _ h; exact h) (Or.inl ⟨by rfl, fun w hS => by go_simp⟩) hH ?_
        simp only [Act.put, List.setIfInBounds_toArray, List.set_cons_zero, List.set_cons_succ]
        refine wpAnyH_done (by kernel_rfl) ?_ _
        replace HB := hid (HB.out.trans (hH.mono HB.out.size))
        clear hH a0 a1 a2 a3 a4 a5
        go_wp2
        go_ret
        exact ⟨rfl, HB.out⟩
      · have HCC := hid hcc
        have SF2 := hid (show sameS (nonceL sn cx) BN = false by rw [EN.out]; exact same_no (nonceL_byt _ _) (nonceL_byt _ _) (nonce_c (by omega) (by omega) (by omega) (by omega) hcc))
        have q14 : Hid (IntKind.i64.wrap ((cn : Int) / 2) = (cn : Int) / 2) := hid (by rw [IntKind.wrap_i64]; omega)
        have q15b : Hid (IntKind.i64.wrap (cx : Int) = (cx : Int)) := hid (by rw [IntKind.wrap_i64]; omega)
        have q15 : Hid (IntKind.i64.wrap ((cn : Int) / 2 + 1) = (cx : Int)) := hid (by rw [IntKind.wrap_i64]; omega)
        have q17 : ((cx : Int) == (cn : Int)) = false := by simp; omega
        clear hcc CX2
        refine wp_region_held_drew (S := fun w' => Below w8a.heap.size w8a w') (by kernel_rfl) (Below.refl _ _).drew (fun hH => ?_)
        refine wpAnyH_take (i := 0) (v := .pointer (some ⟨gN, 1, none⟩)) (by simp only [List.getElem?_toArray, List.getElem?_cons_zero]; rfl) (by kernel_rfl) (by kernel_rfl) (by kernel_rfl) (by intro _ _ _ h; exact h) (Or.inl ⟨by rfl, fun w hS => by go_simp⟩) hH ?_
        simp only [Act.put, List.setIfInBounds_toArray, List.set_cons_zero, List.set_cons_succ]
        refine wpAnyH_take (i := 1) (v := .slice pN 12 kN) (by simp only [List.getElem?_toArray, List.getElem?_cons_succ, List.getElem?_cons_zero]; rfl) (by kernel_rfl) (by kernel_rfl) (by kernel_rfl) (by intro _ _ _ h; exact h) (Or.inl ⟨by rfl, fun w hS => by (have y := cell_kept hS a1; go_simp)⟩) hH ?_
        simp only [Act.put, List.setIfInBounds_toArray, List.set_cons_zero, List.set_cons_succ]
        refine wpAnyH_take (i := 2) (v := .int .i64 12) (by simp only [List.getElem?_toArray, List.getElem?_cons_succ, List.getElem?_cons_zero]; rfl) (by kernel_rfl) (by kernel_rfl) (by kernel_rfl) (by intro _ _ _ h; exact h) (Or.inl ⟨by rfl, fun w hS => by go_simp⟩) hH ?_
        simp only [Act.put, List.setIfInBounds_toArray, List.set_cons_zero, List.set_cons_succ]
        refine wpAnyH_take (i := 3) (v := .bool true) (by simp only [List.getElem?_toArray, List.getElem?_cons_succ, List.getElem?_cons_zero]; rfl) (by kernel_rfl) (by kernel_rfl) (by kernel_rfl) (by intro _ _ _ h; exact h) (Or.inl ⟨by rfl, fun w hS => by go_simp⟩) hH ?_
        simp only [Act.put, List.setIfInBounds_toArray, List.set_cons_zero, List.set_cons_succ]
        refine wpAnyH_take (i := 4) (v := .bool true) (by simp only [List.getElem?_toArray, List.getElem?_cons_succ, List.getElem?_cons_zero]; rfl) (by kernel_rfl) (by kernel_rfl) (by kernel_rfl) (by intro _ _ _ h; exact h) (Or.inl ⟨by rfl, fun w hS => by go_simp⟩) hH ?_
        simp only [Act.put, List.setIfInBounds_toArray, List.set_cons_zero, List.set_cons_succ]
        refine wpAnyH_take (i := 5) (v := .pointer (some ⟨gO, 1, none⟩)) (by simp only [List.getElem?_toArray, List.getElem?_cons_succ, List.getElem?_cons_zero]; rfl) (by kernel_rfl) (by kernel_rfl) (by kernel_rfl) (by intro _ _ _ h; exact h) (Or.inl ⟨by rfl, fun w hS => by go_simp⟩) hH ?_
        simp only [Act.put, List.setIfInBounds_toArray, List.set_cons_zero, List.set_cons_succ]
        refine wpAnyH_take (i := 6) (v := .slice pO 12 kO) (by simp only [List.getElem?_toArray, List.getElem?_cons_succ, List.getElem?_cons_zero]; rfl) (by kernel_rfl) (by kernel_rfl) (by kernel_rfl) (by intro _ _ _ h; exact h) (Or.inl ⟨by rfl, fun w hS => by (have y := cell_kept hS a3; go_simp)⟩) hH ?_
        simp only [Act.put, List.setIfInBounds_toArray, List.set_cons_zero, List.set_cons_succ]
        refine wpAnyH_take (i := 7) (v := .pointer (some ⟨gN, 1, none⟩)) (by simp only [List.getElem?_toArray, List.getElem?_cons_succ, List.getElem?_cons_zero]; rfl) (by kernel_rfl) (by kernel_rfl) (by kernel_rfl) (by intro _ _ _ h; exact h) (Or.inl ⟨by rfl, fun w hS => by go_simp⟩) hH ?_
        simp only [Act.put, List.setIfInBounds_toArray, List.set_cons_zero, List.set_cons_succ]
        refine wpAnyH_take (i := 8) (v := .slice pN 12 kN) (by simp only [List.getElem?_toArray, List.getElem?_cons_succ, List.getElem?_cons_zero]; rfl) (by kernel_rfl) (by kernel_rfl) (by kernel_rfl) (by intro _ _ _ h; exact h) (Or.inl ⟨by rfl, fun w hS => by (have y := cell_kept hS a1; go_simp)⟩) hH ?_
        simp only [Act.put, List.setIfInBounds_toArray, List.set_cons_zero, List.set_cons_succ]
        refine wpAnyH_ready (rs := [9]) (by kernel_rfl) (by simp) ?_
        refine AllReadyH.cons (by simp only [List.getElem?_toArray, List.getElem?_cons_succ, List.getElem?_cons_zero]; rfl) (fun K hK => ?_) AllReadyH.nil
        go_simp
        refine (lwsame _ _ _ _ _ (RO.out.below hH) (RN.out.below hH)).mono ?_
        rintro e x9 ⟨rfl, hx⟩
        rw [SF1.out, hx]
        clear hx x9
        refine hK.out _ _ hH (fun hH => ?_)
        clear hK K
        refine wpAnyH_take (i := 10) (v := .bool true) (by simp only [List.getElem?_toArray, List.getElem?_cons_succ, List.getElem?_cons_zero]; rfl) (by kernel_rfl) (by kernel_rfl) (by kernel_rfl) (by intro _ _ _ h; exact h) (Or.inl ⟨by rfl, fun w hS => by go_simp⟩) hH ?_
        simp only [Act.put, List.setIfInBounds_toArray, List.set_cons_zero, List.set_cons_succ]
        refine wpAnyH_take (i := 11) (v := .bool true) (by simp only [List.getElem?_toArray, List.getElem?_cons_succ, List.getElem?_cons_zero]; rfl) (by kernel_rfl) (by kernel_rfl) (by kernel_rfl) (by intro _ _ _ h; exact h) (Or.inl ⟨by rfl, fun w hS => by go_simp⟩) hH ?_
        simp only [Act.put, List.setIfInBounds_toArray, List.set_cons_zero, List.set_cons_succ]
        refine wpAnyH_take (i := 12) (v := .bool true) (by simp only [List.getElem?_toArray, List.getElem?_cons_succ, List.getElem?_cons_zero]; rfl) (by kernel_rfl) (by kernel_rfl) (by kernel_rfl) (by intro _ _ _ h; exact h) (Or.inl ⟨by rfl, fun w hS => by go_simp⟩) hH ?_
        simp only [Act.put, List.setIfInBounds_toArray, List.set_cons_zero, List.set_cons_succ]
        refine wpAnyH_take (i := 13) (v := .int .i64 (cn : Int)) (by simp only [List.getElem?_toArray, List.getElem?_cons_succ, List.getElem?_cons_zero]; rfl) (by kernel_rfl) (by kernel_rfl) (by kernel_rfl) (by intro _ _ _ h; exact h) (Or.inl ⟨by rfl, fun w hS => by go_simp⟩) hH ?_
        simp only [Act.put, List.setIfInBounds_toArray, List.set_cons_zero, List.set_cons_succ]
        refine wpAnyH_take (i := 14) (v := .int .i64 ((cn : Int) / 2)) (by simp only [List.getElem?_toArray, List.getElem?_cons_succ, List.getElem?_cons_zero]; rfl) (by kernel_rfl) (by kernel_rfl) (by kernel_rfl) (by intro _ _ _ h; exact h) (Or.inl ⟨by rfl, fun w hS => by (go_simp; exact q14.out)⟩) hH ?_
        simp only [Act.put, List.setIfInBounds_toArray, List.set_cons_zero, List.set_cons_succ]
        refine wpAnyH_take (i := 15) (v := .int .i64 (cx : Int)) (by simp only [List.getElem?_toArray, List.getElem?_cons_succ, List.getElem?_cons_zero]; rfl) (by kernel_rfl) (by kernel_rfl) (by kernel_rfl) (by intro _ _ _ h; exact h) (Or.inl ⟨by rfl, fun w hS => by (go_simp; first | exact q15.out | exact q15b.out)⟩) hH ?_
        simp only [Act.put, List.setIfInBounds_toArray, List.set_cons_zero, List.set_cons_succ]
        refine wpAnyH_take (i := 16) (v := .int .i64 (cn : Int)) (by simp only [List.getElem?_toArray, List.getElem?_cons_succ, List.getElem?_cons_zero]; rfl) (by kernel_rfl) (by kernel_rfl) (by kernel_rfl) (by intro _ _ _ h; exact h) (Or.inl ⟨by rfl, fun w hS => by go_simp⟩) hH ?_
        simp only [Act.put, List.setIfInBounds_toArray, List.set_cons_zero, List.set_cons_succ]
        refine wpAnyH_take (i := 17) (v := .bool false) (by simp only [List.getElem?_toArray, List.getElem?_cons_succ, List.getElem?_cons_zero]; rfl) (by kernel_rfl) (by kernel_rfl) (by kernel_rfl) (by intro _ _ _ h; exact h) (Or.inl ⟨by rfl, fun w hS => by (have hq := q17; go_simp)⟩) hH ?_
        simp only [Act.put, List.setIfInBounds_toArray, List.set_cons_zero, List.set_cons_succ]
        refine wpAnyH_take (i := 18) (v := .bool false) (by simp only [List.getElem?_toArray, List.getElem?_cons_succ, List.getElem?_cons_zero]; rfl) (by kernel_rfl) (by kernel_rfl) (by kernel_rfl) (by intro _ _ _ h; exact h) (Or.inl ⟨by rfl, fun w hS => by go_simp⟩) hH ?_
        simp only [Act.put, List.setIfInBounds_toArray, List.set_cons_zero, List.set_cons_succ]
        refine wpAnyH_take (i := 19) (v := .pointer (some ⟨gX, 1, none⟩)) (by simp only [List.getElem?_toArray, List.getElem?_cons_succ, List.getElem?_cons_zero]; rfl) (by kernel_rfl) (by kernel_rfl) (by kernel_rfl) (by intro _ _ _ h; exact h) (Or.inl ⟨by rfl, fun w hS => by go_simp⟩) hH ?_
        simp only [Act.put, List.setIfInBounds_toArray, List.set_cons_zero, List.set_cons_succ]
        refine wpAnyH_take (i := 20) (v := .slice pX 12 kX) (by simp only [List.getElem?_toArray, List.getElem?_cons_succ, List.getElem?_cons_zero]; rfl) (by kernel_rfl) (by kernel_rfl) (by kernel_rfl) (by intro _ _ _ h; exact h) (Or.inl ⟨by rfl, fun w hS => by (have y := cell_kept hS a5; go_simp)⟩) hH ?_
        simp only [Act.put, List.setIfInBounds_toArray, List.set_cons_zero, List.set_cons_succ]
        refine wpAnyH_take (i := 21) (v := .pointer (some ⟨gN, 1, none⟩)) (by simp only [List.getElem?_toArray, List.getElem?_cons_succ, List.getElem?_cons_zero]; rfl) (by kernel_rfl) (by kernel_rfl) (by kernel_rfl) (by intro _ _ _ h; exact h) (Or.inl ⟨by rfl, fun w hS => by go_simp⟩) hH ?_
        simp only [Act.put, List.setIfInBounds_toArray, List.set_cons_zero, List.set_cons_succ]
        refine wpAnyH_take (i := 22) (v := .slice pN 12 kN) (by simp only [List.getElem?_toArray, List.getElem?_cons_succ, List.getElem?_cons_zero]; rfl) (by kernel_rfl) (by kernel_rfl) (by kernel_rfl) (by intro _ _ _ h; exact h) (Or.inl ⟨by rfl, fun w hS => by (have y := cell_kept hS a1; go_simp)⟩) hH ?_
        simp only [Act.put, List.setIfInBounds_toArray, List.set_cons_zero, List.set_cons_succ]
        refine wpAnyH_ready (rs := [23]) (by kernel_rfl) (by simp) ?_
        refine AllReadyH.cons (by simp only [List.getElem?_toArray, List.getElem?_cons_succ, List.getElem?_cons_zero]; rfl) (fun K hK => ?_) AllReadyH.nil
        go_simp
        refine (lwsame _ _ _ _ _ (RX.out.below hH) (RN.out.below hH)).mono ?_
        rintro e x23 ⟨rfl, hx⟩
        rw [SF2.out, hx]
        clear hx x23
        refine hK.out _ _ hH (fun hH => ?_)
        clear hK K
        refine wpAnyH_take (i := 24) (v := .bool true) (by simp only [List.getElem?_toArray, List.getElem?_cons_succ, List.getElem?_cons_zero]; rfl) (by kernel_rfl) (by kernel_rfl) (by kernel_rfl) (by intro _ _ _ h; exact h) (Or.inl ⟨by rfl, fun w hS => by go_simp⟩) hH ?_
        simp only [Act.put, List.setIfInBounds_toArray, List.set_cons_zero, List.set_cons_succ]
        refine wpAnyH_take (i := 25) (v := .bool true) (by simp only [List.getElem?_toArray, List.getElem?_cons_succ, List.getElem?_cons_zero]; rfl) (by kernel_rfl) (by kernel_rfl) (by kernel_rfl) (by intro _ _ _ h; exact h) (Or.inl ⟨by rfl, fun w hS => by go_simp⟩) hH ?_
        simp only [Act.put, List.setIfInBounds_toArray, List.set_cons_zero, List.set_cons_succ]
        refine wpAnyH_take (i := 26) (v := .bool true) (by simp only [List.getElem?_toArray, List.getElem?_cons_succ, List.getElem?_cons_zero]; rfl) (by kernel_rfl) (by kernel_rfl) (by kernel_rfl) (by intro _ _ _ h; exact h) (Or.inl ⟨by rfl, fun w hS => by go_simp⟩) hH ?_
        simp only [Act.put, List.setIfInBounds_toArray, List.set_cons_zero, List.set_cons_succ]
        refine wpAnyH_take (i := 27) (v := .bool true) (by simp only [List.getElem?_toArray, List.getElem?_cons_succ, List.getElem?_cons_zero]; rfl) (by kernel_rfl) (by kernel_rfl) (by kernel_rfl) (by intro _ _ _ h; exact h) (Or.inl ⟨by rfl, fun w hS => by go_simp⟩) hH ?_
        simp only [Act.put, List.setIfInBounds_toArray, List.set_cons_zero, List.set_cons_succ]
        refine wpAnyH_take (i := 28) (v := .pointer (some ⟨gN, 1, none⟩)) (by simp only [List.getElem?_toArray, List.getElem?_cons_succ, List.getElem?_cons_zero]; rfl) (by kernel_rfl) (by kernel_rfl) (by kernel_rfl) (by intro _ _ _ h; exact h) (Or.inl ⟨by rfl, fun w hS => by go_simp⟩) hH ?_
        simp only [Act.put, List.setIfInBounds_toArray, List.set_cons_zero, List.set_cons_succ]
        refine wpAnyH_take (i := 29) (v := .slice pN 12 kN) (by simp only [List.getElem?_toArray, List.getElem?_cons_succ, List.getElem?_cons_zero]; rfl) (by kernel_rfl) (by kernel_rfl) (by kernel_rfl) (by intro _ _ _ h; exact h) (Or.inl ⟨by rfl, fun w hS => by (have y := cell_kept hS a1; go_simp)⟩) hH ?_
        simp only [Act.put, List.setIfInBounds_toArray, List.set_cons_zero, List.set_cons_succ]
        refine wpAnyH_take (i := 30) (v := .int .i64 (sn : Int)) (by simp only [List.getElem?_toArray, List.getElem?_cons_succ, List.getElem?_cons_zero]; rfl) (by kernel_rfl) (by kernel_rfl) (by kernel_rfl) (by intro _ _ _ h; exact h) (Or.inl ⟨by rfl, fun w hS => by go_simp⟩) hH ?_
        simp only [Act.put, List.setIfInBounds_toArray, List.set_cons_zero, List.set_cons_succ]
        refine wpAnyH_take (i := 31) (v := .int .i64 (cn : Int)) (by simp only [List.getElem?_toArray, List.getElem?_cons_succ, List.getElem?_cons_zero]; rfl) (by kernel_rfl) (by kernel_rfl) (by kernel_rfl) (by intro _ _ _ h; exact h) (Or.inl ⟨by rfl, fun w hS => by go_simp⟩) hH ?_
        simp only [Act.put, List.setIfInBounds_toArray, List.set_cons_zero, List.set_cons_succ]
        refine wpAnyH_ready (rs := [32]) (by kernel_rfl) (by simp) ?_
        refine AllReadyH.cons (by simp only [List.getElem?_toArray, List.getElem?_cons_succ, List.getElem?_cons_zero]; rfl) (fun K hK => ?_) AllReadyH.nil
        go_simp
        refine (SP.out _).mono ?_
        rintro e x32 ⟨vq, rfl, OE, hM⟩
        have RQ := OE.rd
        obtain ⟨pQ, kQ, rfl, -, -, -⟩ := RQ.parts
        rw [nonceL_len] at RQ ⊢
        replace RQ := hid RQ
        refine hK.out _ _ (hH.trans (hM.mono hH.size)) (fun hH => ?_)
        clear hK K hM OE
        refine wpAnyH_take (i := 33) (v := .slice pQ 12 kQ) (by simp only [List.getElem?_toArray, List.getElem?_cons_succ, List.getElem?_cons_zero]; rfl) (by kernel_rfl) (by kernel_rfl) (by kernel_rfl) (by intro _ _ _ h; exact h) (Or.inl ⟨by rfl, fun w hS => by (have hf := hf1 0 pQ 12 kQ; go_simp)⟩) hH ?_
        simp only [Act.put, List.setIfInBounds_toArray, List.set_cons_zero, List.set_cons_succ]
        refine wpAnyH_ready (rs := [34]) (by kernel_rfl) (by simp) ?_
        refine AllReadyH.cons (by simp only [List.getElem?_toArray, List.getElem?_cons_succ, List.getElem?_cons_zero]; rfl) (fun K hK => ?_) AllReadyH.nil
        go_simp
        refine (lwsame _ _ _ _ _ (RN.out.below hH) RQ.out).mono ?_
        rintro e x34 ⟨rfl, hx⟩
        rw [ST.out, hx]
        clear hx x34
        refine hK.out _ _ hH (fun hH => ?_)
        clear hK K
        refine wpAnyH_take (i := 35) (v := .bool true) (by simp only [List.getElem?_toArray, List.getElem?_cons_succ, List.getElem?_cons_zero]; rfl) (by kernel_rfl) (by kernel_rfl) (by kernel_rfl) (by intro _ _ _ h; exact h) (Or.inl ⟨by rfl, fun w hS => by go_simp⟩) hH ?_
        simp only [Act.put, List.setIfInBounds_toArray, List.set_cons_zero, List.set_cons_succ]
        refine wpAnyH_take (i := 36) (v := .bool true) (by simp only [List.getElem?_toArray, List.getElem?_cons_succ, List.getElem?_cons_zero]; rfl) (by kernel_rfl) (by kernel_rfl) (by kernel_rfl) (by intro _ _ _ h; exact h) (Or.inl ⟨by rfl, fun w hS => by go_simp⟩) hH ?_
        simp only [Act.put, List.setIfInBounds_toArray, List.set_cons_zero, List.set_cons_succ]
        refine wpAnyH_done (by kernel_rfl) ?_ _
        replace HB := hid (HB.out.trans (hH.mono HB.out.size))
        clear hH a0 a1 a2 a3 a4 a5
        go_wp2
        go_ret
        exact ⟨rfl, HB.out⟩
    · have hc0 : cH = 3 := HCH.out.trans h2
      subst hc0
      clear h1 h2 h3 HCH HMH HBH HI
      obtain ⟨b0, b1, -, -⟩ := var2_facts VH.out
      obtain ⟨a0, a1, -, -⟩ := var2_facts VN.out
      go_wp2_with fail
      clear a0 a1
      obtain ⟨so, hso⟩ : ∃ t : Nat, t = (sn + 1) % 16 := ⟨_, rfl⟩
      have eX : ((sn : Int) + 1) % 16 = (so : Int) := by omega
      rw [eX]
      have SO := hid (show so ≤ 15 ∧ so ≠ sn by omega)
      have NO := hid (show ncIs (so : Int) (cn : Int) 0 (nonceL so cn) from .inl ⟨⟨⟨by omega, by omega⟩, by omega, by omega⟩, rfl, by simp⟩)
      clear eX hso
      refine (inc (so : Int) (cn : Int) 0 (nonceL so cn) _ NO.out).mono ?_
      rintro e w7 ⟨vr, rfl, OE, hB⟩
      have RO := OE.rd
      obtain ⟨pO, kO, rfl, -, -, -⟩ := RO.parts
      replace RC := hid (RC.out.below hB)
      replace RN := hid (RN.out.below hB)
      replace VN := hid (var_below hB VN.out)
      replace HB := hid (HB.out.trans (hB.mono HB.out.size))
      clear hB OE
      rw [nonceL_len] at RO ⊢
      replace RO := hid RO
      go_wp2_with fail
      have VO := hid (heap_alloc_new w7 (.cells #[.int .i64 0, .slice pO 12 kO] 27))
      have hA := below_alloc1 w7 (.cells #[.int .i64 0, .slice pO 12 kO] 27)
      replace RC := hid (RC.out.below hA)
      replace RN := hid (RN.out.below hA)
      replace RO := hid (RO.out.below hA)
      replace VN := hid (var_below hA VN.out)
      replace HB := hid (HB.out.trans (hA.mono HB.out.size))
      clear hA
      generalize w7.alloc (.cells #[.int .i64 0, .slice pO 12 kO] 27) = w7a at *
      generalize w7.heap.size = gO at *
      obtain ⟨cx, hcx⟩ : ∃ t : Nat, t = cn / 2 + 1 := ⟨_, rfl⟩
      have eY : (cn : Int) / 2 + 1 = (cx : Int) := by omega
      rw [eY]
      have CX := hid hcx
      have NX := hid (show ncIs (sn : Int) (cx : Int) 0 (nonceL sn cx) from .inl ⟨⟨⟨by omega, by omega⟩, by omega, by omega⟩, rfl, by simp⟩)
      have hx9 : cx ≤ 1000000000 := by omega
      clear hcx
      refine (inc (sn : Int) (cx : Int) 0 (nonceL sn cx) _ NX.out).mono ?_
      rintro e w8 ⟨vr, rfl, OE, hB⟩
      have RX := OE.rd
      obtain ⟨pX, kX, rfl, -, -, -⟩ := RX.parts
      replace RC := hid (RC.out.below hB)
      replace RN := hid (RN.out.below hB)
      replace RO := hid (RO.out.below hB)
      replace VN := hid (var_below hB VN.out)
      replace VO := hid (var_below hB VO.out)
      replace HB := hid (HB.out.trans (hB.mono HB.out.size))
      clear hB OE
      rw [nonceL_len] at RX ⊢
      replace RX := hid RX
      go_wp2_with fail
      have VX := hid (heap_alloc_new w8 (.cells #[.int .i64 0, .slice pX 12 kX] 27))
      have hA := below_alloc1 w8 (.cells #[.int .i64 0, .slice pX 12 kX] 27)
      replace RC := hid (RC.out.below hA)
      replace RN := hid (RN.out.below hA)
      replace RO := hid (RO.out.below hA)
      replace RX := hid (RX.out.below hA)
      replace VN := hid (var_below hA VN.out)
      replace VO := hid (var_below hA VO.out)
      replace HB := hid (HB.out.trans (hA.mono HB.out.size))
      clear hA
      generalize w8.alloc (.cells #[.int .i64 0, .slice pX 12 kX] 27) = w8a at *
      generalize w8.heap.size = gX at *
      obtain ⟨a0, a1, -, -⟩ := var2_facts VN.out
      obtain ⟨a2, a3, -, -⟩ := var2_facts VO.out
      obtain ⟨a4, a5, -, -⟩ := var2_facts VX.out
      have SF1 := hid (show sameS (nonceL so cn) BN = false by rw [EN.out]; exact same_no (nonceL_byt _ _) (nonceL_byt _ _) (nonce_s (by have := SO.out; omega) (by omega) SO.out.2))
      have ST := hid (show sameS BN (nonceL sn cn) = true by rw [EN.out]; exact same_yes _)
      have SP := hid (fun (wq : World) => snc (sn : Int) (cn : Int) 0 (nonceL sn cn) wq (.inl ⟨⟨⟨by omega, by omega⟩, by omega, by omega⟩, rfl, by simp⟩))
      have CX2 := CX.out
      by_cases hcc : cx = cn
      · have HCC := hid hcc
        have q14 : Hid (IntKind.i64.wrap ((cn : Int) / 2) = (cn : Int) / 2) := hid (by rw [IntKind.wrap_i64]; omega)
        have q15b : Hid (IntKind.i64.wrap (cx : Int) = (cx : Int)) := hid (by rw [IntKind.wrap_i64]; omega)
        have q15 : Hid (IntKind.i64.wrap ((cn : Int) / 2 + 1) = (cx : Int)) := hid (by rw [IntKind.wrap_i64]; omega)
        have q17 : ((cx : Int) == (cn : Int)) = true := by simp; omega
        clear hcc CX2
        refine wp_region_held_drew (S := fun w' => Below w8a.heap.size w8a w') (by kernel_rfl) (Below.refl _ _).drew (fun hH => ?_)
        refine wpAnyH_take (i := 0) (v := .pointer (some ⟨gN, 1, none⟩)) (by simp only [List.getElem?_toArray, List.getElem?_cons_zero]; rfl) (by kernel_rfl) (by kernel_rfl) (by kernel_rfl) (by intro _ _ _ h; exact h) (Or.inl ⟨by rfl, fun w hS => by go_simp⟩) hH ?_
        simp only [Act.put, List.setIfInBounds_toArray, List.set_cons_zero, List.set_cons_succ]
        refine wpAnyH_take (i := 1) (v := .slice pN 12 kN) (by simp only [List.getElem?_toArray, List.getElem?_cons_succ, List.getElem?_cons_zero]; rfl) (by kernel_rfl) (by kernel_rfl) (by kernel_rfl) (by intro _ _ _ h; exact h) (Or.inl ⟨by rfl, fun w hS => by (have y := cell_kept hS a1; go_simp)⟩) hH ?_
        simp only [Act.put, List.setIfInBounds_toArray, List.set_cons_zero, List.set_cons_succ]
        refine wpAnyH_take (i := 2) (v := .int .i64 12) (by simp only [List.getElem?_toArray, List.getElem?_cons_succ, List.getElem?_cons_zero]; rfl) (by kernel_rfl) (by kernel_rfl) (by kernel_rfl) (by intro _ _ _ h; exact h) (Or.inl ⟨by rfl, fun w hS => by go_simp⟩) hH ?_
        simp only [Act.put, List.setIfInBounds_toArray, List.set_cons_zero, List.set_cons_succ]
        refine wpAnyH_take (i := 3) (v := .bool true) (by simp only [List.getElem?_toArray, List.getElem?_cons_succ, List.getElem?_cons_zero]; rfl) (by kernel_rfl) (by kernel_rfl) (by kernel_rfl) (by intro _ _ _ h; exact h) (Or.inl ⟨by rfl, fun w hS => by go_simp⟩) hH ?_
        simp only [Act.put, List.setIfInBounds_toArray, List.set_cons_zero, List.set_cons_succ]
        refine wpAnyH_take (i := 4) (v := .bool true) (by simp only [List.getElem?_toArray, List.getElem?_cons_succ, List.getElem?_cons_zero]; rfl) (by kernel_rfl) (by kernel_rfl) (by kernel_rfl) (by intro _ _ _ h; exact h) (Or.inl ⟨by rfl, fun w hS => by go_simp⟩) hH ?_
        simp only [Act.put, List.setIfInBounds_toArray, List.set_cons_zero, List.set_cons_succ]
        refine wpAnyH_take (i := 5) (v := .pointer (some ⟨gO, 1, none⟩)) (by simp only [List.getElem?_toArray, List.getElem?_cons_succ, List.getElem?_cons_zero]; rfl) (by kernel_rfl) (by kernel_rfl) (by kernel_rfl) (by intro _ _ _ h; exact h) (Or.inl ⟨by rfl, fun w hS => by go_simp⟩) hH ?_
        simp only [Act.put, List.setIfInBounds_toArray, List.set_cons_zero, List.set_cons_succ]
        refine wpAnyH_take (i := 6) (v := .slice pO 12 kO) (by simp only [List.getElem?_toArray, List.getElem?_cons_succ, List.getElem?_cons_zero]; rfl) (by kernel_rfl) (by kernel_rfl) (by kernel_rfl) (by intro _ _ _ h; exact h) (Or.inl ⟨by rfl, fun w hS => by (have y := cell_kept hS a3; go_simp)⟩) hH ?_
        simp only [Act.put, List.setIfInBounds_toArray, List.set_cons_zero, List.set_cons_succ]
        refine wpAnyH_take (i := 7) (v := .pointer (some ⟨gN, 1, none⟩)) (by simp only [List.getElem?_toArray, List.getElem?_cons_succ, List.getElem?_cons_zero]; rfl) (by kernel_rfl) (by kernel_rfl) (by kernel_rfl) (by intro _ _ _ h; exact h) (Or.inl ⟨by rfl, fun w hS => by go_simp⟩) hH ?_
        simp only [Act.put, List.setIfInBounds_toArray, List.set_cons_zero, List.set_cons_succ]
        refine wpAnyH_take (i := 8) (v := .slice pN 12 kN) (by simp only [List.getElem?_toArray, List.getElem?_cons_succ, List.getElem?_cons_zero]; rfl) (by kernel_rfl) (by kernel_rfl) (by kernel_rfl) (by intro _ _ _ h; exact h) (Or.inl ⟨by rfl, fun w hS => by (have y := cell_kept hS a1; go_simp)⟩) hH ?_
        simp only [Act.put, List.setIfInBounds_toArray, List.set_cons_zero, List.set_cons_succ]
        refine wpAnyH_ready (rs := [9]) (by kernel_rfl) (by simp) ?_
        refine AllReadyH.cons (by simp only [List.getElem?_toArray, List.getElem?_cons_succ, List.getElem?_cons_zero]; rfl) (fun K hK => ?_) AllReadyH.nil
        go_simp
        refine (lwsame _ _ _ _ _ (RO.out.below hH) (RN.out.below hH)).mono ?_
        rintro e x9 ⟨rfl, hx⟩
        rw [SF1.out, hx]
        clear hx x9
        refine hK.out _ _ hH (fun hH => ?_)
        clear hK K
        refine wpAnyH_take (i := 10) (v := .bool true) (by simp only [List.getElem?_toArray, List.getElem?_cons_succ, List.getElem?_cons_zero]; rfl) (by kernel_rfl) (by kernel_rfl) (by kernel_rfl) (by intro _ _ _ h; exact h) (Or.inl ⟨by rfl, fun w hS => by go_simp⟩) hH ?_
        simp only [Act.put, List.setIfInBounds_toArray, List.set_cons_zero, List.set_cons_succ]
        refine wpAnyH_take (i := 11) (v := .bool true) (by simp only [List.getElem?_toArray, List.getElem?_cons_succ, List.getElem?_cons_zero]; rfl) (by kernel_rfl) (by kernel_rfl) (by kernel_rfl) (by intro _ _ _ h; exact h) (Or.inl ⟨by rfl, fun w hS => by go_simp⟩) hH ?_
        simp only [Act.put, List.setIfInBounds_toArray, List.set_cons_zero, List.set_cons_succ]
        refine wpAnyH_take (i := 12) (v := .bool true) (by simp only [List.getElem?_toArray, List.getElem?_cons_succ, List.getElem?_cons_zero]; rfl) (by kernel_rfl) (by kernel_rfl) (by kernel_rfl) (by intro _ _ _ h; exact h) (Or.inl ⟨by rfl, fun w hS => by go_simp⟩) hH ?_
        simp only [Act.put, List.setIfInBounds_toArray, List.set_cons_zero, List.set_cons_succ]
        refine wpAnyH_take (i := 13) (v := .int .i64 (cn : Int)) (by simp only [List.getElem?_toArray, List.getElem?_cons_succ, List.getElem?_cons_zero]; rfl) (by kernel_rfl) (by kernel_rfl) (by kernel_rfl) (by intro _ _ _ h; exact h) (Or.inl ⟨by rfl, fun w hS => by go_simp⟩) hH ?_
        simp only [Act.put, List.setIfInBounds_toArray, List.set_cons_zero, List.set_cons_succ]
        refine wpAnyH_take (i := 14) (v := .int .i64 ((cn : Int) / 2)) (by simp only [List.getElem?_toArray, List.getElem?_cons_succ, List.getElem?_cons_zero]; rfl) (by kernel_rfl) (by kernel_rfl) (by kernel_rfl) (by intro _ _ _ h; exact h) (Or.inl ⟨by rfl, fun w hS => by (go_simp; exact q14.out)⟩) hH ?_
        simp only [Act.put, List.setIfInBounds_toArray, List.set_cons_zero, List.set_cons_succ]
        refine wpAnyH_take (i := 15) (v := .int .i64 (cx : Int)) (by simp only [List.getElem?_toArray, List.getElem?_cons_succ, List.getElem?_cons_zero]; rfl) (by kernel_rfl) (by kernel_rfl) (by kernel_rfl) (by intro _ _ _ h; exact h) (Or.inl ⟨by rfl, fun w hS => by (go_simp; first | exact q15.out | exact q15b.out)⟩) hH ?_
        simp only [Act.put, List.setIfInBounds_toArray, List.set_cons_zero, List.set_cons_succ]
        refine wpAnyH_take (i := 16) (v := .int .i64 (cn : Int)) (by simp only [List.getElem?_toArray, List.getElem?_cons_succ, List.getElem?_cons_zero]; rfl) (by kernel_rfl) (by kernel_rfl) (by kernel_rfl) (by intro _ _ _ h; exact h) (Or.inl ⟨by rfl, fun w hS => by go_simp⟩) hH ?_
        simp only [Act.put, List.setIfInBounds_toArray, List.set_cons_zero, List.set_cons_succ]
        refine wpAnyH_take (i := 17) (v := .bool true) (by simp only [List.getElem?_toArray, List.getElem?_cons_succ, List.getElem?_cons_zero]; rfl) (by kernel_rfl) (by kernel_rfl) (by kernel_rfl) (by intro _ _ _ h; exact h) (Or.inl ⟨by rfl, fun w hS => by (have hq := q17; go_simp)⟩) hH ?_
        simp only [Act.put, List.setIfInBounds_toArray, List.set_cons_zero, List.set_cons_succ]
        refine wpAnyH_take (i := 18) (v := .bool true) (by simp only [List.getElem?_toArray, List.getElem?_cons_succ, List.getElem?_cons_zero]; rfl) (by kernel_rfl) (by kernel_rfl) (by kernel_rfl) (by intro _ _ _ h; exact h) (Or.inl ⟨by rfl, fun w hS => by go_simp⟩) hH ?_
        simp only [Act.put, List.setIfInBounds_toArray, List.set_cons_zero, List.set_cons_succ]
        refine wpAnyH_take (i := 19) (v := undef) (by simp only [List.getElem?_toArray, List.getElem?_cons_succ, List.getElem?_cons_zero]; rfl) (by kernel_rfl) (by kernel_rfl) (by kernel_rfl) (by intro _ _ _ h; exact h) (Or.inr ⟨by rfl, rfl⟩) hH ?_
        simp only [Act.put, List.setIfInBounds_toArray, List.set_cons_zero, List.set_cons_succ]
        refine wpAnyH_take (i := 20) (v := undef) (by simp only [List.getElem?_toArray, List.getElem?_cons_succ, List.getElem?_cons_zero]; rfl) (by kernel_rfl) (by kernel_rfl) (by kernel_rfl) (by intro _ _ _ h; exact h) (Or.inr ⟨by rfl, rfl⟩) hH ?_
        simp only [Act.put, List.setIfInBounds_toArray, List.set_cons_zero, List.set_cons_succ]
        refine wpAnyH_take (i := 21) (v := undef) (by simp only [List.getElem?_toArray, List.getElem?_cons_succ, List.getElem?_cons_zero]; rfl) (by kernel_rfl) (by kernel_rfl) (by kernel_rfl) (by intro _ _ _ h; exact h) (Or.inr ⟨by rfl, rfl⟩) hH ?_
        simp only [Act.put, List.setIfInBounds_toArray, List.set_cons_zero, List.set_cons_succ]
        refine wpAnyH_take (i := 22) (v := undef) (by simp only [List.getElem?_toArray, List.getElem?_cons_succ, List.getElem?_cons_zero]; rfl) (by kernel_rfl) (by kernel_rfl) (by kernel_rfl) (by intro _ _ _ h; exact h) (Or.inr ⟨by rfl, rfl⟩) hH ?_
        simp only [Act.put, List.setIfInBounds_toArray, List.set_cons_zero, List.set_cons_succ]
        refine wpAnyH_take (i := 23) (v := undef) (by simp only [List.getElem?_toArray, List.getElem?_cons_succ, List.getElem?_cons_zero]; rfl) (by kernel_rfl) (by kernel_rfl) (by kernel_rfl) (by intro _ _ _ h; exact h) (Or.inr ⟨by rfl, rfl⟩) hH ?_
        simp only [Act.put, List.setIfInBounds_toArray, List.set_cons_zero, List.set_cons_succ]
        refine wpAnyH_take (i := 24) (v := undef) (by simp only [List.getElem?_toArray, List.getElem?_cons_succ, List.getElem?_cons_zero]; rfl) (by kernel_rfl) (by kernel_rfl) (by kernel_rfl) (by intro _ _ _ h; exact h) (Or.inr ⟨by rfl, rfl⟩) hH ?_
        simp only [Act.put, List.setIfInBounds_toArray, List.set_cons_zero, List.set_cons_succ]
        refine wpAnyH_take (i := 25) (v := .bool true) (by simp only [List.getElem?_toArray, List.getElem?_cons_succ, List.getElem?_cons_zero]; rfl) (by kernel_rfl) (by kernel_rfl) (by kernel_rfl) (by intro _ _ _ h; exact h) (Or.inl ⟨by rfl, fun w hS => by go_simp⟩) hH ?_
        simp only [Act.put, List.setIfInBounds_toArray, List.set_cons_zero, List.set_cons_succ]
        refine wpAnyH_take (i := 26) (v := .bool true) (by simp only [List.getElem?_toArray, List.getElem?_cons_succ, List.getElem?_cons_zero]; rfl) (by kernel_rfl) (by kernel_rfl) (by kernel_rfl) (by intro _ _ _ h; exact h) (Or.inl ⟨by rfl, fun w hS => by go_simp⟩) hH ?_
        simp only [Act.put, List.setIfInBounds_toArray, List.set_cons_zero, List.set_cons_succ]
        refine wpAnyH_take (i := 27) (v := .bool true) (by simp only [List.getElem?_toArray, List.getElem?_cons_succ, List.getElem?_cons_zero]; rfl) (by kernel_rfl) (by kernel_rfl) (by kernel_rfl) (by intro _ _ _ h; exact h) (Or.inl ⟨by rfl, fun w hS => by go_simp⟩) hH ?_
        simp only [Act.put, List.setIfInBounds_toArray, List.set_cons_zero, List.set_cons_succ]
        refine wpAnyH_take (i := 28) (v := .pointer (some ⟨gN, 1, none⟩)) (by simp only [List.getElem?_toArray, List.getElem?_cons_succ, List.getElem?_cons_zero]; rfl) (by kernel_rfl) (by kernel_rfl) (by kernel_rfl) (by intro _ _ _ h; exact h) (Or.inl ⟨by rfl, fun w hS => by go_simp⟩) hH ?_
        simp only [Act.put, List.setIfInBounds_toArray, List.set_cons_zero, List.set_cons_succ]
        refine wpAnyH_take (i := 29) (v := .slice pN 12 kN) (by simp only [List.getElem?_toArray, List.getElem?_cons_succ, List.getElem?_cons_zero]; rfl) (by kernel_rfl) (by kernel_rfl) (by kernel_rfl) (by intro _ _ _ h; exact h) (Or.inl ⟨by rfl, fun w hS => by (have y := cell_kept hS a1; go_simp)⟩) hH ?_
        simp only [Act.put, List.setIfInBounds_toArray, List.set_cons_zero, List.set_cons_succ]
        refine wpAnyH_take (i := 30) (v := .int .i64 (sn : Int)) (by simp only [List.getElem?_toArray, List.getElem?_cons_succ, List.getElem?_cons_zero]; rfl) (by kernel_rfl) (by kernel_rfl) (by kernel_rfl) (by intro _ _ _ h; exact h) (Or.inl ⟨by rfl, fun w hS => by go_simp⟩) hH ?_
        simp only [Act.put, List.setIfInBounds_toArray, List.set_cons_zero, List.set_cons_succ]
        refine wpAnyH_take (i := 31) (v := .int .i64 (cn : Int)) (by simp only [List.getElem?_toArray, List.getElem?_cons_succ, List.getElem?_cons_zero]; rfl) (by kernel_rfl) (by kernel_rfl) (by kernel_rfl) (by intro _ _ _ h; exact h) (Or.inl ⟨by rfl, fun w hS => by go_simp⟩) hH ?_
        simp only [Act.put, List.setIfInBounds_toArray, List.set_cons_zero, List.set_cons_succ]
        refine wpAnyH_ready (rs := [32]) (by kernel_rfl) (by simp) ?_
        refine AllReadyH.cons (by simp only [List.getElem?_toArray, List.getElem?_cons_succ, List.getElem?_cons_zero]; rfl) (fun K hK => ?_) AllReadyH.nil
        go_simp
        refine (SP.out _).mono ?_
        rintro e x32 ⟨vq, rfl, OE, hM⟩
        have RQ := OE.rd
        obtain ⟨pQ, kQ, rfl, -, -, -⟩ := RQ.parts
        rw [nonceL_len] at RQ ⊢
        replace RQ := hid RQ
        refine hK.out _ _ (hH.trans (hM.mono hH.size)) (fun hH => ?_)
        clear hK K hM OE
        refine wpAnyH_take (i := 33) (v := .slice pQ 12 kQ) (by simp only [List.getElem?_toArray, List.getElem?_cons_succ, List.getElem?_cons_zero]; rfl) (by kernel_rfl) (by kernel_rfl) (by kernel_rfl) (by intro _ _ _ h; exact h) (Or.inl ⟨by rfl, fun w hS => by (have hf := hf1 0 pQ 12 kQ; go_simp)⟩) hH ?_
        simp only [Act.put, List.setIfInBounds_toArray, List.set_cons_zero, List.set_cons_succ]
        refine wpAnyH_ready (rs := [34]) (by kernel_rfl) (by simp) ?_
        refine AllReadyH.cons (by simp only [List.getElem?_toArray, List.getElem?_cons_succ, List.getElem?_cons_zero]; rfl) (fun K hK => ?_) AllReadyH.nil
        go_simp
        refine (lwsame _ _ _ _ _ (RN.out.below hH) RQ.out).mono ?_
        rintro e x34 ⟨rfl, hx⟩
        rw [ST.out, hx]
        clear hx x34
        refine hK.out _ _ hH (fun hH => ?_)
        clear hK K
        refine wpAnyH_take (i := 35) (v := .bool true) (by simp only [List.getElem?_toArray, List.getElem?_cons_succ, List.getElem?_cons_zero]; rfl) (by kernel_rfl) (by kernel_rfl) (by kernel_rfl) (by intro _ _ _ h; exact h) (Or.inl ⟨by rfl, fun w hS => by go_simp⟩) hH ?_
        simp only [Act.put, List.setIfInBounds_toArray, List.set_cons_zero, List.set_cons_succ]
        refine wpAnyH_take (i := 36) (v := .bool true) (by simp only [List.getElem?_toArray, List.getElem?_cons_succ, List.getElem?_cons_zero]; rfl) (by kernel_rfl) (by kernel_rfl) (by kernel_rfl) (by intro _ _ _ h; exact h) (Or.inl ⟨by rfl, fun w hS => by go_simp⟩) hH ?_
        simp only [Act.put, List.setIfInBounds_toArray, List.set_cons_zero, List.set_cons_succ]
        refine wpAnyH_done (by kernel_rfl) ?_ _
        replace HB := hid (HB.out.trans (hH.mono HB.out.size))
        clear hH a0 a1 a2 a3 a4 a5
        go_wp2
        go_ret
        exact ⟨rfl, HB.out⟩
      · have HCC := hid hcc
        have SF2 := hid (show sameS (nonceL sn cx) BN = false by rw [EN.out]; exact same_no (nonceL_byt _ _) (nonceL_byt _ _) (nonce_c (by omega) (by omega) (by omega) (by omega) hcc))
        have q14 : Hid (IntKind.i64.wrap ((cn : Int) / 2) = (cn : Int) / 2) := hid (by rw [IntKind.wrap_i64]; omega)
        have q15b : Hid (IntKind.i64.wrap (cx : Int) = (cx : Int)) := hid (by rw [IntKind.wrap_i64]; omega)
        have q15 : Hid (IntKind.i64.wrap ((cn : Int) / 2 + 1) = (cx : Int)) := hid (by rw [IntKind.wrap_i64]; omega)
        have q17 : ((cx : Int) == (cn : Int)) = false := by simp; omega
        clear hcc CX2
        refine wp_region_held_drew (S := fun w' => Below w8a.heap.size w8a w') (by kernel_rfl) (Below.refl _ _).drew (fun hH => ?_)
        refine wpAnyH_take (i := 0) (v := .pointer (some ⟨gN, 1, none⟩)) (by simp only [List.getElem?_toArray, List.getElem?_cons_zero]; rfl) (by kernel_rfl) (by kernel_rfl) (by kernel_rfl) (by intro _ _ _ h; exact h) (Or.inl ⟨by rfl, fun w hS => by go_simp⟩) hH ?_
        simp only [Act.put, List.setIfInBounds_toArray, List.set_cons_zero, List.set_cons_succ]
        refine wpAnyH_take (i := 1) (v := .slice pN 12 kN) (by simp only [List.getElem?_toArray, List.getElem?_cons_succ, List.getElem?_cons_zero]; rfl) (by kernel_rfl) (by kernel_rfl) (by kernel_rfl) (by intro _ _ _ h; exact h) (Or.inl ⟨by rfl, fun w hS => by (have y := cell_kept hS a1; go_simp)⟩) hH ?_
        simp only [Act.put, List.setIfInBounds_toArray, List.set_cons_zero, List.set_cons_succ]
        refine wpAnyH_take (i := 2) (v := .int .i64 12) (by simp only [List.getElem?_toArray, List.getElem?_cons_succ, List.getElem?_cons_zero]; rfl) (by kernel_rfl) (by kernel_rfl) (by kernel_rfl) (by intro _ _ _ h; exact h) (Or.inl ⟨by rfl, fun w hS => by go_simp⟩) hH ?_
        simp only [Act.put, List.setIfInBounds_toArray, List.set_cons_zero, List.set_cons_succ]
        refine wpAnyH_take (i := 3) (v := .bool true) (by simp only [List.getElem?_toArray, List.getElem?_cons_succ, List.getElem?_cons_zero]; rfl) (by kernel_rfl) (by kernel_rfl) (by kernel_rfl) (by intro _ _ _ h; exact h) (Or.inl ⟨by rfl, fun w hS => by go_simp⟩) hH ?_
        simp only [Act.put, List.setIfInBounds_toArray, List.set_cons_zero, List.set_cons_succ]
        refine wpAnyH_take (i := 4) (v := .bool true) (by simp only [List.getElem?_toArray, List.getElem?_cons_succ, List.getElem?_cons_zero]; rfl) (by kernel_rfl) (by kernel_rfl) (by kernel_rfl) (by intro _ _ _ h; exact h) (Or.inl ⟨by rfl, fun w hS => by go_simp⟩) hH ?_
        simp only [Act.put, List.setIfInBounds_toArray, List.set_cons_zero, List.set_cons_succ]
        refine wpAnyH_take (i := 5) (v := .pointer (some ⟨gO, 1, none⟩)) (by simp only [List.getElem?_toArray, List.getElem?_cons_succ, List.getElem?_cons_zero]; rfl) (by kernel_rfl) (by kernel_rfl) (by kernel_rfl) (by intro _ _ _ h; exact h) (Or.inl ⟨by rfl, fun w hS => by go_simp⟩) hH ?_
        simp only [Act.put, List.setIfInBounds_toArray, List.set_cons_zero, List.set_cons_succ]
        refine wpAnyH_take (i := 6) (v := .slice pO 12 kO) (by simp only [List.getElem?_toArray, List.getElem?_cons_succ, List.getElem?_cons_zero]; rfl) (by kernel_rfl) (by kernel_rfl) (by kernel_rfl) (by intro _ _ _ h; exact h) (Or.inl ⟨by rfl, fun w hS => by (have y := cell_kept hS a3; go_simp)⟩) hH ?_
        simp only [Act.put, List.setIfInBounds_toArray, List.set_cons_zero, List.set_cons_succ]
        refine wpAnyH_take (i := 7) (v := .pointer (some ⟨gN, 1, none⟩)) (by simp only [List.getElem?_toArray, List.getElem?_cons_succ, List.getElem?_cons_zero]; rfl) (by kernel_rfl) (by kernel_rfl) (by kernel_rfl) (by intro _ _ _ h; exact h) (Or.inl ⟨by rfl, fun w hS => by go_simp⟩) hH ?_
        simp only [Act.put, List.setIfInBounds_toArray, List.set_cons_zero, List.set_cons_succ]
        refine wpAnyH_take (i := 8) (v := .slice pN 12 kN) (by simp only [List.getElem?_toArray, List.getElem?_cons_succ, List.getElem?_cons_zero]; rfl) (by kernel_rfl) (by kernel_rfl) (by kernel_rfl) (by intro _ _ _ h; exact h) (Or.inl ⟨by rfl, fun w hS => by (have y := cell_kept hS a1; go_simp)⟩) hH ?_
        simp only [Act.put, List.setIfInBounds_toArray, List.set_cons_zero, List.set_cons_succ]
        refine wpAnyH_ready (rs := [9]) (by kernel_rfl) (by simp) ?_
        refine AllReadyH.cons (by simp only [List.getElem?_toArray, List.getElem?_cons_succ, List.getElem?_cons_zero]; rfl) (fun K hK => ?_) AllReadyH.nil
        go_simp
        refine (lwsame _ _ _ _ _ (RO.out.below hH) (RN.out.below hH)).mono ?_
        rintro e x9 ⟨rfl, hx⟩
        rw [SF1.out, hx]
        clear hx x9
        refine hK.out _ _ hH (fun hH => ?_)
        clear hK K
        refine wpAnyH_take (i := 10) (v := .bool true) (by simp only [List.getElem?_toArray, List.getElem?_cons_succ, List.getElem?_cons_zero]; rfl) (by kernel_rfl) (by kernel_rfl) (by kernel_rfl) (by intro _ _ _ h; exact h) (Or.inl ⟨by rfl, fun w hS => by go_simp⟩) hH ?_
        simp only [Act.put, List.setIfInBounds_toArray, List.set_cons_zero, List.set_cons_succ]
        refine wpAnyH_take (i := 11) (v := .bool true) (by simp only [List.getElem?_toArray, List.getElem?_cons_succ, List.getElem?_cons_zero]; rfl) (by kernel_rfl) (by kernel_rfl) (by kernel_rfl) (by intro _ _ _ h; exact h) (Or.inl ⟨by rfl, fun w hS => by go_simp⟩) hH ?_
        simp only [Act.put, List.setIfInBounds_toArray, List.set_cons_zero, List.set_cons_succ]
        refine wpAnyH_take (i := 12) (v := .bool true) (by simp only [List.getElem?_toArray, List.getElem?_cons_succ, List.getElem?_cons_zero]; rfl) (by kernel_rfl) (by kernel_rfl) (by kernel_rfl) (by intro _ _ _ h; exact h) (Or.inl ⟨by rfl, fun w hS => by go_simp⟩) hH ?_
        simp only [Act.put, List.setIfInBounds_toArray, List.set_cons_zero, List.set_cons_succ]
        refine wpAnyH_take (i := 13) (v := .int .i64 (cn : Int)) (by simp only [List.getElem?_toArray, List.getElem?_cons_succ, List.getElem?_cons_zero]; rfl) (by kernel_rfl) (by kernel_rfl) (by kernel_rfl) (by intro _ _ _ h; exact h) (Or.inl ⟨by rfl, fun w hS => by go_simp⟩) hH ?_
        simp only [Act.put, List.setIfInBounds_toArray, List.set_cons_zero, List.set_cons_succ]
        refine wpAnyH_take (i := 14) (v := .int .i64 ((cn : Int) / 2)) (by simp only [List.getElem?_toArray, List.getElem?_cons_succ, List.getElem?_cons_zero]; rfl) (by kernel_rfl) (by kernel_rfl) (by kernel_rfl) (by intro _ _ _ h; exact h) (Or.inl ⟨by rfl, fun w hS => by (go_simp; exact q14.out)⟩) hH ?_
        simp only [Act.put, List.setIfInBounds_toArray, List.set_cons_zero, List.set_cons_succ]
        refine wpAnyH_take (i := 15) (v := .int .i64 (cx : Int)) (by simp only [List.getElem?_toArray, List.getElem?_cons_succ, List.getElem?_cons_zero]; rfl) (by kernel_rfl) (by kernel_rfl) (by kernel_rfl) (by intro _ _ _ h; exact h) (Or.inl ⟨by rfl, fun w hS => by (go_simp; first | exact q15.out | exact q15b.out)⟩) hH ?_
        simp only [Act.put, List.setIfInBounds_toArray, List.set_cons_zero, List.set_cons_succ]
        refine wpAnyH_take (i := 16) (v := .int .i64 (cn : Int)) (by simp only [List.getElem?_toArray, List.getElem?_cons_succ, List.getElem?_cons_zero]; rfl) (by kernel_rfl) (by kernel_rfl) (by kernel_rfl) (by intro _ _ _ h; exact h) (Or.inl ⟨by rfl, fun w hS => by go_simp⟩) hH ?_
        simp only [Act.put, List.setIfInBounds_toArray, List.set_cons_zero, List.set_cons_succ]
        refine wpAnyH_take (i := 17) (v := .bool false) (by simp only [List.getElem?_toArray, List.getElem?_cons_succ, List.getElem?_cons_zero]; rfl) (by kernel_rfl) (by kernel_rfl) (by kernel_rfl) (by intro _ _ _ h; exact h) (Or.inl ⟨by rfl, fun w hS => by (have hq := q17; go_simp)⟩) hH ?_
        simp only [Act.put, List.setIfInBounds_toArray, List.set_cons_zero, List.set_cons_succ]
        refine wpAnyH_take (i := 18) (v := .bool false) (by simp only [List.getElem?_toArray, List.getElem?_cons_succ, List.getElem?_cons_zero]; rfl) (by kernel_rfl) (by kernel_rfl) (by kernel_rfl) (by intro _ _ _ h; exact h) (Or.inl ⟨by rfl, fun w hS => by go_simp⟩) hH ?_
        simp only [Act.put, List.setIfInBounds_toArray, List.set_cons_zero, List.set_cons_succ]
        refine wpAnyH_take (i := 19) (v := .pointer (some ⟨gX, 1, none⟩)) (by simp only [List.getElem?_toArray, List.getElem?_cons_succ, List.getElem?_cons_zero]; rfl) (by kernel_rfl) (by kernel_rfl) (by kernel_rfl) (by intro _ _ _ h; exact h) (Or.inl ⟨by rfl, fun w hS => by go_simp⟩) hH ?_
        simp only [Act.put, List.setIfInBounds_toArray, List.set_cons_zero, List.set_cons_succ]
        refine wpAnyH_take (i := 20) (v := .slice pX 12 kX) (by simp only [List.getElem?_toArray, List.getElem?_cons_succ, List.getElem?_cons_zero]; rfl) (by kernel_rfl) (by kernel_rfl) (by kernel_rfl) (by intro _ _ _ h; exact h) (Or.inl ⟨by rfl, fun w hS => by (have y := cell_kept hS a5; go_simp)⟩) hH ?_
        simp only [Act.put, List.setIfInBounds_toArray, List.set_cons_zero, List.set_cons_succ]
        refine wpAnyH_take (i := 21) (v := .pointer (some ⟨gN, 1, none⟩)) (by simp only [List.getElem?_toArray, List.getElem?_cons_succ, List.getElem?_cons_zero]; rfl) (by kernel_rfl) (by kernel_rfl) (by kernel_rfl) (by intro _ _ _ h; exact h) (Or.inl ⟨by rfl, fun w hS => by go_simp⟩) hH ?_
        simp only [Act.put, List.setIfInBounds_toArray, List.set_cons_zero, List.set_cons_succ]
        refine wpAnyH_take (i := 22) (v := .slice pN 12 kN) (by simp only [List.getElem?_toArray, List.getElem?_cons_succ, List.getElem?_cons_zero]; rfl) (by kernel_rfl) (by kernel_rfl) (by kernel_rfl) (by intro _ _ _ h; exact h) (Or.inl ⟨by rfl, fun w hS => by (have y := cell_kept hS a1; go_simp)⟩) hH ?_
        simp only [Act.put, List.setIfInBounds_toArray, List.set_cons_zero, List.set_cons_succ]
        refine wpAnyH_ready (rs := [23]) (by kernel_rfl) (by simp) ?_
        refine AllReadyH.cons (by simp only [List.getElem?_toArray, List.getElem?_cons_succ, List.getElem?_cons_zero]; rfl) (fun K hK => ?_) AllReadyH.nil
        go_simp
        refine (lwsame _ _ _ _ _ (RX.out.below hH) (RN.out.below hH)).mono ?_
        rintro e x23 ⟨rfl, hx⟩
        rw [SF2.out, hx]
        clear hx x23
        refine hK.out _ _ hH (fun hH => ?_)
        clear hK K
        refine wpAnyH_take (i := 24) (v := .bool true) (by simp only [List.getElem?_toArray, List.getElem?_cons_succ, List.getElem?_cons_zero]; rfl) (by kernel_rfl) (by kernel_rfl) (by kernel_rfl) (by intro _ _ _ h; exact h) (Or.inl ⟨by rfl, fun w hS => by go_simp⟩) hH ?_
        simp only [Act.put, List.setIfInBounds_toArray, List.set_cons_zero, List.set_cons_succ]
        refine wpAnyH_take (i := 25) (v := .bool true) (by simp only [List.getElem?_toArray, List.getElem?_cons_succ, List.getElem?_cons_zero]; rfl) (by kernel_rfl) (by kernel_rfl) (by kernel_rfl) (by intro _ _ _ h; exact h) (Or.inl ⟨by rfl, fun w hS => by go_simp⟩) hH ?_
        simp only [Act.put, List.setIfInBounds_toArray, List.set_cons_zero, List.set_cons_succ]
        refine wpAnyH_take (i := 26) (v := .bool true) (by simp only [List.getElem?_toArray, List.getElem?_cons_succ, List.getElem?_cons_zero]; rfl) (by kernel_rfl) (by kernel_rfl) (by kernel_rfl) (by intro _ _ _ h; exact h) (Or.inl ⟨by rfl, fun w hS => by go_simp⟩) hH ?_
        simp only [Act.put, List.setIfInBounds_toArray, List.set_cons_zero, List.set_cons_succ]
        refine wpAnyH_take (i := 27) (v := .bool true) (by simp only [List.getElem?_toArray, List.getElem?_cons_succ, List.getElem?_cons_zero]; rfl) (by kernel_rfl) (by kernel_rfl) (by kernel_rfl) (by intro _ _ _ h; exact h) (Or.inl ⟨by rfl, fun w hS => by go_simp⟩) hH ?_
        simp only [Act.put, List.setIfInBounds_toArray, List.set_cons_zero, List.set_cons_succ]
        refine wpAnyH_take (i := 28) (v := .pointer (some ⟨gN, 1, none⟩)) (by simp only [List.getElem?_toArray, List.getElem?_cons_succ, List.getElem?_cons_zero]; rfl) (by kernel_rfl) (by kernel_rfl) (by kernel_rfl) (by intro _ _ _ h; exact h) (Or.inl ⟨by rfl, fun w hS => by go_simp⟩) hH ?_
        simp only [Act.put, List.setIfInBounds_toArray, List.set_cons_zero, List.set_cons_succ]
        refine wpAnyH_take (i := 29) (v := .slice pN 12 kN) (by simp only [List.getElem?_toArray, List.getElem?_cons_succ, List.getElem?_cons_zero]; rfl) (by kernel_rfl) (by kernel_rfl) (by kernel_rfl) (by intro _ _ _ h; exact h) (Or.inl ⟨by rfl, fun w hS => by (have y := cell_kept hS a1; go_simp)⟩) hH ?_
        simp only [Act.put, List.setIfInBounds_toArray, List.set_cons_zero, List.set_cons_succ]
        refine wpAnyH_take (i := 30) (v := .int .i64 (sn : Int)) (by simp only [List.getElem?_toArray, List.getElem?_cons_succ, List.getElem?_cons_zero]; rfl) (by kernel_rfl) (by kernel_rfl) (by kernel_rfl) (by intro _ _ _ h; exact h) (Or.inl ⟨by rfl, fun w hS => by go_simp⟩) hH ?_
        simp only [Act.put, List.setIfInBounds_toArray, List.set_cons_zero, List.set_cons_succ]
        refine wpAnyH_take (i := 31) (v := .int .i64 (cn : Int)) (by simp only [List.getElem?_toArray, List.getElem?_cons_succ, List.getElem?_cons_zero]; rfl) (by kernel_rfl) (by kernel_rfl) (by kernel_rfl) (by intro _ _ _ h; exact h) (Or.inl ⟨by rfl, fun w hS => by go_simp⟩) hH ?_
        simp only [Act.put, List.setIfInBounds_toArray, List.set_cons_zero, List.set_cons_succ]
        refine wpAnyH_ready (rs := [32]) (by kernel_rfl) (by simp) ?_
        refine AllReadyH.cons (by simp only [List.getElem?_toArray, List.getElem?_cons_succ, List.getElem?_cons_zero]; rfl) (fun K hK => ?_) AllReadyH.nil
        go_simp
        refine (SP.out _).mono ?_
        rintro e x32 ⟨vq, rfl, OE, hM⟩
        have RQ := OE.rd
        obtain ⟨pQ, kQ, rfl, -, -, -⟩ := RQ.parts
        rw [nonceL_len] at RQ ⊢
        replace RQ := hid RQ
        refine hK.out _ _ (hH.trans (hM.mono hH.size)) (fun hH => ?_)
        clear hK K hM OE
        refine wpAnyH_take (i := 33) (v := .slice pQ 12 kQ) (by simp only [List.getElem?_toArray, List.getElem?_cons_succ, List.getElem?_cons_zero]; rfl) (by kernel_rfl) (by kernel_rfl) (by kernel_rfl) (by intro _ _ _ h; exact h) (Or.inl ⟨by rfl, fun w hS => by (have hf := hf1 0 pQ 12 kQ; go_simp)⟩) hH ?_
        simp only [Act.put, List.setIfInBounds_toArray, List.set_cons_zero, List.set_cons_succ]
        refine wpAnyH_ready (rs := [34]) (by kernel_rfl) (by simp) ?_
        refine AllReadyH.cons (by simp only [List.getElem?_toArray, List.getElem?_cons_succ, List.getElem?_cons_zero]; rfl) (fun K hK => ?_) AllReadyH.nil
        go_simp
        refine (lwsame _ _ _ _ _ (RN.out.below hH) RQ.out).mono ?_
        rintro e x34 ⟨rfl, hx⟩
        rw [ST.out, hx]
        clear hx x34
        refine hK.out _ _ hH (fun hH => ?_)
        clear hK K
        refine wpAnyH_take (i := 35) (v := .bool true) (by simp only [List.getElem?_toArray, List.getElem?_cons_succ, List.getElem?_cons_zero]; rfl) (by kernel_rfl) (by kernel_rfl) (by kernel_rfl) (by intro _ _ _ h; exact h) (Or.inl ⟨by rfl, fun w hS => by go_simp⟩) hH ?_
        simp only [Act.put, List.setIfInBounds_toArray, List.set_cons_zero, List.set_cons_succ]
        refine wpAnyH_take (i := 36) (v := .bool true) (by simp only [List.getElem?_toArray, List.getElem?_cons_succ, List.getElem?_cons_zero]; rfl) (by kernel_rfl) (by kernel_rfl) (by kernel_rfl) (by intro _ _ _ h; exact h) (Or.inl ⟨by rfl, fun w hS => by go_simp⟩) hH ?_
        simp only [Act.put, List.setIfInBounds_toArray, List.set_cons_zero, List.set_cons_succ]
        refine wpAnyH_done (by kernel_rfl) ?_ _
        replace HB := hid (HB.out.trans (hH.mono HB.out.size))
        clear hH a0 a1 a2 a3 a4 a5
        go_wp2
        go_ret
        exact ⟨rfl, HB.out⟩
  · have hc0 : cN = 3 := HCN.out.trans n2
    subst hc0
    clear n1 n2 n3 HCN HMN HBN NI
    rcases HI.out with ⟨h1, h2, h3⟩ | ⟨h1, h2, h3⟩
    · have hc0 : cH = 0 := HCH.out.trans h2
      have hm0 : mH = 11 := by rw [HMH.out, HBH.out, h3, headL_len]
      have EH := hid (show BH = headL k2.toNat s2.toNat c2.toNat from HBH.out.trans h3)
      subst hc0
      subst hm0
      have H1 := hid h1
      clear h1 h2 h3 HCH HMH HBH HI
      obtain ⟨a0, a1, -, -⟩ := var2_facts VH.out
      go_wp2_with fail
      clear a0 a1
      obtain ⟨dd, rk, rs, rc, hR⟩ := rh_some BH
      have D0 : dd = 0 := by
        rw [EH.out] at hR
        exact rh_head ⟨by have := H1.out.1; omega, by have := H1.out.1; omega⟩ (by have := H1.out.2.1; omega) (by have := H1.out.2.2; omega) hR
      have YB := hid (show Byt BH by rw [EH.out]; exact headL_byt _ _ _ (by have := H1.out.1; omega) (by have := H1.out.2.1; omega))
      refine (irhd _ BH dd rk rs rc _ RH.out YB.out (by rw [EH.out, headL_len]; omega) hR).mono ?_
      rintro e w6 ⟨rfl, hB⟩
      replace RC := hid (RC.out.below hB)
      replace RN := hid (RN.out.below hB)
      replace RH := hid (RH.out.below hB)
      replace VN := hid (var_below hB VN.out)
      replace VH := hid (var_below hB VH.out)
      replace HB := hid (HB.out.trans (hB.mono HB.out.size))
      have hf := fldLR dd rk rs rc
      subst D0
      clear hB hR
      obtain ⟨a0, a1, -, -⟩ := var2_facts VN.out
      go_wp2
      go_ret
      exact ⟨rfl, HB.out⟩
    · have hc0 : cH = 3 := HCH.out.trans h2
      subst hc0
      clear h1 h2 h3 HCH HMH HBH HI
      obtain ⟨b0, b1, -, -⟩ := var2_facts VH.out
      obtain ⟨a0, a1, -, -⟩ := var2_facts VN.out
      go_wp2
      go_ret
      exact ⟨rfl, HB.out⟩
end Go.Proofs.Ytmamdbmkjipahab.W
