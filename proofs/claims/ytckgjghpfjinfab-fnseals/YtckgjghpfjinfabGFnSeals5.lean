/-
  The law of seals, out of the contracts of its callees.
-/
import Derived.Test.YtckgjghpfjinfabDrawOp
import Derived.Test.YtckgjghpfjinfabAtWalks
import Derived.Test.YtckgjghpfjinfabLwWalks
import Derived.Test.YtckgjghpfjinfabSslWalks
import Derived.Test.YtckgjghpfjinfabGFnSeals3
import Derived.Test.YtckgjghpfjinfabGFnSeals4
import Derived.Lib.Bytes
import Derived.StillTailTactics
import Derived.Deep.RegionHeld3

namespace Go.Proofs.Ytckgjghpfjinfab.W
open Go.ChangeShapes Go.WideShapes Go.ChangeAt Go.RowKit
open Go.Proofs.Ytckgjghpfjinfab.M

theorem keepG {W a b : World} {p q : Nat} {x1 x2 z1 z2 : Value}
    (h : Below W.heap.size W a ∧ a.cell? ⟨p, 0, none⟩ = some x1 ∧ a.cell? ⟨p, 1, none⟩ = some x2 ∧ a.cell? ⟨q, 0, none⟩ = some z1 ∧ a.cell? ⟨q, 1, none⟩ = some z2) (hB : Below a.heap.size a b) :
    Below W.heap.size W b ∧ b.cell? ⟨p, 0, none⟩ = some x1 ∧ b.cell? ⟨p, 1, none⟩ = some x2 ∧ b.cell? ⟨q, 0, none⟩ = some z1 ∧ b.cell? ⟨q, 1, none⟩ = some z2 :=
  ⟨h.1.trans (hB.mono h.1.size), cell_kept hB h.2.1, cell_kept hB h.2.2.1, cell_kept hB h.2.2.2.1, cell_kept hB h.2.2.2.2⟩
theorem keepE {W a b : World} {p : Nat} {x1 x2 : Value}
    (h : Below W.heap.size W a ∧ a.cell? ⟨p, 0, none⟩ = some x1 ∧ a.cell? ⟨p, 1, none⟩ = some x2) (hB : Below a.heap.size a b) :
    Below W.heap.size W b ∧ b.cell? ⟨p, 0, none⟩ = some x1 ∧ b.cell? ⟨p, 1, none⟩ = some x2 :=
  ⟨h.1.trans (hB.mono h.1.size), cell_kept hB h.2.1, cell_kept hB h.2.2⟩
theorem sam_self (l : List Nat) : sameS l l = true := by simp [sameS]
theorem bad_no (F : Nat → Nat) (n e s : List Nat) (i z : Nat) (h : opens F n e s) (hi : i < s.length) (h16 : s.length ≤ i + 16) (hz : s.set i z ≠ s) : ¬ opens F n e (s.set i z) := by
  rintro ⟨_, h2⟩
  obtain ⟨h3, h4⟩ := h
  rw [List.length_set] at h2
  have e1 : (s.set i z).take (s.length - 16) = s.take (s.length - 16) := by
    apply List.ext_getElem?
    intro j
    rw [List.getElem?_take, List.getElem?_take]
    split
    · rw [List.getElem?_set_ne (by omega)]
    · rfl
  rw [e1, h4] at h2
  apply hz
  rw [← List.take_append_drop (s.length - 16) (s.set i z), ← h2, e1, List.take_append_drop]
theorem idx_b0 (g n c j : Nat) (hj : j < n) (w : World) : (Instr.indexAt 22 (.slice (some ⟨g, 0, none⟩) n c) (.int .i64 (j : Int))).run Try.prog w = .ok (.pointer (some ⟨g, j, none⟩)) w := idx_o0 g n c j hj w
theorem lwat' (v : Value) (l : List Nat) (w : World) (t : Nat) (n : Int) (h : Rd w v l) (y : Byt l) (ht : t ≤ 1000) (h1' : 1 < n) (hn : n ≤ 60000) (hl : l.length ≤ 1048576) :
    Calls Try.prog 16 #[v, .int .i64 (t : Int), .int .i64 n] w fun e w' => ∃ j : Nat, e = .returned (.int .i64 (j : Int)) ∧ (j : Int) < n ∧ Below w.heap.size w w' :=
  (lwat v l w t n h y ht h1' hn hl).mono (fun e w' ⟨r, he, ⟨h0, h1⟩, m, hw⟩ => ⟨r.toNat, by rw [he, Int.toNat_of_nonneg h0], by omega, by rw [hw]; exact below_drewN (Below.refl _ _) m⟩)
theorem at2 (v : Value) (l : List Nat) (w : World) (h : Rd w v l) (y : Byt l) (hl : l.length ≤ 1048576) :
    Calls Try.prog 16 #[v, .int .i64 2, .int .i64 16] w fun e w' => ∃ j : Nat, e = .returned (.int .i64 (j : Int)) ∧ j < 16 ∧ Below w.heap.size w w' :=
  (lwat' v l w 2 16 h y (by omega) (by omega) (by omega) hl).mono (fun e w' ⟨j, he, hj, hb⟩ => ⟨j, he, by omega, hb⟩)
theorem at3 (v : Value) (l : List Nat) (w : World) (h : Rd w v l) (y : Byt l) (hl : l.length ≤ 1048576) :
    Calls Try.prog 16 #[v, .int .i64 3, .int .i64 255] w fun e w' => ∃ j : Nat, e = .returned (.int .i64 (j : Int)) ∧ j < 255 ∧ Below w.heap.size w w' :=
  (lwat' v l w 3 255 h y (by omega) (by omega) (by omega) hl).mono (fun e w' ⟨j, he, hj, hb⟩ => ⟨j, he, by omega, hb⟩)
theorem xor_ne (z t : Nat) (h : t ≠ 0) : z ^^^ t ≠ z := by
  intro e
  apply h
  have h2 : z ^^^ (z ^^^ t) = z ^^^ z := by rw [e]
  rwa [← Nat.xor_assoc, Nat.xor_self, Nat.zero_xor] at h2
theorem set_ne (l : List Nat) (i z : Nat) (h : i < l.length) (hz : z ≠ gt l i) : l.set i z ≠ l := by
  intro e
  apply hz
  have q : gt (l.set i z) i = gt l i := by rw [e]
  rw [← q, gt_eq _ i (by rw [List.length_set]; exact h)]
  simp

set_option maxHeartbeats 16000000 in
set_option maxRecDepth 100000 in
theorem law_seals (v : Value) (l : List Nat) (w : World) (h : Rd w v l) (y : Byt l) :
    Calls Try.prog 4 #[v] w fun e w' => e = .returned (.bool true) ∧ Below w.heap.size w w' := by
  have RC := hid h
  obtain ⟨q, cap, rfl, _, _, _⟩ := h.parts
  clear h
  by_cases hl : l.length ≤ 1048576
  · go_enter Try.func4, Try.ntmps4
    go_wp2_with (go_at_call 8; go_in)
    refine (drawSl _ l _ RC.out y hl).mono ?_
    rintro e w1 ⟨gk, kk, gn, kn, ge, ke, gp, kp, k, n, x, p, rfl, lk, ln, lx, lp, yk, yn, yx, yp, OK, ON, OE, OP, hBel, -, -, -⟩
    replace RC := hid (RC.out.below hBel)
    have RK := OK.rd
    have RN := ON.rd
    have RE := OE.rd
    have RP := OP.rd
    have HB := hid hBel
    clear OK ON OE OP hBel
    obtain ⟨nk, hnk⟩ : ∃ zz, zz = k.length := ⟨_, rfl⟩
    rw [← hnk] at RK ⊢
    have Hnk := hid hnk
    clear hnk
    obtain ⟨nn, hnn⟩ : ∃ zz, zz = n.length := ⟨_, rfl⟩
    rw [← hnn] at RN ⊢
    have Hnn := hid hnn
    clear hnn
    obtain ⟨ne, hne⟩ : ∃ zz, zz = x.length := ⟨_, rfl⟩
    rw [← hne] at RE ⊢
    have Hne := hid hne
    clear hne
    obtain ⟨np, hnp⟩ : ∃ zz, zz = p.length := ⟨_, rfl⟩
    rw [← hnp] at RP ⊢
    have Hnp := hid hnp
    clear hnp
    replace RK := hid RK
    replace RN := hid RN
    replace RE := hid RE
    replace RP := hid RP
    go_wp2_with fail
    refine (isl _ _ _ _ k n x p _ RK.out RN.out RE.out RP.out yk yn yx yp).mono ?_
    rintro e w2 ⟨vr, rfl, OE, hB⟩
    have RS := OE.rd
    obtain ⟨pS, kS, rfl, -, -, -⟩ := RS.parts
    replace RC := hid (RC.out.below hB)
    replace RK := hid (RK.out.below hB)
    replace RN := hid (RN.out.below hB)
    replace RE := hid (RE.out.below hB)
    replace RP := hid (RP.out.below hB)
    replace HB := hid (HB.out.trans (hB.mono HB.out.size))
    clear hB OE
    obtain ⟨BS, hb⟩ : ∃ B, B = slB k n x p := ⟨_, rfl⟩
    obtain ⟨cS, hc⟩ : ∃ c, c = slC k n x p := ⟨_, rfl⟩
    obtain ⟨mS, hm⟩ : ∃ m, m = BS.length := ⟨_, rfl⟩
    rw [← hb] at RS ⊢
    rw [← hc]
    rw [← hm] at RS ⊢
    have HBS := hid hb
    have HCS := hid hc
    have HMS := hid hm
    replace RS := hid RS
    clear hb hc hm
    go_wp2_with fail
    have VS := hid (heap_alloc_new w2 (.cells #[.int .i64 cS, .slice pS mS kS] 27))
    have hA := below_alloc1 w2 (.cells #[.int .i64 cS, .slice pS mS kS] 27)
    replace RC := hid (RC.out.below hA)
    replace RK := hid (RK.out.below hA)
    replace RN := hid (RN.out.below hA)
    replace RE := hid (RE.out.below hA)
    replace RP := hid (RP.out.below hA)
    replace RS := hid (RS.out.below hA)
    replace HB := hid (HB.out.trans (hA.mono HB.out.size))
    clear hA
    generalize w2.alloc (.cells #[.int .i64 cS, .slice pS mS kS] 27) = w2a at *
    generalize w2.heap.size = gS at *
    refine (drawOp _ l _ RC.out y hl).mono ?_
    rintro e w3 ⟨v1, v2, v3, v4, k', n', x', s, rfl, ls, yk', yn', yx', ys, R1, R2, R3, R4, hBel⟩
    replace RC := hid (RC.out.below hBel)
    replace RK := hid (RK.out.below hBel)
    replace RN := hid (RN.out.below hBel)
    replace RE := hid (RE.out.below hBel)
    replace RP := hid (RP.out.below hBel)
    replace RS := hid (RS.out.below hBel)
    replace VS := hid (var_below hBel VS.out)
    replace HB := hid (HB.out.trans (hBel.mono HB.out.size))
    clear hBel
    obtain ⟨q1, r1, rfl, -, -, -⟩ := R1.parts
    obtain ⟨q2, r2, rfl, -, -, -⟩ := R2.parts
    obtain ⟨q3, r3, rfl, -, -, -⟩ := R3.parts
    obtain ⟨q4, r4, rfl, -, -, -⟩ := R4.parts
    obtain ⟨n1, hn1⟩ : ∃ zz, zz = k'.length := ⟨_, rfl⟩
    rw [← hn1] at R1 ⊢
    have Hn1 := hid hn1
    clear hn1
    obtain ⟨n2, hn2⟩ : ∃ zz, zz = n'.length := ⟨_, rfl⟩
    rw [← hn2] at R2 ⊢
    have Hn2 := hid hn2
    clear hn2
    obtain ⟨n3, hn3⟩ : ∃ zz, zz = x'.length := ⟨_, rfl⟩
    rw [← hn3] at R3 ⊢
    have Hn3 := hid hn3
    clear hn3
    obtain ⟨n4, hn4⟩ : ∃ zz, zz = s.length := ⟨_, rfl⟩
    rw [← hn4] at R4 ⊢
    have Hn4 := hid hn4
    clear hn4
    replace R1 := hid R1
    replace R2 := hid R2
    replace R3 := hid R3
    replace R4 := hid R4
    go_wp2_with fail
    refine (iop _ _ _ _ k' n' x' s _ R1.out R2.out R3.out R4.out yk' yn' yx' ys).mono ?_
    rintro e w4 ⟨vr, rfl, OE, hB⟩
    have RO := OE.rd
    obtain ⟨pO, kO, rfl, -, -, -⟩ := RO.parts
    replace RC := hid (RC.out.below hB)
    replace RK := hid (RK.out.below hB)
    replace RN := hid (RN.out.below hB)
    replace RE := hid (RE.out.below hB)
    replace RP := hid (RP.out.below hB)
    replace RS := hid (RS.out.below hB)
    replace R1 := hid (R1.out.below hB)
    replace R2 := hid (R2.out.below hB)
    replace R3 := hid (R3.out.below hB)
    replace R4 := hid (R4.out.below hB)
    replace VS := hid (var_below hB VS.out)
    replace HB := hid (HB.out.trans (hB.mono HB.out.size))
    clear hB OE
    obtain ⟨BO, hb⟩ : ∃ B, B = opB k' n' x' s := ⟨_, rfl⟩
    obtain ⟨cO, hc⟩ : ∃ c, c = opC k' n' x' s := ⟨_, rfl⟩
    obtain ⟨mO, hm⟩ : ∃ m, m = BO.length := ⟨_, rfl⟩
    rw [← hb] at RO ⊢
    rw [← hc]
    rw [← hm] at RO ⊢
    have HBO := hid hb
    have HCO := hid hc
    have HMO := hid hm
    replace RO := hid RO
    clear hb hc hm
    go_wp2_with fail
    have VO := hid (heap_alloc_new w4 (.cells #[.int .i64 cO, .slice pO mO kO] 27))
    have hA := below_alloc1 w4 (.cells #[.int .i64 cO, .slice pO mO kO] 27)
    replace RC := hid (RC.out.below hA)
    replace RK := hid (RK.out.below hA)
    replace RN := hid (RN.out.below hA)
    replace RE := hid (RE.out.below hA)
    replace RP := hid (RP.out.below hA)
    replace RS := hid (RS.out.below hA)
    replace R1 := hid (R1.out.below hA)
    replace R2 := hid (R2.out.below hA)
    replace R3 := hid (R3.out.below hA)
    replace R4 := hid (R4.out.below hA)
    replace RO := hid (RO.out.below hA)
    replace VS := hid (var_below hA VS.out)
    replace HB := hid (HB.out.trans (hA.mono HB.out.size))
    clear hA
    generalize w4.alloc (.cells #[.int .i64 cO, .slice pO mO kO] 27) = w4a at *
    generalize w4.heap.size = gO at *
    obtain ⟨a0, a1, -, -⟩ := var2_facts VS.out
    obtain ⟨a2, a3, -, -⟩ := var2_facts VO.out
    have C1 := hid (fun (wq : World) (hb : Below w4a.heap.size w4a wq) => (ssl _ _ _ _ k n x p wq (RK.out.below hb) (RN.out.below hb) (RE.out.below hb) (RP.out.below hb) yk yn yx yp).mono (R' := fun e w' => ∃ (p : Option Addr) (cc : Nat), e = .returned (.agg #[.int .i64 cS, .slice p mS cc]) ∧ Rd w' (.slice p mS cc) BS ∧ Below wq.heap.size wq w') (fun e w' ⟨r, he, ho, hb⟩ => by
      have q := ho.rd
      rw [← HBS.out] at q
      obtain ⟨p, cc, rfl, -, -, -⟩ := q.parts
      rw [← HCS.out] at he
      rw [← HMS.out] at he q
      exact ⟨p, cc, he, q, hb⟩))
    have C2 := hid (fun (wq : World) (hb : Below w4a.heap.size w4a wq) => (sop _ _ _ _ k' n' x' s wq (R1.out.below hb) (R2.out.below hb) (R3.out.below hb) (R4.out.below hb) yk' yn' yx' ys).mono (R' := fun e w' => ∃ (p : Option Addr) (cc : Nat), e = .returned (.agg #[.int .i64 cO, .slice p mO cc]) ∧ Rd w' (.slice p mO cc) BO ∧ Below wq.heap.size wq w') (fun e w' ⟨r, he, ho, hb⟩ => by
      have q := ho.rd
      rw [← HBO.out] at q
      obtain ⟨p, cc, rfl, -, -, -⟩ := q.parts
      rw [← HCO.out] at he
      rw [← HMO.out] at he q
      exact ⟨p, cc, he, q, hb⟩))
    have C3 := hid (fun (t : List Nat) (wq : World) (va vb : Value) (ha : Rd wq va t) (hb : Rd wq vb t) => (lwsame va vb t t wq ha hb).mono (R' := fun e w' => e = .returned (.bool true) ∧ Below wq.heap.size wq w') (fun e w' ⟨he, hw⟩ => by
      rw [sam_self] at he
      exact ⟨he, by rw [hw]; exact Below.refl _ _⟩))
    have tg : (cS != cS) = false := by simp
    have tx : (cO != cO) = false := by simp
    have hf0 : ∀ (x : Int) (p : Option Addr) (m cc : Nat) (w : World), (Instr.field 27 (.agg #[.int .i64 x, .slice p m cc]) 0).run Try.prog w = .ok (.int .i64 x) w := fun _ _ _ _ _ => by kernel_rfl
    have hf1 : ∀ (x : Int) (p : Option Addr) (m cc : Nat) (w : World), (Instr.field 27 (.agg #[.int .i64 x, .slice p m cc]) 1).run Try.prog w = .ok (.slice p m cc) w := fun _ _ _ _ _ => by kernel_rfl
    go_wp2_with fail
    go_region_held3 (fun w' => Below w4a.heap.size w4a w' ∧ w'.cell? ⟨gS, 0, none⟩ = some (.int .i64 cS) ∧ w'.cell? ⟨gS, 1, none⟩ = some (.slice pS mS kS) ∧ w'.cell? ⟨gO, 0, none⟩ = some (.int .i64 cO) ∧ w'.cell? ⟨gO, 1, none⟩ = some (.slice pO mO kO))
      (first | exact ⟨(Below.refl _ _).drew, a0, a1, a2, a3⟩ | exact ⟨Below.refl _ _, a0, a1, a2, a3⟩ | exact keepG ‹_ ∧ _ ∧ _› hz)
      (first | (go_at_call 21; refine (C1.out _ ?_).mono ?_; exact (‹Below w4a.heap.size w4a _ ∧ _›).1; rintro e wq ⟨pq, cq, rfl, hq', hz⟩) | (go_at_call 22; refine (C2.out _ ?_).mono ?_; exact (‹Below w4a.heap.size w4a _ ∧ _›).1; rintro e wq ⟨pq, cq, rfl, hq, hz⟩) | (go_at_call 15; refine (C3.out _ _ _ _ ?_ hq).mono ?_; exact RO.out.below (‹Below w4a.heap.size w4a _ ∧ _›).1; rintro e wx ⟨rfl, hz⟩))
    have hS := (‹Below w4a.heap.size w4a wx ∧ _›).1
    replace RC := hid (RC.out.below hS)
    replace RK := hid (RK.out.below hS)
    replace RN := hid (RN.out.below hS)
    replace RE := hid (RE.out.below hS)
    replace RP := hid (RP.out.below hS)
    replace RS := hid (RS.out.below hS)
    replace R1 := hid (R1.out.below hS)
    replace R2 := hid (R2.out.below hS)
    replace R3 := hid (R3.out.below hS)
    replace R4 := hid (R4.out.below hS)
    replace RO := hid (RO.out.below hS)
    replace VS := hid (var_below hS VS.out)
    replace VO := hid (var_below hS VO.out)
    replace HB := hid (HB.out.trans (hS.mono HB.out.size))
    clear hS C1 C2 C3 hz hq hq' tg tx a0 a1 a2 a3
    obtain ⟨a2, a3, -, -⟩ := var2_facts VO.out
    by_cases ho : opOk k' n' x' s = true ∧ opens (kf k') n' x' s
    · have hc0 : cO = 0 := by rw [HCO.out, opC, if_pos ho.1, if_pos ho.2]
      have EO : BO = hid1 (kf k') n' (s.take (s.length - 16)) := by rw [HBO.out, opB, if_pos ho.1, if_pos ho.2]
      subst hc0
      replace ho := hid ho
      have YO := hid (show Byt BO by rw [EO]; exact strm_byt _ (kf_lt k' yk') _ _ (cu_byt _ (jb_byt n' yn')) (fun u hu => ys u (List.mem_of_mem_take hu)))
      have C1 := hid (fun (wq : World) (hb : Below wx.heap.size wx wq) => (isl _ _ _ _ k' n' x' BO wq (R1.out.below hb) (R2.out.below hb) (R3.out.below hb) (RO.out.below hb) yk' yn' yx' YO.out).mono (R' := fun e w' => ∃ (p : Option Addr) (cc : Nat), e = .returned (.agg #[.int .i64 0, .slice p n4 cc]) ∧ Rd w' (.slice p n4 cc) s ∧ Below wq.heap.size wq w') (fun e w' ⟨r, he, ho', hb⟩ => by
        have q := ho'.rd
        have pp := opOk_parts ho.out.1
        have ok : slOk k' n' x' BO = true := by
          unfold slOk askd
          rw [EO, hid1, strm_len, List.length_take]
          simp only [Bool.and_eq_true, decide_eq_true_eq]
          omega
        rw [slC, if_pos ok] at he
        rw [slB, if_pos ok, EO, open_sld _ _ _ _ ho.out.2] at q
        obtain ⟨p, cc, rfl, -, -, -⟩ := q.parts
        rw [← Hn4.out] at he q
        exact ⟨p, cc, he, q, hb⟩))
      have C3 := hid (fun (t : List Nat) (wq : World) (va vb : Value) (ha : Rd wq va t) (hb : Rd wq vb t) => (lwsame va vb t t wq ha hb).mono (R' := fun e w' => e = .returned (.bool true) ∧ Below wq.heap.size wq w') (fun e w' ⟨he, hw⟩ => by
        rw [sam_self] at he
        exact ⟨he, by rw [hw]; exact Below.refl _ _⟩))
      clear HCO HBO HMO EO
      go_wp2_with fail
      refine (C1.out _ (Below.refl _ _)).mono ?_
      rintro e w5 ⟨pq, cq, rfl, hq, hB⟩
      replace RC := hid (RC.out.below hB)
      replace RK := hid (RK.out.below hB)
      replace RN := hid (RN.out.below hB)
      replace RE := hid (RE.out.below hB)
      replace RP := hid (RP.out.below hB)
      replace RS := hid (RS.out.below hB)
      replace R1 := hid (R1.out.below hB)
      replace R2 := hid (R2.out.below hB)
      replace R3 := hid (R3.out.below hB)
      replace R4 := hid (R4.out.below hB)
      replace RO := hid (RO.out.below hB)
      replace VS := hid (var_below hB VS.out)
      replace VO := hid (var_below hB VO.out)
      replace HB := hid (HB.out.trans (hB.mono HB.out.size))
      clear hB a2 a3
      go_wp2_with fail
      refine (C3.out _ _ _ _ hq R4.out).mono ?_
      rintro e w6 ⟨rfl, hB⟩
      replace RC := hid (RC.out.below hB)
      replace RK := hid (RK.out.below hB)
      replace RN := hid (RN.out.below hB)
      replace RE := hid (RE.out.below hB)
      replace RP := hid (RP.out.below hB)
      replace RS := hid (RS.out.below hB)
      replace R1 := hid (R1.out.below hB)
      replace R2 := hid (R2.out.below hB)
      replace R3 := hid (R3.out.below hB)
      replace R4 := hid (R4.out.below hB)
      replace RO := hid (RO.out.below hB)
      replace VS := hid (var_below hB VS.out)
      replace VO := hid (var_below hB VO.out)
      replace HB := hid (HB.out.trans (hB.mono HB.out.size))
      clear hB C1 C3 hq RO VO R1 R2 R3 R4
      by_cases hs : slOk k n x p = true
      · have hc0 : cS = 0 := by rw [HCS.out, slC, if_pos hs]
        have ES : BS = sld (kf k) n x p := by rw [HBS.out, slB, if_pos hs]
        have hm : mS = np + 16 := by rw [HMS.out, ES, sld_len _ _ _ _ (slOk_parts hs).1.2.1, Hnp.out]
        subst hc0
        obtain ⟨bS, oS, kS', eS, -, -⟩ := RS.out.spot (by rw [← HMS.out]; omega)
        rw [← HMS.out] at eS
        cases eS
        replace hs := hid hs
        replace ES := hid ES
        have C1 := hid (fun (wq : World) (hb : Below w6.heap.size w6 wq) => (ssl _ _ _ _ k n x p wq (RK.out.below hb) (RN.out.below hb) (RE.out.below hb) (RP.out.below hb) yk yn yx yp).mono (R' := fun e w' => ∃ (p : Option Addr) (cc : Nat), e = .returned (.agg #[.int .i64 0, .slice p mS cc]) ∧ Rd w' (.slice p mS cc) BS ∧ Below wq.heap.size wq w') (fun e w' ⟨r, he, ho, hb⟩ => by
          have q := ho.rd
          rw [slC, if_pos hs.out] at he
          rw [← HBS.out] at q
          obtain ⟨p, cc, rfl, -, -, -⟩ := q.parts
          rw [← HMS.out] at he q
          exact ⟨p, cc, he, q, hb⟩))
        have C3 := hid (fun (t : List Nat) (wq : World) (va vb : Value) (ha : Rd wq va t) (hb : Rd wq vb t) => (lwsame va vb t t wq ha hb).mono (R' := fun e w' => e = .returned (.bool true) ∧ Below wq.heap.size wq w') (fun e w' ⟨he, hw⟩ => by
          rw [sam_self] at he
          exact ⟨he, by rw [hw]; exact Below.refl _ _⟩))
        obtain ⟨a0, a1, -, -⟩ := var2_facts VS.out
        have hnp : np ≤ 600 := by rw [Hnp.out]; exact (slOk_parts hs.out).2
        have tl : (np : Int) + 16 = (mS : Int) := by omega
        have tw : IntKind.i64.wrap (mS : Int) = (mS : Int) := by rw [IntKind.wrap_i64]; omega
        have hm' : mS ≤ 616 := by omega
        replace hm := hid hm
        go_wp2_with fail
        refine wp_region_held_drew (S := fun w' => Below w6.heap.size w6 w' ∧ w'.cell? ⟨gS, 0, none⟩ = some (.int .i64 0) ∧ w'.cell? ⟨gS, 1, none⟩ = some (.slice (some ⟨bS, oS, none⟩) mS kS)) (by kernel_rfl) ⟨(Below.refl _ _).drew, a0, a1⟩ (fun hH => ?_)
        refine wpAnyH_take (i := 0) (v := .pointer (some ⟨gS, 1, none⟩)) (by simp only [List.getElem?_toArray, List.getElem?_cons_zero]; rfl) (by kernel_rfl) (by kernel_rfl) (by kernel_rfl) (by intro _ _ _ h; exact h) (Or.inl ⟨by rfl, fun w hS => by go_simp⟩) hH ?_
        simp only [Act.put, List.setIfInBounds_toArray, List.set_cons_zero, List.set_cons_succ]
        refine wpAnyH_take (i := 1) (v := .slice (some ⟨bS, oS, none⟩) mS kS) (by simp only [List.getElem?_toArray, List.getElem?_cons_succ, List.getElem?_cons_zero]; rfl) (by kernel_rfl) (by kernel_rfl) (by kernel_rfl) (by intro _ _ _ h; exact h) (Or.inl ⟨by rfl, fun w hS => by (obtain ⟨-, -, h2⟩ := hS; go_simp)⟩) hH ?_
        simp only [Act.put, List.setIfInBounds_toArray, List.set_cons_zero, List.set_cons_succ]
        refine wpAnyH_take (i := 2) (v := .int .i64 (mS : Int)) (by simp only [List.getElem?_toArray, List.getElem?_cons_succ, List.getElem?_cons_zero]; rfl) (by kernel_rfl) (by kernel_rfl) (by kernel_rfl) (by intro _ _ _ h; exact h) (Or.inl ⟨by rfl, fun w hS => by go_simp⟩) hH ?_
        simp only [Act.put, List.setIfInBounds_toArray, List.set_cons_zero, List.set_cons_succ]
        refine wpAnyH_take (i := 3) (v := .slice (some ⟨gp, 0, none⟩) np kp) (by simp only [List.getElem?_toArray, List.getElem?_cons_succ, List.getElem?_cons_zero]; rfl) (by kernel_rfl) (by kernel_rfl) (by kernel_rfl) (by intro _ _ _ h; exact h) (Or.inl ⟨by rfl, fun w hS => by go_simp⟩) hH ?_
        simp only [Act.put, List.setIfInBounds_toArray, List.set_cons_zero, List.set_cons_succ]
        refine wpAnyH_take (i := 4) (v := .int .i64 (np : Int)) (by simp only [List.getElem?_toArray, List.getElem?_cons_succ, List.getElem?_cons_zero]; rfl) (by kernel_rfl) (by kernel_rfl) (by kernel_rfl) (by intro _ _ _ h; exact h) (Or.inl ⟨by rfl, fun w hS => by go_simp⟩) hH ?_
        simp only [Act.put, List.setIfInBounds_toArray, List.set_cons_zero, List.set_cons_succ]
        refine wpAnyH_take (i := 5) (v := .int .i64 (mS : Int)) (by simp only [List.getElem?_toArray, List.getElem?_cons_succ, List.getElem?_cons_zero]; rfl) (by kernel_rfl) (by kernel_rfl) (by kernel_rfl) (by intro _ _ _ h; exact h) (Or.inl ⟨by rfl, fun w hS => by go_simp⟩) hH ?_
        simp only [Act.put, List.setIfInBounds_toArray, List.set_cons_zero, List.set_cons_succ]
        refine wpAnyH_take (i := 6) (v := .bool false) (by simp only [List.getElem?_toArray, List.getElem?_cons_succ, List.getElem?_cons_zero]; rfl) (by kernel_rfl) (by kernel_rfl) (by kernel_rfl) (by intro _ _ _ h; exact h) (Or.inl ⟨by rfl, fun w hS => by go_simp⟩) hH ?_
        simp only [Act.put, List.setIfInBounds_toArray, List.set_cons_zero, List.set_cons_succ]
        refine wpAnyH_take (i := 7) (v := .bool false) (by simp only [List.getElem?_toArray, List.getElem?_cons_succ, List.getElem?_cons_zero]; rfl) (by kernel_rfl) (by kernel_rfl) (by kernel_rfl) (by intro _ _ _ h; exact h) (Or.inl ⟨by rfl, fun w hS => by go_simp⟩) hH ?_
        simp only [Act.put, List.setIfInBounds_toArray, List.set_cons_zero, List.set_cons_succ]
        refine wpAnyH_take (i := 8) (v := .pointer (some ⟨gS, 1, none⟩)) (by simp only [List.getElem?_toArray, List.getElem?_cons_succ, List.getElem?_cons_zero]; rfl) (by kernel_rfl) (by kernel_rfl) (by kernel_rfl) (by intro _ _ _ h; exact h) (Or.inl ⟨by rfl, fun w hS => by go_simp⟩) hH ?_
        simp only [Act.put, List.setIfInBounds_toArray, List.set_cons_zero, List.set_cons_succ]
        refine wpAnyH_take (i := 9) (v := .slice (some ⟨bS, oS, none⟩) mS kS) (by simp only [List.getElem?_toArray, List.getElem?_cons_succ, List.getElem?_cons_zero]; rfl) (by kernel_rfl) (by kernel_rfl) (by kernel_rfl) (by intro _ _ _ h; exact h) (Or.inl ⟨by rfl, fun w hS => by (obtain ⟨-, -, h2⟩ := hS; go_simp)⟩) hH ?_
        simp only [Act.put, List.setIfInBounds_toArray, List.set_cons_zero, List.set_cons_succ]
        refine wpAnyH_take (i := 10) (v := .slice (some ⟨gk, 0, none⟩) nk kk) (by simp only [List.getElem?_toArray, List.getElem?_cons_succ, List.getElem?_cons_zero]; rfl) (by kernel_rfl) (by kernel_rfl) (by kernel_rfl) (by intro _ _ _ h; exact h) (Or.inl ⟨by rfl, fun w hS => by go_simp⟩) hH ?_
        simp only [Act.put, List.setIfInBounds_toArray, List.set_cons_zero, List.set_cons_succ]
        refine wpAnyH_take (i := 11) (v := .slice (some ⟨gn, 0, none⟩) nn kn) (by simp only [List.getElem?_toArray, List.getElem?_cons_succ, List.getElem?_cons_zero]; rfl) (by kernel_rfl) (by kernel_rfl) (by kernel_rfl) (by intro _ _ _ h; exact h) (Or.inl ⟨by rfl, fun w hS => by go_simp⟩) hH ?_
        simp only [Act.put, List.setIfInBounds_toArray, List.set_cons_zero, List.set_cons_succ]
        refine wpAnyH_take (i := 12) (v := .slice (some ⟨ge, 0, none⟩) ne ke) (by simp only [List.getElem?_toArray, List.getElem?_cons_succ, List.getElem?_cons_zero]; rfl) (by kernel_rfl) (by kernel_rfl) (by kernel_rfl) (by intro _ _ _ h; exact h) (Or.inl ⟨by rfl, fun w hS => by go_simp⟩) hH ?_
        simp only [Act.put, List.setIfInBounds_toArray, List.set_cons_zero, List.set_cons_succ]
        refine wpAnyH_take (i := 13) (v := .slice (some ⟨gp, 0, none⟩) np kp) (by simp only [List.getElem?_toArray, List.getElem?_cons_succ, List.getElem?_cons_zero]; rfl) (by kernel_rfl) (by kernel_rfl) (by kernel_rfl) (by intro _ _ _ h; exact h) (Or.inl ⟨by rfl, fun w hS => by go_simp⟩) hH ?_
        simp only [Act.put, List.setIfInBounds_toArray, List.set_cons_zero, List.set_cons_succ]
        refine wpAnyH_ready (rs := [14]) (by kernel_rfl) (by simp) ?_
        refine AllReadyH.cons (by simp only [List.getElem?_toArray, List.getElem?_cons_succ, List.getElem?_cons_zero]; rfl) (fun K hK => ?_) AllReadyH.nil
        go_simp
        refine (C1.out _ hH.1).mono ?_
        rintro e x14 ⟨pq, cq, rfl, hq, hM⟩
        refine hK.out _ _ (keepE hH hM) (fun hH => ?_)
        clear hK K
        clear hM
        refine wpAnyH_take (i := 15) (v := .slice pq mS cq) (by simp only [List.getElem?_toArray, List.getElem?_cons_succ, List.getElem?_cons_zero]; rfl) (by kernel_rfl) (by kernel_rfl) (by kernel_rfl) (by intro _ _ _ h; exact h) (Or.inl ⟨by rfl, fun w hS => by go_simp⟩) hH ?_
        simp only [Act.put, List.setIfInBounds_toArray, List.set_cons_zero, List.set_cons_succ]
        refine wpAnyH_ready (rs := [16]) (by kernel_rfl) (by simp) ?_
        refine AllReadyH.cons (by simp only [List.getElem?_toArray, List.getElem?_cons_succ, List.getElem?_cons_zero]; rfl) (fun K hK => ?_) AllReadyH.nil
        go_simp
        refine (C3.out _ _ _ _ (RS.out.below hH.1) hq).mono ?_
        rintro e x16 ⟨rfl, hM⟩
        refine hK.out _ _ (keepE hH hM) (fun hH => ?_)
        clear hK K
        clear hM
        refine wpAnyH_take (i := 17) (v := .bool false) (by simp only [List.getElem?_toArray, List.getElem?_cons_succ, List.getElem?_cons_zero]; rfl) (by kernel_rfl) (by kernel_rfl) (by kernel_rfl) (by intro _ _ _ h; exact h) (Or.inl ⟨by rfl, fun w hS => by go_simp⟩) hH ?_
        simp only [Act.put, List.setIfInBounds_toArray, List.set_cons_zero, List.set_cons_succ]
        refine wpAnyH_take (i := 18) (v := .bool false) (by simp only [List.getElem?_toArray, List.getElem?_cons_succ, List.getElem?_cons_zero]; rfl) (by kernel_rfl) (by kernel_rfl) (by kernel_rfl) (by intro _ _ _ h; exact h) (Or.inl ⟨by rfl, fun w hS => by go_simp⟩) hH ?_
        simp only [Act.put, List.setIfInBounds_toArray, List.set_cons_zero, List.set_cons_succ]
        refine wpAnyH_done (by kernel_rfl) ?_ _
        have hS := hH.1
        clear hq
        generalize x16 = wy at *
        replace RC := hid (RC.out.below hS)
        replace RK := hid (RK.out.below hS)
        replace RN := hid (RN.out.below hS)
        replace RE := hid (RE.out.below hS)
        replace RP := hid (RP.out.below hS)
        replace RS := hid (RS.out.below hS)
        replace VS := hid (var_below hS VS.out)
        replace HB := hid (HB.out.trans (hS.mono HB.out.size))
        clear hS C1 C3 hH a0 a1 tl tw
        obtain ⟨a0, a1, -, -⟩ := var2_facts VS.out
        obtain ⟨i0, hi, hz0, hz1, hz2⟩ := info_parts info8
        have a1' := cell_alloc a1 (.cells #[] 5)
        have hO0 := own_lit0 wy
        go_wp2_with (at_builtin; refine wpList_append_own _ rfl _ _ _ rfl wy.heap.size 5 i0 (.int .u8 0) 1 1 Try.underlying22 hi hz0 hz1 hz2 rfl (by omega) _ _ _ rfl hO0 ⟨bS, oS, none⟩ mS kS (BS.map bv) rfl (by simp [HMS.out]) ?_ ?_ ?_ ?_ ?_ ?_)
        · intro j u hj
          have hj' : j < BS.length := by
            rcases Nat.lt_or_ge j BS.length with q | q
            · exact q
            · rw [List.getElem?_eq_none (by simpa using q)] at hj; cases hj
          have q := RS.out.cells j hj'
          rw [gt_eq BS j hj'] at q
          rw [List.getElem?_map, List.getElem?_eq_getElem hj'] at hj
          cases hj
          rw [Addr.add_lit]
          exact cell_alloc q _
        · intro u hu
          obtain ⟨x, _, rfl⟩ := List.mem_map.1 hu
          rfl
        · unfold maxLen; simp <;> omega
        · simp <;> omega
        · simp
        intro v' w7 hown1 hgrow1 _
        have hO1 : Own w7 wy.heap.size v' BS := by
          unfold Own
          rw [← HMS.out]
          simpa using hown1
        have FW := hid ((below_alloc1 wy _).grown hgrow1 (by simp) (fun x e => by simp [Value.ownBlock] at e; omega) : Below wy.heap.size wy w7)
        obtain ⟨go, co, rfl, hgo, -⟩ := own_slot' hO1 HMS.out.symm (by have := hm.out; omega)
        have FO := hid hO1
        clear hown1 hgrow1 hO0 hO1 a0 a1 a1' hi hz0 hz1 hz2
        go_wp2_with fail
        have YS := hid (show Byt BS by rw [ES.out]; exact sld_byt _ (kf_lt k yk) _ _ _ yn yp)
        refine wp_region_held_drew (S := fun _ => True) (by kernel_rfl) trivial (fun hH => ?_)
        replace FO := hid (FO.out.below (Below.refl _ _).drew)
        replace FW := hid FW.out.drew
        generalize w7.drew = x1 at *
        have hm16 : 16 ≤ mS := by have := hm.out; omega
        have W3 : IntKind.i64.wrap ((mS : Int) - 1) = (mS : Int) - 1 := by rw [IntKind.wrap_i64]; omega
        refine wpAnyH_take (i := 0) (v := .slice (some ⟨go, 0, none⟩) mS co) (by simp only [List.getElem?_toArray, List.getElem?_cons_zero]; rfl) (by kernel_rfl) (by kernel_rfl) (by kernel_rfl) (by intro _ _ _ h; exact h) (Or.inl ⟨by rfl, fun w _ => by go_simp⟩) hH ?_
        try simp only [Act.put, List.setIfInBounds_toArray, List.set_cons_zero, List.set_cons_succ]
        refine wpAnyH_take (i := 1) (v := .slice (some ⟨go, 0, none⟩) mS co) (by simp only [List.getElem?_toArray, List.getElem?_cons_succ, List.getElem?_cons_zero]; rfl) (by kernel_rfl) (by kernel_rfl) (by kernel_rfl) (by intro _ _ _ h; exact h) (Or.inl ⟨by rfl, fun w _ => by go_simp⟩) hH ?_
        try simp only [Act.put, List.setIfInBounds_toArray, List.set_cons_zero, List.set_cons_succ]
        refine wpAnyH_take (i := 2) (v := .int .i64 (mS : Int)) (by simp only [List.getElem?_toArray, List.getElem?_cons_succ, List.getElem?_cons_zero]; rfl) (by kernel_rfl) (by kernel_rfl) (by kernel_rfl) (by intro _ _ _ h; exact h) (Or.inl ⟨by rfl, fun w _ => by go_simp⟩) hH ?_
        try simp only [Act.put, List.setIfInBounds_toArray, List.set_cons_zero, List.set_cons_succ]
        refine wpAnyH_take (i := 3) (v := .int .i64 ((mS : Int) - 1)) (by simp only [List.getElem?_toArray, List.getElem?_cons_succ, List.getElem?_cons_zero]; rfl) (by kernel_rfl) (by kernel_rfl) (by kernel_rfl) (by intro _ _ _ h; exact h) (Or.inl ⟨by rfl, fun w _ => by go_simp⟩) hH ?_
        try simp only [Act.put, List.setIfInBounds_toArray, List.set_cons_zero, List.set_cons_succ]
        refine wpAnyH_take (i := 4) (v := .slice q l.length cap) (by simp only [List.getElem?_toArray, List.getElem?_cons_succ, List.getElem?_cons_zero]; rfl) (by kernel_rfl) (by kernel_rfl) (by kernel_rfl) (by intro _ _ _ h; exact h) (Or.inl ⟨by rfl, fun w _ => by go_simp⟩) hH ?_
        try simp only [Act.put, List.setIfInBounds_toArray, List.set_cons_zero, List.set_cons_succ]
        refine wpAnyH_take (i := 9) (v := .slice q l.length cap) (by simp only [List.getElem?_toArray, List.getElem?_cons_succ, List.getElem?_cons_zero]; rfl) (by kernel_rfl) (by kernel_rfl) (by kernel_rfl) (by intro _ _ _ h; exact h) (Or.inl ⟨by rfl, fun w _ => by go_simp⟩) hH ?_
        try simp only [Act.put, List.setIfInBounds_toArray, List.set_cons_zero, List.set_cons_succ]
        refine wpAnyH_ready (rs := [5]) (by kernel_rfl) (by simp) ?_
        refine AllReadyH.cons (by simp only [List.getElem?_toArray, List.getElem?_cons_succ, List.getElem?_cons_zero]; rfl) (fun K hK => ?_) AllReadyH.nil
        go_simp
        refine (at2 _ l _ (RC.out.below FW.out) y hl).mono ?_
        rintro e x2 ⟨j, rfl, hj, hM⟩
        refine hK.out _ _ trivial (fun hH => ?_)
        clear hK K
        try simp only [Act.put, List.setIfInBounds_toArray, List.set_cons_zero, List.set_cons_succ]
        replace FO := hid (FO.out.below hM)
        replace FW := hid (FW.out.trans (hM.mono FW.out.size))
        clear hM
        obtain ⟨i, ei⟩ : ∃ i : Nat, i = mS - 1 - j := ⟨_, rfl⟩
        have hi : i < mS := by omega
        have hi2 : mS ≤ i + 16 := by omega
        have W4 : IntKind.i64.wrap (i : Int) = (i : Int) := by rw [IntKind.wrap_i64]; omega
        have W5 : (mS : Int) - 1 - (j : Int) = (i : Int) := by omega
        clear ei
        refine wpAnyH_take (i := 6) (v := .int .i64 (i : Int)) (by simp only [List.getElem?_toArray, List.getElem?_cons_succ, List.getElem?_cons_zero]; rfl) (by kernel_rfl) (by kernel_rfl) (by kernel_rfl) (by intro _ _ _ h; exact h) (Or.inl ⟨by rfl, fun w _ => by go_simp⟩) hH ?_
        try simp only [Act.put, List.setIfInBounds_toArray, List.set_cons_zero, List.set_cons_succ]
        clear W5
        have I1 := idx_b0 go mS co i hi
        obtain ⟨z, hz⟩ : ∃ z, z = gt BS i := ⟨_, rfl⟩
        have z1 : z < 256 := by rw [hz]; exact gt_byt BS YS.out i
        have Hz := hid hz
        clear hz
        have j0 : (0 : Int) ≤ (i : Int) := by omega
        have j1 : (i : Int) < (mS : Int) := by omega
        refine wpAnyH_take (i := 7) (v := .pointer (some ⟨go, i, none⟩)) (by simp only [List.getElem?_toArray, List.getElem?_cons_succ, List.getElem?_cons_zero]; rfl) (by kernel_rfl) (by kernel_rfl) (by kernel_rfl) (by intro _ _ _ h; exact h) (Or.inl ⟨by rfl, fun w _ => by go_simp⟩) hH ?_
        try simp only [Act.put, List.setIfInBounds_toArray, List.set_cons_zero, List.set_cons_succ]
        refine wpAnyH_ready (rs := [8, 10]) (by kernel_rfl) (by simp) ?_
        refine AllReadyH.cons (by simp only [List.getElem?_toArray, List.getElem?_cons_succ, List.getElem?_cons_zero]; rfl) (fun K hK => ?_) ?_
        · skip
          have c1 := own_o FO.out HMS.out.symm i hi
          rw [← Hz.out] at c1
          go_simp
          refine hK.out _ _ trivial (fun hH => ?_)
          clear hK K
          try simp only [Act.put, List.setIfInBounds_toArray, List.set_cons_zero, List.set_cons_succ]
          clear c1
          refine wpAnyH_ready (rs := [10]) (by kernel_rfl) (by simp) ?_
          refine AllReadyH.cons (by simp only [List.getElem?_toArray, List.getElem?_cons_succ, List.getElem?_cons_zero]; rfl) (fun K hK => ?_) AllReadyH.nil
          go_simp
          refine (at3 _ l _ (RC.out.below FW.out) y hl).mono ?_
          rintro e x3 ⟨t, rfl, ht, hM⟩
          refine hK.out _ _ trivial (fun hH => ?_)
          clear hK K
          try simp only [Act.put, List.setIfInBounds_toArray, List.set_cons_zero, List.set_cons_succ]
          replace FO := hid (FO.out.below hM)
          replace FW := hid (FW.out.trans (hM.mono FW.out.size))
          clear hM
          have E := xor8' z (1 + t) z1 (by omega)
          rw [show ((1 + t : Nat) : Int) = 1 + (t : Int) from rfl] at E
          have t0 : (0 : Int) ≤ (t : Int) := by omega
          have W1 := wrap_1 t ht
          have W2 := wrap_2 t ht
          refine wpAnyH_take (i := 11) (v := .int .i64 (1 + (t : Int))) (by simp only [List.getElem?_toArray, List.getElem?_cons_succ, List.getElem?_cons_zero]; rfl) (by kernel_rfl) (by kernel_rfl) (by kernel_rfl) (by intro _ _ _ h; exact h) (Or.inl ⟨by rfl, fun w _ => by go_simp⟩) hH ?_
          try simp only [Act.put, List.setIfInBounds_toArray, List.set_cons_zero, List.set_cons_succ]
          refine wpAnyH_take (i := 12) (v := .int .u8 (1 + (t : Int))) (by simp only [List.getElem?_toArray, List.getElem?_cons_succ, List.getElem?_cons_zero]; rfl) (by kernel_rfl) (by kernel_rfl) (by kernel_rfl) (by intro _ _ _ h; exact h) (Or.inl ⟨by rfl, fun w _ => by go_simp⟩) hH ?_
          try simp only [Act.put, List.setIfInBounds_toArray, List.set_cons_zero, List.set_cons_succ]
          refine wpAnyH_take (i := 13) (v := .int .u8 ((z ^^^ (1 + t) : Nat) : Int)) (by simp only [List.getElem?_toArray, List.getElem?_cons_succ, List.getElem?_cons_zero]; rfl) (by kernel_rfl) (by kernel_rfl) (by kernel_rfl) (by intro _ _ _ h; exact h) (Or.inl ⟨by rfl, fun w _ => by go_simp⟩) hH ?_
          try simp only [Act.put, List.setIfInBounds_toArray, List.set_cons_zero, List.set_cons_succ]
          refine wpAnyH_take (i := 14) (v := .pointer (some ⟨go, i, none⟩)) (by simp only [List.getElem?_toArray, List.getElem?_cons_succ, List.getElem?_cons_zero]; rfl) (by kernel_rfl) (by kernel_rfl) (by kernel_rfl) (by intro _ _ _ h; exact h) (Or.inl ⟨by rfl, fun w _ => by go_simp⟩) hH ?_
          try simp only [Act.put, List.setIfInBounds_toArray, List.set_cons_zero, List.set_cons_succ]
          refine wpAnyH_ready (rs := [15]) (by kernel_rfl) (by simp) ?_
          refine AllReadyH.cons (by simp only [List.getElem?_toArray, List.getElem?_cons_succ, List.getElem?_cons_zero]; rfl) (fun K hK => ?_) AllReadyH.nil
          have c1 := own_o FO.out HMS.out.symm i hi
          have c2 := FO.out.open HMS.out.symm i
          have ST := hid (FO.out.stored HMS.out.symm i (z ^^^ (1 + t))).1
          have SW := hid (FW.out.setCell (p := ⟨go, i, none⟩) hgo (.int .u8 ((z ^^^ (1 + t) : Nat) : Int)))
          unfold bv at ST
          go_simp
          refine hK.out _ _ trivial (fun hH => ?_)
          clear hK K
          try simp only [Act.put, List.setIfInBounds_toArray, List.set_cons_zero, List.set_cons_succ]
          clear c1 c2 FO FW E W1 W2 W3 W4 I1
          generalize x3.setCell ⟨go, i, none⟩ (.int .u8 ((z ^^^ (1 + t) : Nat) : Int)) = x9 at *
          refine wpAnyH_done (by kernel_rfl) ?_ _
          have RB := hid ST.out.rd
          have LB := hid (show (BS.set i (z ^^^ (1 + t))).length = mS by rw [List.length_set]; exact HMS.out.symm)
          have YB := hid (set_byt' BS YS.out i (z ^^^ (1 + t)) (xor_lt _ _ z1 (by omega)))
          have NB := hid (bad_no (kf k) n x BS i (z ^^^ (1 + t)) (by rw [ES.out]; exact sld_opens _ _ _ _ (slOk_parts hs.out).1.2.1) (by rw [← HMS.out]; exact hi) (by rw [← HMS.out]; omega) (set_ne BS i _ (by rw [← HMS.out]; exact hi) (by rw [← Hz.out]; exact xor_ne z (1 + t) (by omega))))
          clear ST z1 Hz
          generalize BS.set i (z ^^^ (1 + t)) = bad at *
          have K1 := hid (fun (wq : World) (hb : Below x9.heap.size x9 wq) => (iop _ _ _ _ k n x BS wq (RK.out.below (SW.out.trans (hb.mono SW.out.size))) (RN.out.below (SW.out.trans (hb.mono SW.out.size))) (RE.out.below (SW.out.trans (hb.mono SW.out.size))) (RS.out.below (SW.out.trans (hb.mono SW.out.size))) yk yn yx YS.out).mono (R' := fun e w' => ∃ (p' : Option Addr) (cc : Nat), e = .returned (.agg #[.int .i64 0, .slice p' np cc]) ∧ Rd w' (.slice p' np cc) p ∧ Below wq.heap.size wq w') (fun e w' ⟨r, he, ho, hb⟩ => by
            have q := ho.rd
            have pp := slOk_parts hs.out
            have oo : opOk k n x BS = true := by
              unfold opOk askd
              rw [← HMS.out]
              simp only [Bool.and_eq_true, decide_eq_true_eq]
              omega
            have op : opens (kf k) n x BS := by rw [ES.out]; exact sld_opens _ _ _ _ pp.1.2.1
            rw [opC, if_pos oo, if_pos op] at he
            rw [opB, if_pos oo, if_pos op, ES.out, sld_plain _ _ _ _ pp.1.2.1] at q
            obtain ⟨p', cc, rfl, -, -, -⟩ := q.parts
            rw [← Hnp.out] at he q
            exact ⟨p', cc, he, q, hb⟩))
          have K2 := hid (fun (wq : World) (hb : Below x9.heap.size x9 wq) => (iop _ _ _ _ k n x bad wq (RK.out.below (SW.out.trans (hb.mono SW.out.size))) (RN.out.below (SW.out.trans (hb.mono SW.out.size))) (RE.out.below (SW.out.trans (hb.mono SW.out.size))) (RB.out.below hb) yk yn yx YB.out).mono (R' := fun e w' => ∃ (p' : Option Addr) (cc : Nat), e = .returned (.agg #[.int .i64 9, .slice p' 0 cc]) ∧ Below wq.heap.size wq w') (fun e w' ⟨r, he, ho, hb⟩ => by
            have q := ho.rd
            have pp := slOk_parts hs.out
            have oo : opOk k n x bad = true := by
              unfold opOk askd
              rw [LB.out]
              simp only [Bool.and_eq_true, decide_eq_true_eq]
              omega
            rw [opC, if_pos oo, if_neg NB.out] at he
            rw [opB, if_pos oo, if_neg NB.out] at q
            obtain ⟨p', cc, rfl, -, -, -⟩ := q.parts
            exact ⟨p', cc, he, hb⟩))
          have C3 := hid (fun (wq : World) (va : Value) (ha : Rd wq va p) (hb : Below x9.heap.size x9 wq) => (lwsame va _ p p wq ha (RP.out.below (SW.out.trans (hb.mono SW.out.size)))).mono (R' := fun e w' => e = .returned (.bool true) ∧ Below wq.heap.size wq w') (fun e w' ⟨he, hw⟩ => by
            rw [sam_self] at he
            exact ⟨he, by rw [hw]; exact Below.refl _ _⟩))
          have HB9 := hid (HB.out.trans (SW.out.mono HB.out.size))
          obtain ⟨b0, b1, -, -⟩ := var2_facts (var_below SW.out VS.out)
          clear hH NB
          go_wp2_with fail
          refine (K1.out _ (Below.refl _ _)).mono ?_
          rintro e y1 ⟨p1, c1, rfl, hq1, hM⟩
          have B1 := hid hM
          replace b1 := cell_kept hM b1
          clear hM b0
          go_wp2_with fail
          refine (C3.out _ _ hq1 B1.out).mono ?_
          rintro e y2 ⟨rfl, hM⟩
          replace B1 := hid (B1.out.trans (hM.mono B1.out.size))
          replace b1 := cell_kept hM b1
          clear hM hq1
          go_wp2_with fail
          refine (K1.out _ B1.out).mono ?_
          rintro e y3 ⟨p2, c2, rfl, -, hM⟩
          replace B1 := hid (B1.out.trans (hM.mono B1.out.size))
          replace b1 := cell_kept hM b1
          clear hM
          go_wp2_with fail
          refine (K2.out _ B1.out).mono ?_
          rintro e y4 ⟨p3, c3, rfl, hM⟩
          replace B1 := hid (B1.out.trans (hM.mono B1.out.size))
          have HF := hid (HB9.out.trans (B1.out.mono HB9.out.size))
          clear hM B1 b1
          go_wp2
          go_ret
          exact ⟨rfl, HF.out⟩
        refine AllReadyH.cons (by simp only [List.getElem?_toArray, List.getElem?_cons_succ, List.getElem?_cons_zero]; rfl) (fun K hK => ?_) AllReadyH.nil
        go_simp
        refine (at3 _ l _ (RC.out.below FW.out) y hl).mono ?_
        rintro e x3 ⟨t, rfl, ht, hM⟩
        refine hK.out _ _ trivial (fun hH => ?_)
        clear hK K
        try simp only [Act.put, List.setIfInBounds_toArray, List.set_cons_zero, List.set_cons_succ]
        replace FO := hid (FO.out.below hM)
        replace FW := hid (FW.out.trans (hM.mono FW.out.size))
        clear hM
        have E := xor8' z (1 + t) z1 (by omega)
        rw [show ((1 + t : Nat) : Int) = 1 + (t : Int) from rfl] at E
        have t0 : (0 : Int) ≤ (t : Int) := by omega
        have W1 := wrap_1 t ht
        have W2 := wrap_2 t ht
        refine wpAnyH_take (i := 11) (v := .int .i64 (1 + (t : Int))) (by simp only [List.getElem?_toArray, List.getElem?_cons_succ, List.getElem?_cons_zero]; rfl) (by kernel_rfl) (by kernel_rfl) (by kernel_rfl) (by intro _ _ _ h; exact h) (Or.inl ⟨by rfl, fun w _ => by go_simp⟩) hH ?_
        try simp only [Act.put, List.setIfInBounds_toArray, List.set_cons_zero, List.set_cons_succ]
        refine wpAnyH_take (i := 12) (v := .int .u8 (1 + (t : Int))) (by simp only [List.getElem?_toArray, List.getElem?_cons_succ, List.getElem?_cons_zero]; rfl) (by kernel_rfl) (by kernel_rfl) (by kernel_rfl) (by intro _ _ _ h; exact h) (Or.inl ⟨by rfl, fun w _ => by go_simp⟩) hH ?_
        try simp only [Act.put, List.setIfInBounds_toArray, List.set_cons_zero, List.set_cons_succ]
        refine wpAnyH_ready (rs := [8]) (by kernel_rfl) (by simp) ?_
        refine AllReadyH.cons (by simp only [List.getElem?_toArray, List.getElem?_cons_succ, List.getElem?_cons_zero]; rfl) (fun K hK => ?_) AllReadyH.nil
        have c1 := own_o FO.out HMS.out.symm i hi
        rw [← Hz.out] at c1
        go_simp
        refine hK.out _ _ trivial (fun hH => ?_)
        clear hK K
        try simp only [Act.put, List.setIfInBounds_toArray, List.set_cons_zero, List.set_cons_succ]
        clear c1
        refine wpAnyH_take (i := 13) (v := .int .u8 ((z ^^^ (1 + t) : Nat) : Int)) (by simp only [List.getElem?_toArray, List.getElem?_cons_succ, List.getElem?_cons_zero]; rfl) (by kernel_rfl) (by kernel_rfl) (by kernel_rfl) (by intro _ _ _ h; exact h) (Or.inl ⟨by rfl, fun w _ => by go_simp⟩) hH ?_
        try simp only [Act.put, List.setIfInBounds_toArray, List.set_cons_zero, List.set_cons_succ]
        refine wpAnyH_take (i := 14) (v := .pointer (some ⟨go, i, none⟩)) (by simp only [List.getElem?_toArray, List.getElem?_cons_succ, List.getElem?_cons_zero]; rfl) (by kernel_rfl) (by kernel_rfl) (by kernel_rfl) (by intro _ _ _ h; exact h) (Or.inl ⟨by rfl, fun w _ => by go_simp⟩) hH ?_
        try simp only [Act.put, List.setIfInBounds_toArray, List.set_cons_zero, List.set_cons_succ]
        refine wpAnyH_ready (rs := [15]) (by kernel_rfl) (by simp) ?_
        refine AllReadyH.cons (by simp only [List.getElem?_toArray, List.getElem?_cons_succ, List.getElem?_cons_zero]; rfl) (fun K hK => ?_) AllReadyH.nil
        have c1 := own_o FO.out HMS.out.symm i hi
        have c2 := FO.out.open HMS.out.symm i
        have ST := hid (FO.out.stored HMS.out.symm i (z ^^^ (1 + t))).1
        have SW := hid (FW.out.setCell (p := ⟨go, i, none⟩) hgo (.int .u8 ((z ^^^ (1 + t) : Nat) : Int)))
        unfold bv at ST
        go_simp
        refine hK.out _ _ trivial (fun hH => ?_)
        clear hK K
        try simp only [Act.put, List.setIfInBounds_toArray, List.set_cons_zero, List.set_cons_succ]
        clear c1 c2 FO FW E W1 W2 W3 W4 I1
        generalize x3.setCell ⟨go, i, none⟩ (.int .u8 ((z ^^^ (1 + t) : Nat) : Int)) = x9 at *
        refine wpAnyH_done (by kernel_rfl) ?_ _
        have RB := hid ST.out.rd
        have LB := hid (show (BS.set i (z ^^^ (1 + t))).length = mS by rw [List.length_set]; exact HMS.out.symm)
        have YB := hid (set_byt' BS YS.out i (z ^^^ (1 + t)) (xor_lt _ _ z1 (by omega)))
        have NB := hid (bad_no (kf k) n x BS i (z ^^^ (1 + t)) (by rw [ES.out]; exact sld_opens _ _ _ _ (slOk_parts hs.out).1.2.1) (by rw [← HMS.out]; exact hi) (by rw [← HMS.out]; omega) (set_ne BS i _ (by rw [← HMS.out]; exact hi) (by rw [← Hz.out]; exact xor_ne z (1 + t) (by omega))))
        clear ST z1 Hz
        generalize BS.set i (z ^^^ (1 + t)) = bad at *
        have K1 := hid (fun (wq : World) (hb : Below x9.heap.size x9 wq) => (iop _ _ _ _ k n x BS wq (RK.out.below (SW.out.trans (hb.mono SW.out.size))) (RN.out.below (SW.out.trans (hb.mono SW.out.size))) (RE.out.below (SW.out.trans (hb.mono SW.out.size))) (RS.out.below (SW.out.trans (hb.mono SW.out.size))) yk yn yx YS.out).mono (R' := fun e w' => ∃ (p' : Option Addr) (cc : Nat), e = .returned (.agg #[.int .i64 0, .slice p' np cc]) ∧ Rd w' (.slice p' np cc) p ∧ Below wq.heap.size wq w') (fun e w' ⟨r, he, ho, hb⟩ => by
          have q := ho.rd
          have pp := slOk_parts hs.out
          have oo : opOk k n x BS = true := by
            unfold opOk askd
            rw [← HMS.out]
            simp only [Bool.and_eq_true, decide_eq_true_eq]
            omega
          have op : opens (kf k) n x BS := by rw [ES.out]; exact sld_opens _ _ _ _ pp.1.2.1
          rw [opC, if_pos oo, if_pos op] at he
          rw [opB, if_pos oo, if_pos op, ES.out, sld_plain _ _ _ _ pp.1.2.1] at q
          obtain ⟨p', cc, rfl, -, -, -⟩ := q.parts
          rw [← Hnp.out] at he q
          exact ⟨p', cc, he, q, hb⟩))
        have K2 := hid (fun (wq : World) (hb : Below x9.heap.size x9 wq) => (iop _ _ _ _ k n x bad wq (RK.out.below (SW.out.trans (hb.mono SW.out.size))) (RN.out.below (SW.out.trans (hb.mono SW.out.size))) (RE.out.below (SW.out.trans (hb.mono SW.out.size))) (RB.out.below hb) yk yn yx YB.out).mono (R' := fun e w' => ∃ (p' : Option Addr) (cc : Nat), e = .returned (.agg #[.int .i64 9, .slice p' 0 cc]) ∧ Below wq.heap.size wq w') (fun e w' ⟨r, he, ho, hb⟩ => by
          have q := ho.rd
          have pp := slOk_parts hs.out
          have oo : opOk k n x bad = true := by
            unfold opOk askd
            rw [LB.out]
            simp only [Bool.and_eq_true, decide_eq_true_eq]
            omega
          rw [opC, if_pos oo, if_neg NB.out] at he
          rw [opB, if_pos oo, if_neg NB.out] at q
          obtain ⟨p', cc, rfl, -, -, -⟩ := q.parts
          exact ⟨p', cc, he, hb⟩))
        have C3 := hid (fun (wq : World) (va : Value) (ha : Rd wq va p) (hb : Below x9.heap.size x9 wq) => (lwsame va _ p p wq ha (RP.out.below (SW.out.trans (hb.mono SW.out.size)))).mono (R' := fun e w' => e = .returned (.bool true) ∧ Below wq.heap.size wq w') (fun e w' ⟨he, hw⟩ => by
          rw [sam_self] at he
          exact ⟨he, by rw [hw]; exact Below.refl _ _⟩))
        have HB9 := hid (HB.out.trans (SW.out.mono HB.out.size))
        obtain ⟨b0, b1, -, -⟩ := var2_facts (var_below SW.out VS.out)
        clear hH NB
        go_wp2_with fail
        refine (K1.out _ (Below.refl _ _)).mono ?_
        rintro e y1 ⟨p1, c1, rfl, hq1, hM⟩
        have B1 := hid hM
        replace b1 := cell_kept hM b1
        clear hM b0
        go_wp2_with fail
        refine (C3.out _ _ hq1 B1.out).mono ?_
        rintro e y2 ⟨rfl, hM⟩
        replace B1 := hid (B1.out.trans (hM.mono B1.out.size))
        replace b1 := cell_kept hM b1
        clear hM hq1
        go_wp2_with fail
        refine (K1.out _ B1.out).mono ?_
        rintro e y3 ⟨p2, c2, rfl, -, hM⟩
        replace B1 := hid (B1.out.trans (hM.mono B1.out.size))
        replace b1 := cell_kept hM b1
        clear hM
        go_wp2_with fail
        refine (K2.out _ B1.out).mono ?_
        rintro e y4 ⟨p3, c3, rfl, hM⟩
        replace B1 := hid (B1.out.trans (hM.mono B1.out.size))
        have HF := hid (HB9.out.trans (B1.out.mono HB9.out.size))
        clear hM B1 b1
        go_wp2
        go_ret
        exact ⟨rfl, HF.out⟩
      · have hc0 : cS ≠ 0 := by rw [HCS.out, slC, if_neg hs]; omega
        have ts : (cS != 0) = true := by rw [bne_iff_ne]; exact hc0
        obtain ⟨a0, a1, -, -⟩ := var2_facts VS.out
        clear hc0 HCS HBS HMS hs
        go_wp2
        go_ret
        exact ⟨rfl, HB.out⟩
    · have hc0 : cO ≠ 0 := by
        rw [HCO.out, opC]
        split
        · rename_i h1
          rw [if_neg (fun h2 => ho ⟨h1, h2⟩)]
          omega
        · omega
      have tx : (cO == 0) = false := beq_eq_false_iff_ne.2 hc0
      clear hc0 HCO HBO HMO ho
      by_cases hs : slOk k n x p = true
      · have hc0 : cS = 0 := by rw [HCS.out, slC, if_pos hs]
        have ES : BS = sld (kf k) n x p := by rw [HBS.out, slB, if_pos hs]
        have hm : mS = np + 16 := by rw [HMS.out, ES, sld_len _ _ _ _ (slOk_parts hs).1.2.1, Hnp.out]
        subst hc0
        obtain ⟨bS, oS, kS', eS, -, -⟩ := RS.out.spot (by rw [← HMS.out]; omega)
        rw [← HMS.out] at eS
        cases eS
        replace hs := hid hs
        replace ES := hid ES
        have C1 := hid (fun (wq : World) (hb : Below wx.heap.size wx wq) => (ssl _ _ _ _ k n x p wq (RK.out.below hb) (RN.out.below hb) (RE.out.below hb) (RP.out.below hb) yk yn yx yp).mono (R' := fun e w' => ∃ (p : Option Addr) (cc : Nat), e = .returned (.agg #[.int .i64 0, .slice p mS cc]) ∧ Rd w' (.slice p mS cc) BS ∧ Below wq.heap.size wq w') (fun e w' ⟨r, he, ho, hb⟩ => by
          have q := ho.rd
          rw [slC, if_pos hs.out] at he
          rw [← HBS.out] at q
          obtain ⟨p, cc, rfl, -, -, -⟩ := q.parts
          rw [← HMS.out] at he q
          exact ⟨p, cc, he, q, hb⟩))
        have C3 := hid (fun (t : List Nat) (wq : World) (va vb : Value) (ha : Rd wq va t) (hb : Rd wq vb t) => (lwsame va vb t t wq ha hb).mono (R' := fun e w' => e = .returned (.bool true) ∧ Below wq.heap.size wq w') (fun e w' ⟨he, hw⟩ => by
          rw [sam_self] at he
          exact ⟨he, by rw [hw]; exact Below.refl _ _⟩))
        obtain ⟨a0, a1, -, -⟩ := var2_facts VS.out
        have hnp : np ≤ 600 := by rw [Hnp.out]; exact (slOk_parts hs.out).2
        have tl : (np : Int) + 16 = (mS : Int) := by omega
        have tw : IntKind.i64.wrap (mS : Int) = (mS : Int) := by rw [IntKind.wrap_i64]; omega
        have hm' : mS ≤ 616 := by omega
        replace hm := hid hm
        go_wp2_with fail
        refine wp_region_held_drew (S := fun w' => Below wx.heap.size wx w' ∧ w'.cell? ⟨gS, 0, none⟩ = some (.int .i64 0) ∧ w'.cell? ⟨gS, 1, none⟩ = some (.slice (some ⟨bS, oS, none⟩) mS kS)) (by kernel_rfl) ⟨(Below.refl _ _).drew, a0, a1⟩ (fun hH => ?_)
        refine wpAnyH_take (i := 0) (v := .pointer (some ⟨gS, 1, none⟩)) (by simp only [List.getElem?_toArray, List.getElem?_cons_zero]; rfl) (by kernel_rfl) (by kernel_rfl) (by kernel_rfl) (by intro _ _ _ h; exact h) (Or.inl ⟨by rfl, fun w hS => by go_simp⟩) hH ?_
        simp only [Act.put, List.setIfInBounds_toArray, List.set_cons_zero, List.set_cons_succ]
        refine wpAnyH_take (i := 1) (v := .slice (some ⟨bS, oS, none⟩) mS kS) (by simp only [List.getElem?_toArray, List.getElem?_cons_succ, List.getElem?_cons_zero]; rfl) (by kernel_rfl) (by kernel_rfl) (by kernel_rfl) (by intro _ _ _ h; exact h) (Or.inl ⟨by rfl, fun w hS => by (obtain ⟨-, -, h2⟩ := hS; go_simp)⟩) hH ?_
        simp only [Act.put, List.setIfInBounds_toArray, List.set_cons_zero, List.set_cons_succ]
        refine wpAnyH_take (i := 2) (v := .int .i64 (mS : Int)) (by simp only [List.getElem?_toArray, List.getElem?_cons_succ, List.getElem?_cons_zero]; rfl) (by kernel_rfl) (by kernel_rfl) (by kernel_rfl) (by intro _ _ _ h; exact h) (Or.inl ⟨by rfl, fun w hS => by go_simp⟩) hH ?_
        simp only [Act.put, List.setIfInBounds_toArray, List.set_cons_zero, List.set_cons_succ]
        refine wpAnyH_take (i := 3) (v := .slice (some ⟨gp, 0, none⟩) np kp) (by simp only [List.getElem?_toArray, List.getElem?_cons_succ, List.getElem?_cons_zero]; rfl) (by kernel_rfl) (by kernel_rfl) (by kernel_rfl) (by intro _ _ _ h; exact h) (Or.inl ⟨by rfl, fun w hS => by go_simp⟩) hH ?_
        simp only [Act.put, List.setIfInBounds_toArray, List.set_cons_zero, List.set_cons_succ]
        refine wpAnyH_take (i := 4) (v := .int .i64 (np : Int)) (by simp only [List.getElem?_toArray, List.getElem?_cons_succ, List.getElem?_cons_zero]; rfl) (by kernel_rfl) (by kernel_rfl) (by kernel_rfl) (by intro _ _ _ h; exact h) (Or.inl ⟨by rfl, fun w hS => by go_simp⟩) hH ?_
        simp only [Act.put, List.setIfInBounds_toArray, List.set_cons_zero, List.set_cons_succ]
        refine wpAnyH_take (i := 5) (v := .int .i64 (mS : Int)) (by simp only [List.getElem?_toArray, List.getElem?_cons_succ, List.getElem?_cons_zero]; rfl) (by kernel_rfl) (by kernel_rfl) (by kernel_rfl) (by intro _ _ _ h; exact h) (Or.inl ⟨by rfl, fun w hS => by go_simp⟩) hH ?_
        simp only [Act.put, List.setIfInBounds_toArray, List.set_cons_zero, List.set_cons_succ]
        refine wpAnyH_take (i := 6) (v := .bool false) (by simp only [List.getElem?_toArray, List.getElem?_cons_succ, List.getElem?_cons_zero]; rfl) (by kernel_rfl) (by kernel_rfl) (by kernel_rfl) (by intro _ _ _ h; exact h) (Or.inl ⟨by rfl, fun w hS => by go_simp⟩) hH ?_
        simp only [Act.put, List.setIfInBounds_toArray, List.set_cons_zero, List.set_cons_succ]
        refine wpAnyH_take (i := 7) (v := .bool false) (by simp only [List.getElem?_toArray, List.getElem?_cons_succ, List.getElem?_cons_zero]; rfl) (by kernel_rfl) (by kernel_rfl) (by kernel_rfl) (by intro _ _ _ h; exact h) (Or.inl ⟨by rfl, fun w hS => by go_simp⟩) hH ?_
        simp only [Act.put, List.setIfInBounds_toArray, List.set_cons_zero, List.set_cons_succ]
        refine wpAnyH_take (i := 8) (v := .pointer (some ⟨gS, 1, none⟩)) (by simp only [List.getElem?_toArray, List.getElem?_cons_succ, List.getElem?_cons_zero]; rfl) (by kernel_rfl) (by kernel_rfl) (by kernel_rfl) (by intro _ _ _ h; exact h) (Or.inl ⟨by rfl, fun w hS => by go_simp⟩) hH ?_
        simp only [Act.put, List.setIfInBounds_toArray, List.set_cons_zero, List.set_cons_succ]
        refine wpAnyH_take (i := 9) (v := .slice (some ⟨bS, oS, none⟩) mS kS) (by simp only [List.getElem?_toArray, List.getElem?_cons_succ, List.getElem?_cons_zero]; rfl) (by kernel_rfl) (by kernel_rfl) (by kernel_rfl) (by intro _ _ _ h; exact h) (Or.inl ⟨by rfl, fun w hS => by (obtain ⟨-, -, h2⟩ := hS; go_simp)⟩) hH ?_
        simp only [Act.put, List.setIfInBounds_toArray, List.set_cons_zero, List.set_cons_succ]
        refine wpAnyH_take (i := 10) (v := .slice (some ⟨gk, 0, none⟩) nk kk) (by simp only [List.getElem?_toArray, List.getElem?_cons_succ, List.getElem?_cons_zero]; rfl) (by kernel_rfl) (by kernel_rfl) (by kernel_rfl) (by intro _ _ _ h; exact h) (Or.inl ⟨by rfl, fun w hS => by go_simp⟩) hH ?_
        simp only [Act.put, List.setIfInBounds_toArray, List.set_cons_zero, List.set_cons_succ]
        refine wpAnyH_take (i := 11) (v := .slice (some ⟨gn, 0, none⟩) nn kn) (by simp only [List.getElem?_toArray, List.getElem?_cons_succ, List.getElem?_cons_zero]; rfl) (by kernel_rfl) (by kernel_rfl) (by kernel_rfl) (by intro _ _ _ h; exact h) (Or.inl ⟨by rfl, fun w hS => by go_simp⟩) hH ?_
        simp only [Act.put, List.setIfInBounds_toArray, List.set_cons_zero, List.set_cons_succ]
        refine wpAnyH_take (i := 12) (v := .slice (some ⟨ge, 0, none⟩) ne ke) (by simp only [List.getElem?_toArray, List.getElem?_cons_succ, List.getElem?_cons_zero]; rfl) (by kernel_rfl) (by kernel_rfl) (by kernel_rfl) (by intro _ _ _ h; exact h) (Or.inl ⟨by rfl, fun w hS => by go_simp⟩) hH ?_
        simp only [Act.put, List.setIfInBounds_toArray, List.set_cons_zero, List.set_cons_succ]
        refine wpAnyH_take (i := 13) (v := .slice (some ⟨gp, 0, none⟩) np kp) (by simp only [List.getElem?_toArray, List.getElem?_cons_succ, List.getElem?_cons_zero]; rfl) (by kernel_rfl) (by kernel_rfl) (by kernel_rfl) (by intro _ _ _ h; exact h) (Or.inl ⟨by rfl, fun w hS => by go_simp⟩) hH ?_
        simp only [Act.put, List.setIfInBounds_toArray, List.set_cons_zero, List.set_cons_succ]
        refine wpAnyH_ready (rs := [14]) (by kernel_rfl) (by simp) ?_
        refine AllReadyH.cons (by simp only [List.getElem?_toArray, List.getElem?_cons_succ, List.getElem?_cons_zero]; rfl) (fun K hK => ?_) AllReadyH.nil
        go_simp
        refine (C1.out _ hH.1).mono ?_
        rintro e x14 ⟨pq, cq, rfl, hq, hM⟩
        refine hK.out _ _ (keepE hH hM) (fun hH => ?_)
        clear hK K
        clear hM
        refine wpAnyH_take (i := 15) (v := .slice pq mS cq) (by simp only [List.getElem?_toArray, List.getElem?_cons_succ, List.getElem?_cons_zero]; rfl) (by kernel_rfl) (by kernel_rfl) (by kernel_rfl) (by intro _ _ _ h; exact h) (Or.inl ⟨by rfl, fun w hS => by go_simp⟩) hH ?_
        simp only [Act.put, List.setIfInBounds_toArray, List.set_cons_zero, List.set_cons_succ]
        refine wpAnyH_ready (rs := [16]) (by kernel_rfl) (by simp) ?_
        refine AllReadyH.cons (by simp only [List.getElem?_toArray, List.getElem?_cons_succ, List.getElem?_cons_zero]; rfl) (fun K hK => ?_) AllReadyH.nil
        go_simp
        refine (C3.out _ _ _ _ (RS.out.below hH.1) hq).mono ?_
        rintro e x16 ⟨rfl, hM⟩
        refine hK.out _ _ (keepE hH hM) (fun hH => ?_)
        clear hK K
        clear hM
        refine wpAnyH_take (i := 17) (v := .bool false) (by simp only [List.getElem?_toArray, List.getElem?_cons_succ, List.getElem?_cons_zero]; rfl) (by kernel_rfl) (by kernel_rfl) (by kernel_rfl) (by intro _ _ _ h; exact h) (Or.inl ⟨by rfl, fun w hS => by go_simp⟩) hH ?_
        simp only [Act.put, List.setIfInBounds_toArray, List.set_cons_zero, List.set_cons_succ]
        refine wpAnyH_take (i := 18) (v := .bool false) (by simp only [List.getElem?_toArray, List.getElem?_cons_succ, List.getElem?_cons_zero]; rfl) (by kernel_rfl) (by kernel_rfl) (by kernel_rfl) (by intro _ _ _ h; exact h) (Or.inl ⟨by rfl, fun w hS => by go_simp⟩) hH ?_
        simp only [Act.put, List.setIfInBounds_toArray, List.set_cons_zero, List.set_cons_succ]
        refine wpAnyH_done (by kernel_rfl) ?_ _
        have hS := hH.1
        clear hq
        generalize x16 = wy at *
        replace RC := hid (RC.out.below hS)
        replace RK := hid (RK.out.below hS)
        replace RN := hid (RN.out.below hS)
        replace RE := hid (RE.out.below hS)
        replace RP := hid (RP.out.below hS)
        replace RS := hid (RS.out.below hS)
        replace VS := hid (var_below hS VS.out)
        replace HB := hid (HB.out.trans (hS.mono HB.out.size))
        clear hS C1 C3 hH a0 a1 tl tw
        obtain ⟨a0, a1, -, -⟩ := var2_facts VS.out
        obtain ⟨i0, hi, hz0, hz1, hz2⟩ := info_parts info8
        have a1' := cell_alloc a1 (.cells #[] 5)
        have hO0 := own_lit0 wy
        go_wp2_with (at_builtin; refine wpList_append_own _ rfl _ _ _ rfl wy.heap.size 5 i0 (.int .u8 0) 1 1 Try.underlying22 hi hz0 hz1 hz2 rfl (by omega) _ _ _ rfl hO0 ⟨bS, oS, none⟩ mS kS (BS.map bv) rfl (by simp [HMS.out]) ?_ ?_ ?_ ?_ ?_ ?_)
        · intro j u hj
          have hj' : j < BS.length := by
            rcases Nat.lt_or_ge j BS.length with q | q
            · exact q
            · rw [List.getElem?_eq_none (by simpa using q)] at hj; cases hj
          have q := RS.out.cells j hj'
          rw [gt_eq BS j hj'] at q
          rw [List.getElem?_map, List.getElem?_eq_getElem hj'] at hj
          cases hj
          rw [Addr.add_lit]
          exact cell_alloc q _
        · intro u hu
          obtain ⟨x, _, rfl⟩ := List.mem_map.1 hu
          rfl
        · unfold maxLen; simp <;> omega
        · simp <;> omega
        · simp
        intro v' w7 hown1 hgrow1 _
        have hO1 : Own w7 wy.heap.size v' BS := by
          unfold Own
          rw [← HMS.out]
          simpa using hown1
        have FW := hid ((below_alloc1 wy _).grown hgrow1 (by simp) (fun x e => by simp [Value.ownBlock] at e; omega) : Below wy.heap.size wy w7)
        obtain ⟨go, co, rfl, hgo, -⟩ := own_slot' hO1 HMS.out.symm (by have := hm.out; omega)
        have FO := hid hO1
        clear hown1 hgrow1 hO0 hO1 a0 a1 a1' hi hz0 hz1 hz2
        go_wp2_with fail
        have YS := hid (show Byt BS by rw [ES.out]; exact sld_byt _ (kf_lt k yk) _ _ _ yn yp)
        refine wp_region_held_drew (S := fun _ => True) (by kernel_rfl) trivial (fun hH => ?_)
        replace FO := hid (FO.out.below (Below.refl _ _).drew)
        replace FW := hid FW.out.drew
        generalize w7.drew = x1 at *
        have hm16 : 16 ≤ mS := by have := hm.out; omega
        have W3 : IntKind.i64.wrap ((mS : Int) - 1) = (mS : Int) - 1 := by rw [IntKind.wrap_i64]; omega
        refine wpAnyH_take (i := 0) (v := .slice (some ⟨go, 0, none⟩) mS co) (by simp only [List.getElem?_toArray, List.getElem?_cons_zero]; rfl) (by kernel_rfl) (by kernel_rfl) (by kernel_rfl) (by intro _ _ _ h; exact h) (Or.inl ⟨by rfl, fun w _ => by go_simp⟩) hH ?_
        try simp only [Act.put, List.setIfInBounds_toArray, List.set_cons_zero, List.set_cons_succ]
        refine wpAnyH_take (i := 1) (v := .slice (some ⟨go, 0, none⟩) mS co) (by simp only [List.getElem?_toArray, List.getElem?_cons_succ, List.getElem?_cons_zero]; rfl) (by kernel_rfl) (by kernel_rfl) (by kernel_rfl) (by intro _ _ _ h; exact h) (Or.inl ⟨by rfl, fun w _ => by go_simp⟩) hH ?_
        try simp only [Act.put, List.setIfInBounds_toArray, List.set_cons_zero, List.set_cons_succ]
        refine wpAnyH_take (i := 2) (v := .int .i64 (mS : Int)) (by simp only [List.getElem?_toArray, List.getElem?_cons_succ, List.getElem?_cons_zero]; rfl) (by kernel_rfl) (by kernel_rfl) (by kernel_rfl) (by intro _ _ _ h; exact h) (Or.inl ⟨by rfl, fun w _ => by go_simp⟩) hH ?_
        try simp only [Act.put, List.setIfInBounds_toArray, List.set_cons_zero, List.set_cons_succ]
        refine wpAnyH_take (i := 3) (v := .int .i64 ((mS : Int) - 1)) (by simp only [List.getElem?_toArray, List.getElem?_cons_succ, List.getElem?_cons_zero]; rfl) (by kernel_rfl) (by kernel_rfl) (by kernel_rfl) (by intro _ _ _ h; exact h) (Or.inl ⟨by rfl, fun w _ => by go_simp⟩) hH ?_
        try simp only [Act.put, List.setIfInBounds_toArray, List.set_cons_zero, List.set_cons_succ]
        refine wpAnyH_take (i := 4) (v := .slice q l.length cap) (by simp only [List.getElem?_toArray, List.getElem?_cons_succ, List.getElem?_cons_zero]; rfl) (by kernel_rfl) (by kernel_rfl) (by kernel_rfl) (by intro _ _ _ h; exact h) (Or.inl ⟨by rfl, fun w _ => by go_simp⟩) hH ?_
        try simp only [Act.put, List.setIfInBounds_toArray, List.set_cons_zero, List.set_cons_succ]
        refine wpAnyH_take (i := 9) (v := .slice q l.length cap) (by simp only [List.getElem?_toArray, List.getElem?_cons_succ, List.getElem?_cons_zero]; rfl) (by kernel_rfl) (by kernel_rfl) (by kernel_rfl) (by intro _ _ _ h; exact h) (Or.inl ⟨by rfl, fun w _ => by go_simp⟩) hH ?_
        try simp only [Act.put, List.setIfInBounds_toArray, List.set_cons_zero, List.set_cons_succ]
        refine wpAnyH_ready (rs := [5]) (by kernel_rfl) (by simp) ?_
        refine AllReadyH.cons (by simp only [List.getElem?_toArray, List.getElem?_cons_succ, List.getElem?_cons_zero]; rfl) (fun K hK => ?_) AllReadyH.nil
        go_simp
        refine (at2 _ l _ (RC.out.below FW.out) y hl).mono ?_
        rintro e x2 ⟨j, rfl, hj, hM⟩
        refine hK.out _ _ trivial (fun hH => ?_)
        clear hK K
        try simp only [Act.put, List.setIfInBounds_toArray, List.set_cons_zero, List.set_cons_succ]
        replace FO := hid (FO.out.below hM)
        replace FW := hid (FW.out.trans (hM.mono FW.out.size))
        clear hM
        obtain ⟨i, ei⟩ : ∃ i : Nat, i = mS - 1 - j := ⟨_, rfl⟩
        have hi : i < mS := by omega
        have hi2 : mS ≤ i + 16 := by omega
        have W4 : IntKind.i64.wrap (i : Int) = (i : Int) := by rw [IntKind.wrap_i64]; omega
        have W5 : (mS : Int) - 1 - (j : Int) = (i : Int) := by omega
        clear ei
        refine wpAnyH_take (i := 6) (v := .int .i64 (i : Int)) (by simp only [List.getElem?_toArray, List.getElem?_cons_succ, List.getElem?_cons_zero]; rfl) (by kernel_rfl) (by kernel_rfl) (by kernel_rfl) (by intro _ _ _ h; exact h) (Or.inl ⟨by rfl, fun w _ => by go_simp⟩) hH ?_
        try simp only [Act.put, List.setIfInBounds_toArray, List.set_cons_zero, List.set_cons_succ]
        clear W5
        have I1 := idx_b0 go mS co i hi
        obtain ⟨z, hz⟩ : ∃ z, z = gt BS i := ⟨_, rfl⟩
        have z1 : z < 256 := by rw [hz]; exact gt_byt BS YS.out i
        have Hz := hid hz
        clear hz
        have j0 : (0 : Int) ≤ (i : Int) := by omega
        have j1 : (i : Int) < (mS : Int) := by omega
        refine wpAnyH_take (i := 7) (v := .pointer (some ⟨go, i, none⟩)) (by simp only [List.getElem?_toArray, List.getElem?_cons_succ, List.getElem?_cons_zero]; rfl) (by kernel_rfl) (by kernel_rfl) (by kernel_rfl) (by intro _ _ _ h; exact h) (Or.inl ⟨by rfl, fun w _ => by go_simp⟩) hH ?_
        try simp only [Act.put, List.setIfInBounds_toArray, List.set_cons_zero, List.set_cons_succ]
        refine wpAnyH_ready (rs := [8, 10]) (by kernel_rfl) (by simp) ?_
        refine AllReadyH.cons (by simp only [List.getElem?_toArray, List.getElem?_cons_succ, List.getElem?_cons_zero]; rfl) (fun K hK => ?_) ?_
        · skip
          have c1 := own_o FO.out HMS.out.symm i hi
          rw [← Hz.out] at c1
          go_simp
          refine hK.out _ _ trivial (fun hH => ?_)
          clear hK K
          try simp only [Act.put, List.setIfInBounds_toArray, List.set_cons_zero, List.set_cons_succ]
          clear c1
          refine wpAnyH_ready (rs := [10]) (by kernel_rfl) (by simp) ?_
          refine AllReadyH.cons (by simp only [List.getElem?_toArray, List.getElem?_cons_succ, List.getElem?_cons_zero]; rfl) (fun K hK => ?_) AllReadyH.nil
          go_simp
          refine (at3 _ l _ (RC.out.below FW.out) y hl).mono ?_
          rintro e x3 ⟨t, rfl, ht, hM⟩
          refine hK.out _ _ trivial (fun hH => ?_)
          clear hK K
          try simp only [Act.put, List.setIfInBounds_toArray, List.set_cons_zero, List.set_cons_succ]
          replace FO := hid (FO.out.below hM)
          replace FW := hid (FW.out.trans (hM.mono FW.out.size))
          clear hM
          have E := xor8' z (1 + t) z1 (by omega)
          rw [show ((1 + t : Nat) : Int) = 1 + (t : Int) from rfl] at E
          have t0 : (0 : Int) ≤ (t : Int) := by omega
          have W1 := wrap_1 t ht
          have W2 := wrap_2 t ht
          refine wpAnyH_take (i := 11) (v := .int .i64 (1 + (t : Int))) (by simp only [List.getElem?_toArray, List.getElem?_cons_succ, List.getElem?_cons_zero]; rfl) (by kernel_rfl) (by kernel_rfl) (by kernel_rfl) (by intro _ _ _ h; exact h) (Or.inl ⟨by rfl, fun w _ => by go_simp⟩) hH ?_
          try simp only [Act.put, List.setIfInBounds_toArray, List.set_cons_zero, List.set_cons_succ]
          refine wpAnyH_take (i := 12) (v := .int .u8 (1 + (t : Int))) (by simp only [List.getElem?_toArray, List.getElem?_cons_succ, List.getElem?_cons_zero]; rfl) (by kernel_rfl) (by kernel_rfl) (by kernel_rfl) (by intro _ _ _ h; exact h) (Or.inl ⟨by rfl, fun w _ => by go_simp⟩) hH ?_
          try simp only [Act.put, List.setIfInBounds_toArray, List.set_cons_zero, List.set_cons_succ]
          refine wpAnyH_take (i := 13) (v := .int .u8 ((z ^^^ (1 + t) : Nat) : Int)) (by simp only [List.getElem?_toArray, List.getElem?_cons_succ, List.getElem?_cons_zero]; rfl) (by kernel_rfl) (by kernel_rfl) (by kernel_rfl) (by intro _ _ _ h; exact h) (Or.inl ⟨by rfl, fun w _ => by go_simp⟩) hH ?_
          try simp only [Act.put, List.setIfInBounds_toArray, List.set_cons_zero, List.set_cons_succ]
          refine wpAnyH_take (i := 14) (v := .pointer (some ⟨go, i, none⟩)) (by simp only [List.getElem?_toArray, List.getElem?_cons_succ, List.getElem?_cons_zero]; rfl) (by kernel_rfl) (by kernel_rfl) (by kernel_rfl) (by intro _ _ _ h; exact h) (Or.inl ⟨by rfl, fun w _ => by go_simp⟩) hH ?_
          try simp only [Act.put, List.setIfInBounds_toArray, List.set_cons_zero, List.set_cons_succ]
          refine wpAnyH_ready (rs := [15]) (by kernel_rfl) (by simp) ?_
          refine AllReadyH.cons (by simp only [List.getElem?_toArray, List.getElem?_cons_succ, List.getElem?_cons_zero]; rfl) (fun K hK => ?_) AllReadyH.nil
          have c1 := own_o FO.out HMS.out.symm i hi
          have c2 := FO.out.open HMS.out.symm i
          have ST := hid (FO.out.stored HMS.out.symm i (z ^^^ (1 + t))).1
          have SW := hid (FW.out.setCell (p := ⟨go, i, none⟩) hgo (.int .u8 ((z ^^^ (1 + t) : Nat) : Int)))
          unfold bv at ST
          go_simp
          refine hK.out _ _ trivial (fun hH => ?_)
          clear hK K
          try simp only [Act.put, List.setIfInBounds_toArray, List.set_cons_zero, List.set_cons_succ]
          clear c1 c2 FO FW E W1 W2 W3 W4 I1
          generalize x3.setCell ⟨go, i, none⟩ (.int .u8 ((z ^^^ (1 + t) : Nat) : Int)) = x9 at *
          refine wpAnyH_done (by kernel_rfl) ?_ _
          have RB := hid ST.out.rd
          have LB := hid (show (BS.set i (z ^^^ (1 + t))).length = mS by rw [List.length_set]; exact HMS.out.symm)
          have YB := hid (set_byt' BS YS.out i (z ^^^ (1 + t)) (xor_lt _ _ z1 (by omega)))
          have NB := hid (bad_no (kf k) n x BS i (z ^^^ (1 + t)) (by rw [ES.out]; exact sld_opens _ _ _ _ (slOk_parts hs.out).1.2.1) (by rw [← HMS.out]; exact hi) (by rw [← HMS.out]; omega) (set_ne BS i _ (by rw [← HMS.out]; exact hi) (by rw [← Hz.out]; exact xor_ne z (1 + t) (by omega))))
          clear ST z1 Hz
          generalize BS.set i (z ^^^ (1 + t)) = bad at *
          have K1 := hid (fun (wq : World) (hb : Below x9.heap.size x9 wq) => (iop _ _ _ _ k n x BS wq (RK.out.below (SW.out.trans (hb.mono SW.out.size))) (RN.out.below (SW.out.trans (hb.mono SW.out.size))) (RE.out.below (SW.out.trans (hb.mono SW.out.size))) (RS.out.below (SW.out.trans (hb.mono SW.out.size))) yk yn yx YS.out).mono (R' := fun e w' => ∃ (p' : Option Addr) (cc : Nat), e = .returned (.agg #[.int .i64 0, .slice p' np cc]) ∧ Rd w' (.slice p' np cc) p ∧ Below wq.heap.size wq w') (fun e w' ⟨r, he, ho, hb⟩ => by
            have q := ho.rd
            have pp := slOk_parts hs.out
            have oo : opOk k n x BS = true := by
              unfold opOk askd
              rw [← HMS.out]
              simp only [Bool.and_eq_true, decide_eq_true_eq]
              omega
            have op : opens (kf k) n x BS := by rw [ES.out]; exact sld_opens _ _ _ _ pp.1.2.1
            rw [opC, if_pos oo, if_pos op] at he
            rw [opB, if_pos oo, if_pos op, ES.out, sld_plain _ _ _ _ pp.1.2.1] at q
            obtain ⟨p', cc, rfl, -, -, -⟩ := q.parts
            rw [← Hnp.out] at he q
            exact ⟨p', cc, he, q, hb⟩))
          have K2 := hid (fun (wq : World) (hb : Below x9.heap.size x9 wq) => (iop _ _ _ _ k n x bad wq (RK.out.below (SW.out.trans (hb.mono SW.out.size))) (RN.out.below (SW.out.trans (hb.mono SW.out.size))) (RE.out.below (SW.out.trans (hb.mono SW.out.size))) (RB.out.below hb) yk yn yx YB.out).mono (R' := fun e w' => ∃ (p' : Option Addr) (cc : Nat), e = .returned (.agg #[.int .i64 9, .slice p' 0 cc]) ∧ Below wq.heap.size wq w') (fun e w' ⟨r, he, ho, hb⟩ => by
            have q := ho.rd
            have pp := slOk_parts hs.out
            have oo : opOk k n x bad = true := by
              unfold opOk askd
              rw [LB.out]
              simp only [Bool.and_eq_true, decide_eq_true_eq]
              omega
            rw [opC, if_pos oo, if_neg NB.out] at he
            rw [opB, if_pos oo, if_neg NB.out] at q
            obtain ⟨p', cc, rfl, -, -, -⟩ := q.parts
            exact ⟨p', cc, he, hb⟩))
          have C3 := hid (fun (wq : World) (va : Value) (ha : Rd wq va p) (hb : Below x9.heap.size x9 wq) => (lwsame va _ p p wq ha (RP.out.below (SW.out.trans (hb.mono SW.out.size)))).mono (R' := fun e w' => e = .returned (.bool true) ∧ Below wq.heap.size wq w') (fun e w' ⟨he, hw⟩ => by
            rw [sam_self] at he
            exact ⟨he, by rw [hw]; exact Below.refl _ _⟩))
          have HB9 := hid (HB.out.trans (SW.out.mono HB.out.size))
          obtain ⟨b0, b1, -, -⟩ := var2_facts (var_below SW.out VS.out)
          clear hH NB
          go_wp2_with fail
          refine (K1.out _ (Below.refl _ _)).mono ?_
          rintro e y1 ⟨p1, c1, rfl, hq1, hM⟩
          have B1 := hid hM
          replace b1 := cell_kept hM b1
          clear hM b0
          go_wp2_with fail
          refine (C3.out _ _ hq1 B1.out).mono ?_
          rintro e y2 ⟨rfl, hM⟩
          replace B1 := hid (B1.out.trans (hM.mono B1.out.size))
          replace b1 := cell_kept hM b1
          clear hM hq1
          go_wp2_with fail
          refine (K1.out _ B1.out).mono ?_
          rintro e y3 ⟨p2, c2, rfl, -, hM⟩
          replace B1 := hid (B1.out.trans (hM.mono B1.out.size))
          replace b1 := cell_kept hM b1
          clear hM
          go_wp2_with fail
          refine (K2.out _ B1.out).mono ?_
          rintro e y4 ⟨p3, c3, rfl, hM⟩
          replace B1 := hid (B1.out.trans (hM.mono B1.out.size))
          have HF := hid (HB9.out.trans (B1.out.mono HB9.out.size))
          clear hM B1 b1
          go_wp2
          go_ret
          exact ⟨rfl, HF.out⟩
        refine AllReadyH.cons (by simp only [List.getElem?_toArray, List.getElem?_cons_succ, List.getElem?_cons_zero]; rfl) (fun K hK => ?_) AllReadyH.nil
        go_simp
        refine (at3 _ l _ (RC.out.below FW.out) y hl).mono ?_
        rintro e x3 ⟨t, rfl, ht, hM⟩
        refine hK.out _ _ trivial (fun hH => ?_)
        clear hK K
        try simp only [Act.put, List.setIfInBounds_toArray, List.set_cons_zero, List.set_cons_succ]
        replace FO := hid (FO.out.below hM)
        replace FW := hid (FW.out.trans (hM.mono FW.out.size))
        clear hM
        have E := xor8' z (1 + t) z1 (by omega)
        rw [show ((1 + t : Nat) : Int) = 1 + (t : Int) from rfl] at E
        have t0 : (0 : Int) ≤ (t : Int) := by omega
        have W1 := wrap_1 t ht
        have W2 := wrap_2 t ht
        refine wpAnyH_take (i := 11) (v := .int .i64 (1 + (t : Int))) (by simp only [List.getElem?_toArray, List.getElem?_cons_succ, List.getElem?_cons_zero]; rfl) (by kernel_rfl) (by kernel_rfl) (by kernel_rfl) (by intro _ _ _ h; exact h) (Or.inl ⟨by rfl, fun w _ => by go_simp⟩) hH ?_
        try simp only [Act.put, List.setIfInBounds_toArray, List.set_cons_zero, List.set_cons_succ]
        refine wpAnyH_take (i := 12) (v := .int .u8 (1 + (t : Int))) (by simp only [List.getElem?_toArray, List.getElem?_cons_succ, List.getElem?_cons_zero]; rfl) (by kernel_rfl) (by kernel_rfl) (by kernel_rfl) (by intro _ _ _ h; exact h) (Or.inl ⟨by rfl, fun w _ => by go_simp⟩) hH ?_
        try simp only [Act.put, List.setIfInBounds_toArray, List.set_cons_zero, List.set_cons_succ]
        refine wpAnyH_ready (rs := [8]) (by kernel_rfl) (by simp) ?_
        refine AllReadyH.cons (by simp only [List.getElem?_toArray, List.getElem?_cons_succ, List.getElem?_cons_zero]; rfl) (fun K hK => ?_) AllReadyH.nil
        have c1 := own_o FO.out HMS.out.symm i hi
        rw [← Hz.out] at c1
        go_simp
        refine hK.out _ _ trivial (fun hH => ?_)
        clear hK K
        try simp only [Act.put, List.setIfInBounds_toArray, List.set_cons_zero, List.set_cons_succ]
        clear c1
        refine wpAnyH_take (i := 13) (v := .int .u8 ((z ^^^ (1 + t) : Nat) : Int)) (by simp only [List.getElem?_toArray, List.getElem?_cons_succ, List.getElem?_cons_zero]; rfl) (by kernel_rfl) (by kernel_rfl) (by kernel_rfl) (by intro _ _ _ h; exact h) (Or.inl ⟨by rfl, fun w _ => by go_simp⟩) hH ?_
        try simp only [Act.put, List.setIfInBounds_toArray, List.set_cons_zero, List.set_cons_succ]
        refine wpAnyH_take (i := 14) (v := .pointer (some ⟨go, i, none⟩)) (by simp only [List.getElem?_toArray, List.getElem?_cons_succ, List.getElem?_cons_zero]; rfl) (by kernel_rfl) (by kernel_rfl) (by kernel_rfl) (by intro _ _ _ h; exact h) (Or.inl ⟨by rfl, fun w _ => by go_simp⟩) hH ?_
        try simp only [Act.put, List.setIfInBounds_toArray, List.set_cons_zero, List.set_cons_succ]
        refine wpAnyH_ready (rs := [15]) (by kernel_rfl) (by simp) ?_
        refine AllReadyH.cons (by simp only [List.getElem?_toArray, List.getElem?_cons_succ, List.getElem?_cons_zero]; rfl) (fun K hK => ?_) AllReadyH.nil
        have c1 := own_o FO.out HMS.out.symm i hi
        have c2 := FO.out.open HMS.out.symm i
        have ST := hid (FO.out.stored HMS.out.symm i (z ^^^ (1 + t))).1
        have SW := hid (FW.out.setCell (p := ⟨go, i, none⟩) hgo (.int .u8 ((z ^^^ (1 + t) : Nat) : Int)))
        unfold bv at ST
        go_simp
        refine hK.out _ _ trivial (fun hH => ?_)
        clear hK K
        try simp only [Act.put, List.setIfInBounds_toArray, List.set_cons_zero, List.set_cons_succ]
        clear c1 c2 FO FW E W1 W2 W3 W4 I1
        generalize x3.setCell ⟨go, i, none⟩ (.int .u8 ((z ^^^ (1 + t) : Nat) : Int)) = x9 at *
        refine wpAnyH_done (by kernel_rfl) ?_ _
        have RB := hid ST.out.rd
        have LB := hid (show (BS.set i (z ^^^ (1 + t))).length = mS by rw [List.length_set]; exact HMS.out.symm)
        have YB := hid (set_byt' BS YS.out i (z ^^^ (1 + t)) (xor_lt _ _ z1 (by omega)))
        have NB := hid (bad_no (kf k) n x BS i (z ^^^ (1 + t)) (by rw [ES.out]; exact sld_opens _ _ _ _ (slOk_parts hs.out).1.2.1) (by rw [← HMS.out]; exact hi) (by rw [← HMS.out]; omega) (set_ne BS i _ (by rw [← HMS.out]; exact hi) (by rw [← Hz.out]; exact xor_ne z (1 + t) (by omega))))
        clear ST z1 Hz
        generalize BS.set i (z ^^^ (1 + t)) = bad at *
        have K1 := hid (fun (wq : World) (hb : Below x9.heap.size x9 wq) => (iop _ _ _ _ k n x BS wq (RK.out.below (SW.out.trans (hb.mono SW.out.size))) (RN.out.below (SW.out.trans (hb.mono SW.out.size))) (RE.out.below (SW.out.trans (hb.mono SW.out.size))) (RS.out.below (SW.out.trans (hb.mono SW.out.size))) yk yn yx YS.out).mono (R' := fun e w' => ∃ (p' : Option Addr) (cc : Nat), e = .returned (.agg #[.int .i64 0, .slice p' np cc]) ∧ Rd w' (.slice p' np cc) p ∧ Below wq.heap.size wq w') (fun e w' ⟨r, he, ho, hb⟩ => by
          have q := ho.rd
          have pp := slOk_parts hs.out
          have oo : opOk k n x BS = true := by
            unfold opOk askd
            rw [← HMS.out]
            simp only [Bool.and_eq_true, decide_eq_true_eq]
            omega
          have op : opens (kf k) n x BS := by rw [ES.out]; exact sld_opens _ _ _ _ pp.1.2.1
          rw [opC, if_pos oo, if_pos op] at he
          rw [opB, if_pos oo, if_pos op, ES.out, sld_plain _ _ _ _ pp.1.2.1] at q
          obtain ⟨p', cc, rfl, -, -, -⟩ := q.parts
          rw [← Hnp.out] at he q
          exact ⟨p', cc, he, q, hb⟩))
        have K2 := hid (fun (wq : World) (hb : Below x9.heap.size x9 wq) => (iop _ _ _ _ k n x bad wq (RK.out.below (SW.out.trans (hb.mono SW.out.size))) (RN.out.below (SW.out.trans (hb.mono SW.out.size))) (RE.out.below (SW.out.trans (hb.mono SW.out.size))) (RB.out.below hb) yk yn yx YB.out).mono (R' := fun e w' => ∃ (p' : Option Addr) (cc : Nat), e = .returned (.agg #[.int .i64 9, .slice p' 0 cc]) ∧ Below wq.heap.size wq w') (fun e w' ⟨r, he, ho, hb⟩ => by
          have q := ho.rd
          have pp := slOk_parts hs.out
          have oo : opOk k n x bad = true := by
            unfold opOk askd
            rw [LB.out]
            simp only [Bool.and_eq_true, decide_eq_true_eq]
            omega
          rw [opC, if_pos oo, if_neg NB.out] at he
          rw [opB, if_pos oo, if_neg NB.out] at q
          obtain ⟨p', cc, rfl, -, -, -⟩ := q.parts
          exact ⟨p', cc, he, hb⟩))
        have C3 := hid (fun (wq : World) (va : Value) (ha : Rd wq va p) (hb : Below x9.heap.size x9 wq) => (lwsame va _ p p wq ha (RP.out.below (SW.out.trans (hb.mono SW.out.size)))).mono (R' := fun e w' => e = .returned (.bool true) ∧ Below wq.heap.size wq w') (fun e w' ⟨he, hw⟩ => by
          rw [sam_self] at he
          exact ⟨he, by rw [hw]; exact Below.refl _ _⟩))
        have HB9 := hid (HB.out.trans (SW.out.mono HB.out.size))
        obtain ⟨b0, b1, -, -⟩ := var2_facts (var_below SW.out VS.out)
        clear hH NB
        go_wp2_with fail
        refine (K1.out _ (Below.refl _ _)).mono ?_
        rintro e y1 ⟨p1, c1, rfl, hq1, hM⟩
        have B1 := hid hM
        replace b1 := cell_kept hM b1
        clear hM b0
        go_wp2_with fail
        refine (C3.out _ _ hq1 B1.out).mono ?_
        rintro e y2 ⟨rfl, hM⟩
        replace B1 := hid (B1.out.trans (hM.mono B1.out.size))
        replace b1 := cell_kept hM b1
        clear hM hq1
        go_wp2_with fail
        refine (K1.out _ B1.out).mono ?_
        rintro e y3 ⟨p2, c2, rfl, -, hM⟩
        replace B1 := hid (B1.out.trans (hM.mono B1.out.size))
        replace b1 := cell_kept hM b1
        clear hM
        go_wp2_with fail
        refine (K2.out _ B1.out).mono ?_
        rintro e y4 ⟨p3, c3, rfl, hM⟩
        replace B1 := hid (B1.out.trans (hM.mono B1.out.size))
        have HF := hid (HB9.out.trans (B1.out.mono HB9.out.size))
        clear hM B1 b1
        go_wp2
        go_ret
        exact ⟨rfl, HF.out⟩
      · have hc0 : cS ≠ 0 := by rw [HCS.out, slC, if_neg hs]; omega
        have ts : (cS != 0) = true := by rw [bne_iff_ne]; exact hc0
        obtain ⟨a0, a1, -, -⟩ := var2_facts VS.out
        clear hc0 HCS HBS HMS hs
        go_wp2
        go_ret
        exact ⟨rfl, HB.out⟩
  · go_enter Try.func4, Try.ntmps4
    go_wp2_with (go_at_call 8; go_in)
    go_ret
    exact ⟨rfl, Below.refl _ _⟩
end Go.Proofs.Ytckgjghpfjinfab.W
