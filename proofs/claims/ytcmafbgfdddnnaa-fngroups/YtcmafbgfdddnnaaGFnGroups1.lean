/-
  The law of the group, out of the contracts of its callees.
-/
import Derived.Test.YtcmafbgfdddnnaaGrpL
import Derived.Test.YtcmafbgfdddnnaaDrawG
import Derived.Test.YtcmafbgfdddnnaaAtWalks
import Derived.Test.YtcmafbgfdddnnaaLwWalks
import Derived.Test.YtcmafbgfdddnnaaLxWalks
import Derived.Test.YtcmafbgfdddnnaaIgtWalks
import Derived.Test.YtcmafbgfdddnnaaSgtWalks
import Derived.Test.YtcmafbgfdddnnaaIhaWalks
import Derived.Test.YtcmafbgfdddnnaaShaWalks
import Derived.Lib.Bytes
import Derived.StillTailTactics

namespace Go.Proofs.Ytcmafbgfdddnnaa.W
open Go.ChangeShapes Go.WideShapes Go.ChangeAt Go.RowKit
open Go.Proofs.Ytcmafbgfdddnnaa.M

theorem keepG {W a b : World} {p q : Nat} {x1 x2 z1 z2 : Value}
    (h : Below W.heap.size W a ∧ a.cell? ⟨p, 0, none⟩ = some x1 ∧ a.cell? ⟨p, 1, none⟩ = some x2 ∧ a.cell? ⟨q, 0, none⟩ = some z1 ∧ a.cell? ⟨q, 1, none⟩ = some z2) (hB : Below a.heap.size a b) :
    Below W.heap.size W b ∧ b.cell? ⟨p, 0, none⟩ = some x1 ∧ b.cell? ⟨p, 1, none⟩ = some x2 ∧ b.cell? ⟨q, 0, none⟩ = some z1 ∧ b.cell? ⟨q, 1, none⟩ = some z2 :=
  ⟨h.1.trans (hB.mono h.1.size), cell_kept hB h.2.1, cell_kept hB h.2.2.1, cell_kept hB h.2.2.2.1, cell_kept hB h.2.2.2.2⟩
theorem keepE {W a b : World} {p : Nat} {x1 x2 : Value}
    (h : Below W.heap.size W a ∧ a.cell? ⟨p, 0, none⟩ = some x1 ∧ a.cell? ⟨p, 1, none⟩ = some x2) (hB : Below a.heap.size a b) :
    Below W.heap.size W b ∧ b.cell? ⟨p, 0, none⟩ = some x1 ∧ b.cell? ⟨p, 1, none⟩ = some x2 :=
  ⟨h.1.trans (hB.mono h.1.size), cell_kept hB h.2.1, cell_kept hB h.2.2⟩
theorem sam_self (l : List Nat) : sameS l l = true := by simp [sameS]
theorem xlB (a b : List Nat) (ha : Byt a) (hb : Byt b) : Byt (xl a b) := by
  intro x hx
  obtain ⟨i, _, rfl⟩ := List.mem_map.1 hx
  exact xor_lt _ _ (gt_byt a ha i) (gt_byt b hb i)
theorem own_at {w : World} {base n : Nat} {v : Value} {l : List Nat} (h : Own w base v l) (hn : l.length = n) (h0 : 0 < n) : ∃ g cap, v = .slice (some ⟨g, 0, none⟩) n cap ∧ base ≤ g ∧ n ≤ cap := by
  unfold Own at h
  rw [hn] at h
  rcases h.2 with ⟨-, e⟩ | ⟨g, cap, cur, e, hb, -, hc, -⟩
  · omega
  · exact ⟨g, cap, e, hb, hc⟩
theorem own_gt {w : World} {base g cap n : Nat} {l : List Nat} (h : Own w base (.slice (some ⟨g, 0, none⟩) n cap) l) (hn : l.length = n) (k : Nat) (hk : k < n) : w.cell? ⟨g, k, none⟩ = some (.int .u8 (gt l k : Nat)) := by
  rw [gt_eq l k (by omega)]
  exact h.cell hn k (by omega)
theorem at2 (v : Value) (l : List Nat) (w : World) (h : Rd w v l) (y : Byt l) (hl : l.length ≤ 1048576) :
    Calls Try.prog 48 #[v, .int .i64 2, .int .i64 16] w fun e w' => ∃ j : Nat, e = .returned (.int .i64 (j : Int)) ∧ j < 16 ∧ Below w.heap.size w w' :=
  (lwat v l w 2 16 h y (by omega) (by omega) (by omega) hl).mono (fun e w' ⟨r, he, ⟨h0, h1⟩, m, hw⟩ => ⟨r.toNat, by rw [he, Int.toNat_of_nonneg h0], by omega, by rw [hw]; exact below_drewN (Below.refl _ _) m⟩)
theorem idx_s0 (g n c j : Nat) (hj : j < n) (w : World) : (Instr.indexAt 22 (.slice (some ⟨g, 0, none⟩) n c) (.int .i64 (j : Int))).run Try.prog w = .ok (.pointer (some ⟨g, j, none⟩)) w := by
  have hs : ∀ w : World, (sizeOf (Try.prog.elem 22)).run Try.prog w = .ok 1 w := fun _ => by kernel_rfl
  rw [run_indexAt_slice (P := Try.prog) w 22 _ n c .i64 (j : Int) (by kernel_rfl)]
  simp [hs, hj, Result.andThen, Addr.add_lit]
theorem set_byt (l : List Nat) (h : Byt l) (i x : Nat) (hx : x < 256) : Byt (l.set i x) := by
  intro u hu
  rcases List.mem_or_eq_of_mem_set hu with q | q
  · exact h u q
  · omega
theorem own_slot {w : World} {base n : Nat} {a : Option Addr} {c : Nat} {l : List Nat} (h : Own w base (.slice a n c) l) (hl : l.length = n) (h0 : 0 < n) : ∃ g, a = some ⟨g, 0, none⟩ ∧ base ≤ g := by
  unfold Own at h
  rcases h.2 with ⟨e, e'⟩ | ⟨g, cap, cur, e, hb, -, hc, -⟩
  · omega
  · cases e
    exact ⟨g, rfl, hb⟩
theorem mix_byte (x k : Nat) : ∃ z : Nat, ((x : Int) * 3 + (k : Int)) % 256 = (z : Int) ∧ z < 256 := ⟨(x * 3 + k) % 256, by omega, by omega⟩

set_option maxHeartbeats 16000000 in
set_option maxRecDepth 100000 in
theorem law_grp (v : Value) (l : List Nat) (w : World) (h : Rd w v l) (y : Byt l) :
    Calls Try.prog 8 #[v] w fun e w' => e = .returned (.bool true) ∧ Below w.heap.size w w' := by
  have RC := hid h
  obtain ⟨q, cap, rfl, _, _, _⟩ := h.parts
  clear h
  by_cases hl : l.length ≤ 1048576
  · go_enter Try.func8, Try.ntmps8
    go_wp2_with (go_at_call 9; go_in)
    refine (drawGt _ l _ RC.out y hl).mono ?_
    rintro e w1 ⟨ga, ka, gb, kb, a, b, rfl, la, lb, ya, yb, OA, OB, hBel⟩
    replace RC := hid (RC.out.below hBel)
    have RA := OA.rd
    have RB := OB.rd
    have HB := hid hBel
    clear OA OB hBel
    obtain ⟨na, hna⟩ : ∃ n, n = a.length := ⟨_, rfl⟩
    rw [← hna] at RA ⊢
    have Hna := hid hna
    clear hna
    obtain ⟨nb, hnb⟩ : ∃ n, n = b.length := ⟨_, rfl⟩
    rw [← hnb] at RB ⊢
    have Hnb := hid hnb
    clear hnb
    replace RA := hid RA
    replace RB := hid RB
    go_wp2_with fail
    refine (igt _ _ a b _ RA.out RB.out ya yb).mono ?_
    rintro e w2 ⟨vr, rfl, OE, hB⟩
    have RG := OE.rd
    obtain ⟨pG, kG, rfl, -, -, -⟩ := RG.parts
    replace RC := hid (RC.out.below hB)
    replace RA := hid (RA.out.below hB)
    replace RB := hid (RB.out.below hB)
    replace HB := hid (HB.out.trans (hB.mono HB.out.size))
    clear hB OE
    obtain ⟨BG, hb⟩ : ∃ B, B = gtB a b := ⟨_, rfl⟩
    obtain ⟨cG, hc⟩ : ∃ c, c = gtC a b := ⟨_, rfl⟩
    obtain ⟨mG, hm⟩ : ∃ m, m = BG.length := ⟨_, rfl⟩
    rw [← hb] at RG ⊢
    rw [← hc]
    rw [← hm] at RG ⊢
    have HBG := hid hb
    have HCG := hid hc
    have HMG := hid hm
    replace RG := hid RG
    clear hb hc hm
    go_wp2_with fail
    have VG := hid (heap_alloc_new w2 (.cells #[.int .i64 cG, .slice pG mG kG] 33))
    have hA := below_alloc1 w2 (.cells #[.int .i64 cG, .slice pG mG kG] 33)
    replace RC := hid (RC.out.below hA)
    replace RA := hid (RA.out.below hA)
    replace RB := hid (RB.out.below hA)
    replace RG := hid (RG.out.below hA)
    replace HB := hid (HB.out.trans (hA.mono HB.out.size))
    clear hA
    generalize w2.alloc (.cells #[.int .i64 cG, .slice pG mG kG] 33) = w2a at *
    generalize w2.heap.size = gG at *
    refine (drawHa _ l _ RC.out y hl).mono ?_
    rintro e w3 ⟨gh, kh, gd, kd, h, d, rfl, lh, ld, yh, yd, OH, OD, hBel⟩
    replace RC := hid (RC.out.below hBel)
    replace RA := hid (RA.out.below hBel)
    replace RB := hid (RB.out.below hBel)
    replace RG := hid (RG.out.below hBel)
    replace VG := hid (var_below hBel VG.out)
    replace HB := hid (HB.out.trans (hBel.mono HB.out.size))
    have RH := OH.rd
    have RD := OD.rd
    clear OH OD hBel
    obtain ⟨nh, hnh⟩ : ∃ n, n = h.length := ⟨_, rfl⟩
    rw [← hnh] at RH ⊢
    have Hnh := hid hnh
    clear hnh
    obtain ⟨nd, hnd⟩ : ∃ n, n = d.length := ⟨_, rfl⟩
    rw [← hnd] at RD ⊢
    have Hnd := hid hnd
    clear hnd
    replace RH := hid RH
    replace RD := hid RD
    go_wp2_with fail
    refine (iha _ _ h d _ RH.out RD.out yh yd).mono ?_
    rintro e w4 ⟨vr, rfl, OE, hB⟩
    have RX := OE.rd
    obtain ⟨pX, kX, rfl, -, -, -⟩ := RX.parts
    replace RC := hid (RC.out.below hB)
    replace RA := hid (RA.out.below hB)
    replace RB := hid (RB.out.below hB)
    replace RG := hid (RG.out.below hB)
    replace RH := hid (RH.out.below hB)
    replace RD := hid (RD.out.below hB)
    replace VG := hid (var_below hB VG.out)
    replace HB := hid (HB.out.trans (hB.mono HB.out.size))
    clear hB OE
    obtain ⟨BX, hb⟩ : ∃ B, B = haB h d := ⟨_, rfl⟩
    obtain ⟨cX, hc⟩ : ∃ c, c = haC h d := ⟨_, rfl⟩
    obtain ⟨mX, hm⟩ : ∃ m, m = BX.length := ⟨_, rfl⟩
    rw [← hb] at RX ⊢
    rw [← hc]
    rw [← hm] at RX ⊢
    have HBX := hid hb
    have HCX := hid hc
    have HMX := hid hm
    replace RX := hid RX
    clear hb hc hm
    go_wp2_with fail
    have VX := hid (heap_alloc_new w4 (.cells #[.int .i64 cX, .slice pX mX kX] 33))
    have hA := below_alloc1 w4 (.cells #[.int .i64 cX, .slice pX mX kX] 33)
    replace RC := hid (RC.out.below hA)
    replace RA := hid (RA.out.below hA)
    replace RB := hid (RB.out.below hA)
    replace RG := hid (RG.out.below hA)
    replace RH := hid (RH.out.below hA)
    replace RD := hid (RD.out.below hA)
    replace RX := hid (RX.out.below hA)
    replace VG := hid (var_below hA VG.out)
    replace HB := hid (HB.out.trans (hA.mono HB.out.size))
    clear hA
    generalize w4.alloc (.cells #[.int .i64 cX, .slice pX mX kX] 33) = w4a at *
    generalize w4.heap.size = gX at *
    obtain ⟨a0, a1, -, -⟩ := var2_facts VG.out
    obtain ⟨a2, a3, -, -⟩ := var2_facts VX.out
    have C1 := hid (fun (wq : World) (hb : Below w4a.heap.size w4a wq) => (sgt _ _ a b wq (RA.out.below hb) (RB.out.below hb) ya yb).mono (R' := fun e w' => ∃ (p : Option Addr) (cc : Nat), e = .returned (.agg #[.int .i64 cG, .slice p mG cc]) ∧ Rd w' (.slice p mG cc) BG ∧ Below wq.heap.size wq w') (fun e w' ⟨r, he, ho, hb⟩ => by
      have q := ho.rd
      rw [← HBG.out] at q
      obtain ⟨p, cc, rfl, -, -, -⟩ := q.parts
      rw [← HCG.out] at he
      rw [← HMG.out] at he q
      exact ⟨p, cc, he, q, hb⟩))
    have C2 := hid (fun (wq : World) (hb : Below w4a.heap.size w4a wq) => (sha _ _ h d wq (RH.out.below hb) (RD.out.below hb) yh yd).mono (R' := fun e w' => ∃ (p : Option Addr) (cc : Nat), e = .returned (.agg #[.int .i64 cX, .slice p mX cc]) ∧ Rd w' (.slice p mX cc) BX ∧ Below wq.heap.size wq w') (fun e w' ⟨r, he, ho, hb⟩ => by
      have q := ho.rd
      rw [← HBX.out] at q
      obtain ⟨p, cc, rfl, -, -, -⟩ := q.parts
      rw [← HCX.out] at he
      rw [← HMX.out] at he q
      exact ⟨p, cc, he, q, hb⟩))
    have C3 := hid (fun (t : List Nat) (wq : World) (va vb : Value) (ha : Rd wq va t) (hb : Rd wq vb t) => (lwsame va vb t t wq ha hb).mono (R' := fun e w' => e = .returned (.bool true) ∧ Below wq.heap.size wq w') (fun e w' ⟨he, hw⟩ => by
      rw [sam_self] at he
      exact ⟨he, by rw [hw]; exact Below.refl _ _⟩))
    have tg : (cG != cG) = false := by simp
    have tx : (cX != cX) = false := by simp
    have hf0 : ∀ (x : Int) (p : Option Addr) (m cc : Nat) (w : World), (Instr.field 33 (.agg #[.int .i64 x, .slice p m cc]) 0).run Try.prog w = .ok (.int .i64 x) w := fun _ _ _ _ _ => by kernel_rfl
    have hf1 : ∀ (x : Int) (p : Option Addr) (m cc : Nat) (w : World), (Instr.field 33 (.agg #[.int .i64 x, .slice p m cc]) 1).run Try.prog w = .ok (.slice p m cc) w := fun _ _ _ _ _ => by kernel_rfl
    go_wp2_with fail
    go_region_held3 (fun w' => Below w4a.heap.size w4a w' ∧ w'.cell? ⟨gG, 0, none⟩ = some (.int .i64 cG) ∧ w'.cell? ⟨gG, 1, none⟩ = some (.slice pG mG kG) ∧ w'.cell? ⟨gX, 0, none⟩ = some (.int .i64 cX) ∧ w'.cell? ⟨gX, 1, none⟩ = some (.slice pX mX kX))
      (first | exact ⟨(Below.refl _ _).drew, a0, a1, a2, a3⟩ | exact ⟨Below.refl _ _, a0, a1, a2, a3⟩ | exact keepG ‹_ ∧ _ ∧ _› hz)
      (first | (go_at_call 53; refine (C1.out _ ?_).mono ?_; exact (‹Below w4a.heap.size w4a _ ∧ _›).1; rintro e wq ⟨pq, cq, rfl, hq', hz⟩) | (go_at_call 54; refine (C2.out _ ?_).mono ?_; exact (‹Below w4a.heap.size w4a _ ∧ _›).1; rintro e wq ⟨pq, cq, rfl, hq, hz⟩) | (go_at_call 29; refine (C3.out _ _ _ _ ?_ hq).mono ?_; exact RX.out.below (‹Below w4a.heap.size w4a _ ∧ _›).1; rintro e wx ⟨rfl, hz⟩))
    have hS := (‹Below w4a.heap.size w4a wx ∧ _›).1
    replace RC := hid (RC.out.below hS)
    replace RA := hid (RA.out.below hS)
    replace RB := hid (RB.out.below hS)
    replace RG := hid (RG.out.below hS)
    replace RH := hid (RH.out.below hS)
    replace RD := hid (RD.out.below hS)
    replace RX := hid (RX.out.below hS)
    replace VG := hid (var_below hS VG.out)
    replace VX := hid (var_below hS VX.out)
    replace HB := hid (HB.out.trans (hS.mono HB.out.size))
    clear hS C1 C2 C3 hz hq hq' tg tx a0 a1 a2 a3
    by_cases hx : h.length = 16 ∧ d.length ≤ 800 ∧ d.length % 16 = 0
    · have hc0 : cX = 0 := by rw [HCX.out, haC, if_neg (by omega), if_neg (by omega)]
      have EX : BX = hshB h d := by rw [HBX.out, haB, if_neg (by omega), if_neg (by omega)]
      have hm16 : mX = 16 := by rw [HMX.out, EX, hshB_len]
      subst hc0
      subst hm16
      subst EX
      replace hx := hid hx
      clear HCX HBX HMX
      obtain ⟨-, -, -, -⟩ := var2_facts VG.out
      obtain ⟨a2, a3, -, -⟩ := var2_facts VX.out
      obtain ⟨i0, hi, hz0, hz1, hz2⟩ := info_parts info8
      have hO0 := own_lit0 wx
      go_wp2_with (at_builtin; refine wpList_append_own _ rfl _ _ _ rfl wx.heap.size 5 i0 (.int .u8 0) 1 1 Try.underlying22 hi hz0 hz1 hz2 rfl (by omega) _ _ _ rfl hO0 ⟨gd, 0, none⟩ nd kd (d.map bv) rfl (by simp [Hnd.out]) ?_ ?_ ?_ ?_ ?_ ?_)
      · intro j u hj
        have hj' : j < d.length := by
          rcases Nat.lt_or_ge j d.length with q | q
          · exact q
          · rw [List.getElem?_eq_none (by simpa using q)] at hj; cases hj
        have q := RD.out.cells j hj'
        rw [gt_eq d j hj'] at q
        rw [List.getElem?_map, List.getElem?_eq_getElem hj'] at hj
        cases hj
        rw [Nat.zero_add] at q
        rw [Addr.add_lit, Nat.zero_add]
        exact cell_alloc q _
      · intro u hu
        obtain ⟨x, _, rfl⟩ := List.mem_map.1 hu
        rfl
      · unfold maxLen; have := Hnd.out; simp <;> omega
      · have := Hnd.out; simp <;> omega
      · simp
      intro v' w6 hown1 hgrow1 _
      have hO1 : Own w6 wx.heap.size v' d := by
        unfold Own
        have := Hnd.out
        rw [← this]
        simpa using hown1
      have hF : Below wx.heap.size wx w6 := (below_alloc1 wx _).grown hgrow1 (by simp) (fun x e => by simp [Value.ownBlock] at e; omega)
      obtain ⟨pM, kM, rfl, -, -, -⟩ := hO1.rd.parts
      have Hn := Hnd.out
      rw [← Hn] at hO1
      rw [← Hn]
      clear Hn hown1 hgrow1
      have FW := hid hF
      clear hF
      have OM := hid hO1
      clear hi hz0 hz1 hz2 hO0 a2 a3 hO1
      have hn8 : nd ≤ 816 := by have := Hnd.out; omega
      go_wp2_with fail
      go_loopw [10, 66] (fun i' i ws => ∃ k : Nat, ∃ u : Value, ∃ m : List Nat, k ≤ nd ∧ i = .int .i64 k ∧ i' = u ∧ Hid (m.length = nd) ∧ Hid (Byt m) ∧ Hid (Own ws wx.heap.size (.slice pM nd kM) m) ∧ Hid (Below wx.heap.size wx ws)) (fun _ i _ => nd - (intOf i).toNat)
      case atStart => exact ⟨0, _, d, by omega, rfl, rfl, hid Hnd.out.symm, hid yd, OM, FW⟩
      case round =>
        obtain ⟨k, u, m, hk, rfl, rfl, lm, ym, OM', FW'⟩ := hrel
        clear OM FW
        by_cases hlt : k < nd
        · obtain ⟨gM, rfl, hgM⟩ := own_slot OM'.out lm.out (by omega)
          have hkm : k < m.length := by have := lm.out; omega
          have c1 := Own.cell lm.out OM'.out k hkm
          have f1 := Own.open lm.out OM'.out k
          have x1 := ym.out.at k hkm
          generalize m[k] = x at *
          unfold bv at c1
          obtain ⟨z, hz, zl⟩ := mix_byte x k
          have ST := hid (Own.stored lm.out OM'.out k z).1
          have SF := hid (FW'.out.setCell (p := ⟨gM, k, none⟩) hgM (bv z))
          unfold bv at ST SF
          have k0 : (0 : Int) ≤ (k : Int) := by omega
          have k1 : (k : Int) < (nd : Int) := by omega
          have I1 := idx_s0 gM nd kM k hlt
          go_wp2
          exact ⟨⟨k + 1, _, m.set k z, hlt, by go_num, rfl, hid (by rw [List.length_set]; exact lm.out), hid (set_byt m ym.out k z zl), ST, SF⟩, by simp [intOf]; omega⟩
        · have hke : k = nd := by omega
          subst hke
          have hFW := FW'.out
          replace RC := hid (RC.out.below hFW)
          replace RA := hid (RA.out.below hFW)
          replace RB := hid (RB.out.below hFW)
          replace RG := hid (RG.out.below hFW)
          replace RH := hid (RH.out.below hFW)
          replace RD := hid (RD.out.below hFW)
          replace RX := hid (RX.out.below hFW)
          replace VG := hid (var_below hFW VG.out)
          replace VX := hid (var_below hFW VX.out)
          replace HB := hid (HB.out.trans (hFW.mono HB.out.size))
          have RM := hid OM'.out.rd
          clear hFW OM' FW'
          go_wp2_with fail
          refine (lwxor _ _ d m _ RD.out RM.out yd ym.out (by have := Hnd.out; omega) (by rw [lm.out, Hnd.out])).mono ?_
          rintro e w7 ⟨vz, rfl, OZ, hB⟩
          have RZ := OZ.rd
          replace RC := hid (RC.out.below hB)
          replace RA := hid (RA.out.below hB)
          replace RB := hid (RB.out.below hB)
          replace RG := hid (RG.out.below hB)
          replace RH := hid (RH.out.below hB)
          replace RD := hid (RD.out.below hB)
          replace RX := hid (RX.out.below hB)
          replace RM := hid (RM.out.below hB)
          replace VG := hid (var_below hB VG.out)
          replace VX := hid (var_below hB VX.out)
          replace HB := hid (HB.out.trans (hB.mono HB.out.size))
          clear hB OZ
          obtain ⟨pZ, kZ, rfl, -, -, -⟩ := RZ.parts
          have lz : (xl d m).length = k := by rw [xl_len, Hnd.out]
          rw [lz] at RZ ⊢
          replace RZ := hid RZ
          replace lz := hid lz
          go_wp2_with fail
          refine (iha _ _ h (xl d m) _ RH.out RZ.out yh (xlB d m yd ym.out)).mono ?_
          rintro e w8 ⟨vr, rfl, OE, hB⟩
          have RU := OE.rd
          obtain ⟨pU, kU, rfl, -, -, -⟩ := RU.parts
          replace RC := hid (RC.out.below hB)
          replace RA := hid (RA.out.below hB)
          replace RB := hid (RB.out.below hB)
          replace RG := hid (RG.out.below hB)
          replace RH := hid (RH.out.below hB)
          replace RD := hid (RD.out.below hB)
          replace RX := hid (RX.out.below hB)
          replace RM := hid (RM.out.below hB)
          replace VG := hid (var_below hB VG.out)
          replace VX := hid (var_below hB VX.out)
          replace HB := hid (HB.out.trans (hB.mono HB.out.size))
          clear hB OE
          obtain ⟨BU, hb⟩ : ∃ B, B = haB h (xl d m) := ⟨_, rfl⟩
          obtain ⟨cU, hc⟩ : ∃ c, c = haC h (xl d m) := ⟨_, rfl⟩
          obtain ⟨mU, hm⟩ : ∃ m, m = BU.length := ⟨_, rfl⟩
          rw [← hb] at RU ⊢
          rw [← hc]
          rw [← hm] at RU ⊢
          have HBU := hid hb
          have HCU := hid hc
          have HMU := hid hm
          replace RU := hid RU
          clear hb hc hm
          go_wp2_with fail
          have VU := hid (heap_alloc_new w8 (.cells #[.int .i64 cU, .slice pU mU kU] 33))
          have hA := below_alloc1 w8 (.cells #[.int .i64 cU, .slice pU mU kU] 33)
          replace RC := hid (RC.out.below hA)
          replace RA := hid (RA.out.below hA)
          replace RB := hid (RB.out.below hA)
          replace RG := hid (RG.out.below hA)
          replace RH := hid (RH.out.below hA)
          replace RD := hid (RD.out.below hA)
          replace RX := hid (RX.out.below hA)
          replace RM := hid (RM.out.below hA)
          replace RU := hid (RU.out.below hA)
          replace VG := hid (var_below hA VG.out)
          replace VX := hid (var_below hA VX.out)
          replace HB := hid (HB.out.trans (hA.mono HB.out.size))
          clear hA
          generalize w8.alloc (.cells #[.int .i64 cU, .slice pU mU kU] 33) = w8a at *
          generalize w8.heap.size = gU at *
          have lm' : m.length = d.length := by rw [lm.out, Hnd.out]
          have ldm : (xl d m).length = d.length := xl_len d m
          have hc0 : cU = 0 := by rw [HCU.out, haC, ldm, if_neg (by have := hx.out; omega), if_neg (by have := hx.out; omega)]
          have EU : BU = hshB h (xl d m) := by rw [HBU.out, haB, ldm, if_neg (by have := hx.out; omega), if_neg (by have := hx.out; omega)]
          have hm16 : mU = 16 := by rw [HMU.out, EU, hshB_len]
          subst hc0
          subst hm16
          subst EU
          have XE := hid (hshB_xl h d m yh yd ym.out lm'.symm)
          have C1 := hid (fun (wq : World) (hb : Below w8a.heap.size w8a wq) => (iha _ _ h m wq (RH.out.below hb) (RM.out.below hb) yh ym.out).mono (R' := fun e w' => ∃ (p : Option Addr) (cc : Nat), e = .returned (.agg #[.int .i64 0, .slice p 16 cc]) ∧ Rd w' (.slice p 16 cc) (hshB h m) ∧ Below wq.heap.size wq w') (fun e w' ⟨r, he, ho, hb⟩ => by
            have q := ho.rd
            rw [show haC h m = 0 by rw [haC, lm', if_neg (by have := hx.out; omega), if_neg (by have := hx.out; omega)]] at he
            rw [show haB h m = hshB h m by rw [haB, lm', if_neg (by have := hx.out; omega), if_neg (by have := hx.out; omega)]] at q
            obtain ⟨p, cc, rfl, -, -, -⟩ := q.parts
            rw [hshB_len] at he q
            exact ⟨p, cc, he, q, hb⟩))
          have C2 := hid (fun (wq : World) (va vb : Value) (ha : Rd wq va (hshB h d)) (hb : Rd wq vb (hshB h m)) => (lwxor va vb _ _ wq ha hb (hshB_byt _ _) (hshB_byt _ _) (by rw [hshB_len]; omega) (by rw [hshB_len, hshB_len])).mono (R' := fun e w' => ∃ (p : Option Addr) (cc : Nat), e = .returned (.slice p 16 cc) ∧ Rd w' (.slice p 16 cc) (hshB h (xl d m)) ∧ Below wq.heap.size wq w') (fun e w' ⟨r, he, ho, hb⟩ => by
            have q := ho.rd
            rw [← XE.out] at q
            obtain ⟨p, cc, rfl, -, -, -⟩ := q.parts
            rw [hshB_len] at he q
            exact ⟨p, cc, he, q, hb⟩))
          have C3 := hid (fun (t : List Nat) (wq : World) (va vb : Value) (ha : Rd wq va t) (hb : Rd wq vb t) => (lwsame va vb t t wq ha hb).mono (R' := fun e w' => e = .returned (.bool true) ∧ Below wq.heap.size wq w') (fun e w' ⟨he, hw⟩ => by
            rw [sam_self] at he
            exact ⟨he, by rw [hw]; exact Below.refl _ _⟩))
          obtain ⟨a0, a1, -, -⟩ := var2_facts VU.out
          obtain ⟨a2, a3, -, -⟩ := var2_facts VX.out
          clear HCU HBU HMU RZ lz ldm lm' lm hlt hk RM
          go_wp2_with fail
          go_region_held3 (fun w' => Below w8a.heap.size w8a w' ∧ w'.cell? ⟨gU, 0, none⟩ = some (.int .i64 0) ∧ w'.cell? ⟨gU, 1, none⟩ = some (.slice pU 16 kU) ∧ w'.cell? ⟨gX, 0, none⟩ = some (.int .i64 0) ∧ w'.cell? ⟨gX, 1, none⟩ = some (.slice pX 16 kX))
            (first | exact ⟨(Below.refl _ _).drew, a0, a1, a2, a3⟩ | exact ⟨Below.refl _ _, a0, a1, a2, a3⟩ | exact keepG ‹_ ∧ _ ∧ _› hz)
            (first | (go_at_call 52; refine (C1.out _ ?_).mono ?_; exact (‹Below w8a.heap.size w8a _ ∧ _›).1; rintro e wq ⟨pq, cq, rfl, hq, hz⟩) | (go_at_call 36; refine (C2.out _ _ _ ?_ hq).mono ?_; exact RX.out.below (‹Below w8a.heap.size w8a _ ∧ _›).1; rintro e wr' ⟨pr, cr, rfl, hr, hz⟩) | (go_at_call 29; refine (C3.out _ _ _ _ ?_ hr).mono ?_; exact RU.out.below (‹Below w8a.heap.size w8a _ ∧ _›).1; rintro e wy ⟨rfl, hz⟩))
          have hS := (‹Below w8a.heap.size w8a wy ∧ _›).1
          replace RC := hid (RC.out.below hS)
          replace RA := hid (RA.out.below hS)
          replace RB := hid (RB.out.below hS)
          replace RG := hid (RG.out.below hS)
          replace RH := hid (RH.out.below hS)
          replace RD := hid (RD.out.below hS)
          replace RX := hid (RX.out.below hS)
          replace VG := hid (var_below hS VG.out)
          replace VX := hid (var_below hS VX.out)
          replace HB := hid (HB.out.trans (hS.mono HB.out.size))
          clear hS C1 C2 C3 hz hq hr a0 a1 a2 a3 XE RU VU RX RH RD
          by_cases hg : a.length = 16 ∧ b.length = 16
          · have hc0 : cG = 0 := by rw [HCG.out, gtC, if_pos hg]
            have EG : BG = gtm a b := by rw [HBG.out, gtB, if_pos hg]
            have hm16 : mG = 16 := by rw [HMG.out, EG, gtm_len]
            have ha16 : na = 16 := by rw [Hna.out]; exact hg.1
            have hb16 : nb = 16 := by rw [Hnb.out]; exact hg.2
            subst hc0
            subst hm16
            subst EG
            subst ha16
            subst hb16
            clear HCG HBG HMG
            obtain ⟨a0, a1, -, -⟩ := var2_facts VG.out
            obtain ⟨i0, hi, hz0, hz1, hz2⟩ := info_parts info8
            go_wp2_with (at_make; refine wpList_make_full _ rfl _ _ 22 rfl wy.heap.size 5 i0 (.int .u8 0) 1 Try.underlying22 hi hz0 hz1 .i64 .i64 _ _ 16 rfl rfl rfl rfl (by rw [hz2]; omega) (by unfold maxLen; omega) (Nat.le_refl _) ?_)
            intro v0 hown0 hgrow0
            have O1 := own_made wy v0 16 hown0
            have hF := below_of_grown hgrow0 (Nat.le_refl _) (fun k hk => by simp at hk)
            clear hown0 hgrow0
            have c1 := Own.cell (by simp) O1 0 (by simp)
            have f1 := Own.open (by simp) O1 0
            have S1 := (Own.stored (by simp) O1 0 128).1
            have F1 := hF.setCell (p := ⟨wy.heap.size, 0, none⟩) (Nat.le_refl _) (bv 128)
            unfold bv at c1 S1 F1
            rw [show (List.replicate 16 0).set 0 128 = oneB from rfl] at S1
            generalize hg1 : wy.heap.size = g1 at *
            replace hg1 := hid hg1
            have RO := S1.rd
            have HF := hid F1
            clear O1 hF F1
            generalize hx0 : v0.setCell ⟨g1, 0, none⟩ (.int .u8 128) = x0 at *
            have hbx : Below wy.heap.size wy x0 := by rw [hg1.out]; exact HF.out
            replace RC := hid (RC.out.below hbx)
            replace RA := hid (RA.out.below hbx)
            replace RB := hid (RB.out.below hbx)
            replace RG := hid (RG.out.below hbx)
            replace VG := hid (var_below hbx VG.out)
            replace HB := hid (HB.out.trans (hbx.mono HB.out.size))
            replace RO := hid RO
            clear hbx HF S1 hi hz0 hz1 hz2
            obtain ⟨i0, hi, hz0, hz1, hz2⟩ := info_parts info8
            have hO0 := own_lit0 x0
            go_wp2_with (at_builtin; refine wpList_append_own _ rfl _ _ _ rfl x0.heap.size 5 i0 (.int .u8 0) 1 1 Try.underlying22 hi hz0 hz1 hz2 rfl (by omega) _ _ _ rfl hO0 ⟨gb, 0, none⟩ 16 kb (b.map bv) rfl (by simp [Hnb.out]) ?_ ?_ ?_ ?_ ?_ ?_)
            · intro j u hj
              have hj' : j < b.length := by
                rcases Nat.lt_or_ge j b.length with q | q
                · exact q
                · rw [List.getElem?_eq_none (by simpa using q)] at hj; cases hj
              have q := RB.out.cells j hj'
              rw [gt_eq b j hj'] at q
              rw [List.getElem?_map, List.getElem?_eq_getElem hj'] at hj
              cases hj
              rw [Nat.zero_add] at q
              rw [Addr.add_lit, Nat.zero_add]
              exact cell_alloc q _
            · intro u hu
              obtain ⟨x, _, rfl⟩ := List.mem_map.1 hu
              rfl
            · unfold maxLen; have := Hnb.out; simp <;> omega
            · have := Hnb.out; simp <;> omega
            · simp
            intro v' x1 hown1 hgrow1 _
            have hO1 : Own x1 x0.heap.size v' b := by
              unfold Own
              rw [hg.2]
              simpa using hown1
            have hF : Below x0.heap.size x0 x1 := (below_alloc1 x0 _).grown hgrow1 (by simp) (fun x e => by simp [Value.ownBlock] at e; omega)
            obtain ⟨gc, kc, rfl, hgc, -⟩ := own_at hO1 hg.2 (by omega)
            have FO := hid hO1
            have FW := hid hF
            clear hi hz0 hz1 hz2 hO0 hO1 hF hown1 hgrow1 a0 a1 c1 f1
            go_wp2_with fail
            refine (at2 _ l _ (RC.out.below FW.out) y hl).mono ?_
            rintro e x2 ⟨j, rfl, hj, hM⟩
            replace FO := hid (FO.out.below hM)
            replace FW := hid (FW.out.trans (hM.mono FW.out.size))
            clear hM
            have I1 := idx_s0 gc 16 kc j hj
            obtain ⟨z, hz⟩ : ∃ z, z = gt b j := ⟨_, rfl⟩
            have z1 : z < 256 := by rw [hz]; exact gt_byt b yb j
            have j0 : (0 : Int) ≤ (j : Int) := by omega
            have j1 : (j : Int) < 16 := by omega
            have c1 := own_gt FO.out hg.2 j hj
            have c2 := FO.out.open hg.2 j
            rw [← hz] at c1
            have ST := hid (FO.out.stored hg.2 j (z ^^^ 90)).1
            have SW := hid (FW.out.setCell (p := ⟨gc, j, none⟩) hgc (.int .u8 ((z ^^^ 90 : Nat) : Int)))
            unfold bv at ST
            have E := xor8' z 90 z1 (by omega)
            rw [show ((90 : Nat) : Int) = 90 from rfl] at E
            clear hz
            go_wp2_with fail
            generalize x2.setCell ⟨gc, j, none⟩ (.int .u8 ((z ^^^ 90 : Nat) : Int)) = x9 at *
            have LC := hid (show (b.set j (z ^^^ 90)).length = 16 by rw [List.length_set]; exact hg.2)
            have YC := hid (set_byt b yb j (z ^^^ 90) (xor_lt _ _ z1 (by omega)))
            have QC := hid ST.out.rd
            clear ST FO FW E c1 c2 I1 z1
            generalize b.set j (z ^^^ 90) = c at *
            have hSW := SW.out
            replace RC := hid (RC.out.below hSW)
            replace RA := hid (RA.out.below hSW)
            replace RB := hid (RB.out.below hSW)
            replace RG := hid (RG.out.below hSW)
            replace RO := hid (RO.out.below hSW)
            replace VG := hid (var_below hSW VG.out)
            replace HB := hid (HB.out.trans (hSW.mono HB.out.size))
            clear SW hSW
            obtain ⟨b0, b1, -, -⟩ := var2_facts VG.out
            have ok : ∀ x t : List Nat, x.length = 16 → t.length = 16 → gtC x t = 0 ∧ gtB x t = gtm x t := fun x t h1 h2 => ⟨by rw [gtC, if_pos ⟨h1, h2⟩], by rw [gtB, if_pos ⟨h1, h2⟩]⟩
            have GI := hid (fun (x t u : List Nat) (vx vt : Value) (wq : World) (hx : Rd wq vx x) (ht : Rd wq vt t) (yx : Byt x) (yt : Byt t) (lx : x.length = 16) (lt : t.length = 16) (hu : gtm x t = u) => (igt vx vt x t wq hx ht yx yt).mono (R' := fun e w' => ∃ (p : Option Addr) (cc : Nat), e = .returned (.agg #[.int .i64 0, .slice p 16 cc]) ∧ Rd w' (.slice p 16 cc) u ∧ Below wq.heap.size wq w') (fun e w' ⟨r, he, ho, hb⟩ => by
              have q := ho.rd
              rw [(ok x t lx lt).1] at he
              rw [(ok x t lx lt).2] at q
              obtain ⟨p, cc, rfl, -, -, -⟩ := q.parts
              rw [gtm_len] at he q
              rw [hu] at q
              exact ⟨p, cc, he, q, hb⟩))
            have GS := hid (fun (wq : World) (hb : Below x9.heap.size x9 wq) => (sgt _ _ a b wq (RA.out.below hb) (RB.out.below hb) ya yb).mono (R' := fun e w' => ∃ (p : Option Addr) (cc : Nat), e = .returned (.agg #[.int .i64 0, .slice p 16 cc]) ∧ Rd w' (.slice p 16 cc) (gtm a b) ∧ Below wq.heap.size wq w') (fun e w' ⟨r, he, ho, hb⟩ => by
              have q := ho.rd
              rw [(ok a b hg.1 hg.2).1] at he
              rw [(ok a b hg.1 hg.2).2] at q
              obtain ⟨p, cc, rfl, -, -, -⟩ := q.parts
              rw [gtm_len] at he q
              exact ⟨p, cc, he, q, hb⟩))
            have LX := hid (fun (x t u : List Nat) (vx vt : Value) (wq : World) (hx : Rd wq vx x) (ht : Rd wq vt t) (yx : Byt x) (yt : Byt t) (lx : x.length = 16) (lt : t.length = 16) (hu : xl x t = u) => (lwxor vx vt x t wq hx ht yx yt (by omega) (by omega)).mono (R' := fun e w' => ∃ (p : Option Addr) (cc : Nat), e = .returned (.slice p 16 cc) ∧ Rd w' (.slice p 16 cc) u ∧ Below wq.heap.size wq w') (fun e w' ⟨r, he, ho, hb⟩ => by
              have q := ho.rd
              obtain ⟨p, cc, rfl, -, -, -⟩ := q.parts
              rw [xl_len, lx] at he q
              rw [hu] at q
              exact ⟨p, cc, he, q, hb⟩))
            have C3 := hid (fun (t : List Nat) (wq : World) (va vb : Value) (ha : Rd wq va t) (hb : Rd wq vb t) => (lwsame va vb t t wq ha hb).mono (R' := fun e w' => e = .returned (.bool true) ∧ Below wq.heap.size wq w') (fun e w' ⟨he, hw⟩ => by
              rw [sam_self] at he
              exact ⟨he, by rw [hw]; exact Below.refl _ _⟩))
            have I1 := hid (fun (wq : World) (hb : Below x9.heap.size x9 wq) => GI.out b a (gtm a b) _ _ wq (RB.out.below hb) (RA.out.below hb) yb ya hg.2 hg.1 (gtm_comm b a yb ya))
            have I2 := hid (fun (wq : World) (hb : Below x9.heap.size x9 wq) => GI.out a oneB a _ _ wq (RA.out.below hb) (RO.out.below hb) ya (by unfold Byt oneB; simp) hg.1 rfl (gtm_one a ya hg.1))
            have I3 := hid (fun (wq : World) (hb : Below x9.heap.size x9 wq) (v : Value) (hv : Rd wq v (xl b c)) => GI.out a (xl b c) (xl (gtm a b) (gtm a c)) _ v wq (RA.out.below hb) hv ya (xlB b c yb YC.out) hg.1 (by rw [xl_len]; exact hg.2) (gtm_xl a b c yb YC.out hg.2 LC.out))
            have I4 := hid (fun (wq : World) (hb : Below x9.heap.size x9 wq) => GI.out a c (gtm a c) _ _ wq (RA.out.below hb) (QC.out.below hb) ya YC.out hg.1 LC.out rfl)
            have L1 := hid (fun (wq : World) (hb : Below x9.heap.size x9 wq) => LX.out b c (xl b c) _ _ wq (RB.out.below hb) (QC.out.below hb) yb YC.out hg.2 LC.out rfl)
            have L2 := hid (fun (wq : World) (hb : Below x9.heap.size x9 wq) (v : Value) (hv : Rd wq v (gtm a c)) => LX.out (gtm a b) (gtm a c) (xl (gtm a b) (gtm a c)) _ v wq (RG.out.below hb) hv (gtm_byt _ _) (gtm_byt _ _) (gtm_len _ _) (gtm_len _ _) rfl)
            clear GI LX ok
            go_region_held3 (fun w' => Below x9.heap.size x9 w' ∧ w'.cell? ⟨gG, 0, none⟩ = some (.int .i64 0) ∧ w'.cell? ⟨gG, 1, none⟩ = some (.slice pG 16 kG))
              (first | exact ⟨(Below.refl _ _).drew, b0, b1⟩ | exact ⟨Below.refl _ _, b0, b1⟩ | exact keepE ‹_ ∧ _ ∧ _› hz)
              (first | (go_at_call 53; refine (GS.out _ (‹Below x9.heap.size x9 _ ∧ _›).1).mono ?_; rintro e wq1 ⟨p1, c1, rfl, hq1, hz⟩) | (go_at_call 50; (first | (with_reducible refine (I1.out _ (‹Below x9.heap.size x9 _ ∧ _›).1).mono ?_; rintro e wq2 ⟨p2, c2, rfl, hq2, hz⟩) | (with_reducible refine (I2.out _ (‹Below x9.heap.size x9 _ ∧ _›).1).mono ?_; rintro e wq3 ⟨p3, c3, rfl, hq3, hz⟩) | (with_reducible refine (I4.out _ (‹Below x9.heap.size x9 _ ∧ _›).1).mono ?_; rintro e wq5 ⟨p5, c5, rfl, hq5, hz⟩; have hq4b := hq4.below hz) | (with_reducible refine (I3.out _ (‹Below x9.heap.size x9 _ ∧ _›).1 _ hy1).mono ?_; rintro e wq4 ⟨p4, c4, rfl, hq4, hz⟩))) | (go_at_call 36; (first | (with_reducible refine (L1.out _ (‹Below x9.heap.size x9 _ ∧ _›).1).mono ?_; rintro e wy1 ⟨py1, cy1, rfl, hy1, hz⟩) | (with_reducible refine (L2.out _ (‹Below x9.heap.size x9 _ ∧ _›).1 _ hq5).mono ?_; rintro e wy2 ⟨py2, cy2, rfl, hy2, hz⟩; have hq4c := hq4b.below hz))) | (go_at_call 29; (first | (with_reducible refine (C3.out _ _ _ _ hq4c hy2).mono ?_; rintro e wx4 ⟨rfl, hz⟩) | (with_reducible refine (C3.out _ _ _ _ hq3 (RA.out.below (‹Below x9.heap.size x9 _ ∧ _›).1)).mono ?_; rintro e wx3 ⟨rfl, hz⟩) | (with_reducible refine (C3.out _ _ _ _ hq2 (RG.out.below (‹Below x9.heap.size x9 _ ∧ _›).1)).mono ?_; rintro e wx2 ⟨rfl, hz⟩) | (with_reducible refine (C3.out _ _ _ _ (RG.out.below (‹Below x9.heap.size x9 _ ∧ _›).1) hq1).mono ?_; rintro e wx1 ⟨rfl, hz⟩))))
            have hS := ‹Below x9.heap.size x9 _ ∧ _›
            have HF := hid (HB.out.trans (hS.1.mono HB.out.size))
            clear hS
            go_wp2
            go_ret
            exact ⟨rfl, HF.out⟩
          · have hc0 : cG ≠ 0 := by rw [HCG.out, gtC, if_neg hg]; omega
            have tg : (cG != 0) = true := by rw [bne_iff_ne]; exact hc0
            obtain ⟨a0, a1, -, -⟩ := var2_facts VG.out
            clear hg hc0
            go_wp2
            go_ret
            exact ⟨rfl, HB.out⟩
    · have hc0 : cX ≠ 0 := by
        rw [HCX.out, haC]
        split
        · omega
        · rw [if_pos (by omega)]; omega
      have tx : (cX == 0) = false := beq_eq_false_iff_ne.2 hc0
      clear hc0 HCX HBX HMX hx
      by_cases hg : a.length = 16 ∧ b.length = 16
      · have hc0 : cG = 0 := by rw [HCG.out, gtC, if_pos hg]
        have EG : BG = gtm a b := by rw [HBG.out, gtB, if_pos hg]
        have hm16 : mG = 16 := by rw [HMG.out, EG, gtm_len]
        have ha16 : na = 16 := by rw [Hna.out]; exact hg.1
        have hb16 : nb = 16 := by rw [Hnb.out]; exact hg.2
        subst hc0
        subst hm16
        subst EG
        subst ha16
        subst hb16
        clear HCG HBG HMG
        obtain ⟨a0, a1, -, -⟩ := var2_facts VG.out
        obtain ⟨i0, hi, hz0, hz1, hz2⟩ := info_parts info8
        go_wp2_with (at_make; refine wpList_make_full _ rfl _ _ 22 rfl wx.heap.size 5 i0 (.int .u8 0) 1 Try.underlying22 hi hz0 hz1 .i64 .i64 _ _ 16 rfl rfl rfl rfl (by rw [hz2]; omega) (by unfold maxLen; omega) (Nat.le_refl _) ?_)
        intro v0 hown0 hgrow0
        have O1 := own_made wx v0 16 hown0
        have hF := below_of_grown hgrow0 (Nat.le_refl _) (fun k hk => by simp at hk)
        clear hown0 hgrow0
        have c1 := Own.cell (by simp) O1 0 (by simp)
        have f1 := Own.open (by simp) O1 0
        have S1 := (Own.stored (by simp) O1 0 128).1
        have F1 := hF.setCell (p := ⟨wx.heap.size, 0, none⟩) (Nat.le_refl _) (bv 128)
        unfold bv at c1 S1 F1
        rw [show (List.replicate 16 0).set 0 128 = oneB from rfl] at S1
        generalize hg1 : wx.heap.size = g1 at *
        replace hg1 := hid hg1
        have RO := S1.rd
        have HF := hid F1
        clear O1 hF F1
        generalize hx0 : v0.setCell ⟨g1, 0, none⟩ (.int .u8 128) = x0 at *
        have hbx : Below wx.heap.size wx x0 := by rw [hg1.out]; exact HF.out
        replace RC := hid (RC.out.below hbx)
        replace RA := hid (RA.out.below hbx)
        replace RB := hid (RB.out.below hbx)
        replace RG := hid (RG.out.below hbx)
        replace VG := hid (var_below hbx VG.out)
        replace HB := hid (HB.out.trans (hbx.mono HB.out.size))
        replace RO := hid RO
        clear hbx HF S1 hi hz0 hz1 hz2
        obtain ⟨i0, hi, hz0, hz1, hz2⟩ := info_parts info8
        have hO0 := own_lit0 x0
        go_wp2_with (at_builtin; refine wpList_append_own _ rfl _ _ _ rfl x0.heap.size 5 i0 (.int .u8 0) 1 1 Try.underlying22 hi hz0 hz1 hz2 rfl (by omega) _ _ _ rfl hO0 ⟨gb, 0, none⟩ 16 kb (b.map bv) rfl (by simp [Hnb.out]) ?_ ?_ ?_ ?_ ?_ ?_)
        · intro j u hj
          have hj' : j < b.length := by
            rcases Nat.lt_or_ge j b.length with q | q
            · exact q
            · rw [List.getElem?_eq_none (by simpa using q)] at hj; cases hj
          have q := RB.out.cells j hj'
          rw [gt_eq b j hj'] at q
          rw [List.getElem?_map, List.getElem?_eq_getElem hj'] at hj
          cases hj
          rw [Nat.zero_add] at q
          rw [Addr.add_lit, Nat.zero_add]
          exact cell_alloc q _
        · intro u hu
          obtain ⟨x, _, rfl⟩ := List.mem_map.1 hu
          rfl
        · unfold maxLen; have := Hnb.out; simp <;> omega
        · have := Hnb.out; simp <;> omega
        · simp
        intro v' x1 hown1 hgrow1 _
        have hO1 : Own x1 x0.heap.size v' b := by
          unfold Own
          rw [hg.2]
          simpa using hown1
        have hF : Below x0.heap.size x0 x1 := (below_alloc1 x0 _).grown hgrow1 (by simp) (fun x e => by simp [Value.ownBlock] at e; omega)
        obtain ⟨gc, kc, rfl, hgc, -⟩ := own_at hO1 hg.2 (by omega)
        have FO := hid hO1
        have FW := hid hF
        clear hi hz0 hz1 hz2 hO0 hO1 hF hown1 hgrow1 a0 a1 c1 f1
        go_wp2_with fail
        refine (at2 _ l _ (RC.out.below FW.out) y hl).mono ?_
        rintro e x2 ⟨j, rfl, hj, hM⟩
        replace FO := hid (FO.out.below hM)
        replace FW := hid (FW.out.trans (hM.mono FW.out.size))
        clear hM
        have I1 := idx_s0 gc 16 kc j hj
        obtain ⟨z, hz⟩ : ∃ z, z = gt b j := ⟨_, rfl⟩
        have z1 : z < 256 := by rw [hz]; exact gt_byt b yb j
        have j0 : (0 : Int) ≤ (j : Int) := by omega
        have j1 : (j : Int) < 16 := by omega
        have c1 := own_gt FO.out hg.2 j hj
        have c2 := FO.out.open hg.2 j
        rw [← hz] at c1
        have ST := hid (FO.out.stored hg.2 j (z ^^^ 90)).1
        have SW := hid (FW.out.setCell (p := ⟨gc, j, none⟩) hgc (.int .u8 ((z ^^^ 90 : Nat) : Int)))
        unfold bv at ST
        have E := xor8' z 90 z1 (by omega)
        rw [show ((90 : Nat) : Int) = 90 from rfl] at E
        clear hz
        go_wp2_with fail
        generalize x2.setCell ⟨gc, j, none⟩ (.int .u8 ((z ^^^ 90 : Nat) : Int)) = x9 at *
        have LC := hid (show (b.set j (z ^^^ 90)).length = 16 by rw [List.length_set]; exact hg.2)
        have YC := hid (set_byt b yb j (z ^^^ 90) (xor_lt _ _ z1 (by omega)))
        have QC := hid ST.out.rd
        clear ST FO FW E c1 c2 I1 z1
        generalize b.set j (z ^^^ 90) = c at *
        have hSW := SW.out
        replace RC := hid (RC.out.below hSW)
        replace RA := hid (RA.out.below hSW)
        replace RB := hid (RB.out.below hSW)
        replace RG := hid (RG.out.below hSW)
        replace RO := hid (RO.out.below hSW)
        replace VG := hid (var_below hSW VG.out)
        replace HB := hid (HB.out.trans (hSW.mono HB.out.size))
        clear SW hSW
        obtain ⟨b0, b1, -, -⟩ := var2_facts VG.out
        have ok : ∀ x t : List Nat, x.length = 16 → t.length = 16 → gtC x t = 0 ∧ gtB x t = gtm x t := fun x t h1 h2 => ⟨by rw [gtC, if_pos ⟨h1, h2⟩], by rw [gtB, if_pos ⟨h1, h2⟩]⟩
        have GI := hid (fun (x t u : List Nat) (vx vt : Value) (wq : World) (hx : Rd wq vx x) (ht : Rd wq vt t) (yx : Byt x) (yt : Byt t) (lx : x.length = 16) (lt : t.length = 16) (hu : gtm x t = u) => (igt vx vt x t wq hx ht yx yt).mono (R' := fun e w' => ∃ (p : Option Addr) (cc : Nat), e = .returned (.agg #[.int .i64 0, .slice p 16 cc]) ∧ Rd w' (.slice p 16 cc) u ∧ Below wq.heap.size wq w') (fun e w' ⟨r, he, ho, hb⟩ => by
          have q := ho.rd
          rw [(ok x t lx lt).1] at he
          rw [(ok x t lx lt).2] at q
          obtain ⟨p, cc, rfl, -, -, -⟩ := q.parts
          rw [gtm_len] at he q
          rw [hu] at q
          exact ⟨p, cc, he, q, hb⟩))
        have GS := hid (fun (wq : World) (hb : Below x9.heap.size x9 wq) => (sgt _ _ a b wq (RA.out.below hb) (RB.out.below hb) ya yb).mono (R' := fun e w' => ∃ (p : Option Addr) (cc : Nat), e = .returned (.agg #[.int .i64 0, .slice p 16 cc]) ∧ Rd w' (.slice p 16 cc) (gtm a b) ∧ Below wq.heap.size wq w') (fun e w' ⟨r, he, ho, hb⟩ => by
          have q := ho.rd
          rw [(ok a b hg.1 hg.2).1] at he
          rw [(ok a b hg.1 hg.2).2] at q
          obtain ⟨p, cc, rfl, -, -, -⟩ := q.parts
          rw [gtm_len] at he q
          exact ⟨p, cc, he, q, hb⟩))
        have LX := hid (fun (x t u : List Nat) (vx vt : Value) (wq : World) (hx : Rd wq vx x) (ht : Rd wq vt t) (yx : Byt x) (yt : Byt t) (lx : x.length = 16) (lt : t.length = 16) (hu : xl x t = u) => (lwxor vx vt x t wq hx ht yx yt (by omega) (by omega)).mono (R' := fun e w' => ∃ (p : Option Addr) (cc : Nat), e = .returned (.slice p 16 cc) ∧ Rd w' (.slice p 16 cc) u ∧ Below wq.heap.size wq w') (fun e w' ⟨r, he, ho, hb⟩ => by
          have q := ho.rd
          obtain ⟨p, cc, rfl, -, -, -⟩ := q.parts
          rw [xl_len, lx] at he q
          rw [hu] at q
          exact ⟨p, cc, he, q, hb⟩))
        have C3 := hid (fun (t : List Nat) (wq : World) (va vb : Value) (ha : Rd wq va t) (hb : Rd wq vb t) => (lwsame va vb t t wq ha hb).mono (R' := fun e w' => e = .returned (.bool true) ∧ Below wq.heap.size wq w') (fun e w' ⟨he, hw⟩ => by
          rw [sam_self] at he
          exact ⟨he, by rw [hw]; exact Below.refl _ _⟩))
        have I1 := hid (fun (wq : World) (hb : Below x9.heap.size x9 wq) => GI.out b a (gtm a b) _ _ wq (RB.out.below hb) (RA.out.below hb) yb ya hg.2 hg.1 (gtm_comm b a yb ya))
        have I2 := hid (fun (wq : World) (hb : Below x9.heap.size x9 wq) => GI.out a oneB a _ _ wq (RA.out.below hb) (RO.out.below hb) ya (by unfold Byt oneB; simp) hg.1 rfl (gtm_one a ya hg.1))
        have I3 := hid (fun (wq : World) (hb : Below x9.heap.size x9 wq) (v : Value) (hv : Rd wq v (xl b c)) => GI.out a (xl b c) (xl (gtm a b) (gtm a c)) _ v wq (RA.out.below hb) hv ya (xlB b c yb YC.out) hg.1 (by rw [xl_len]; exact hg.2) (gtm_xl a b c yb YC.out hg.2 LC.out))
        have I4 := hid (fun (wq : World) (hb : Below x9.heap.size x9 wq) => GI.out a c (gtm a c) _ _ wq (RA.out.below hb) (QC.out.below hb) ya YC.out hg.1 LC.out rfl)
        have L1 := hid (fun (wq : World) (hb : Below x9.heap.size x9 wq) => LX.out b c (xl b c) _ _ wq (RB.out.below hb) (QC.out.below hb) yb YC.out hg.2 LC.out rfl)
        have L2 := hid (fun (wq : World) (hb : Below x9.heap.size x9 wq) (v : Value) (hv : Rd wq v (gtm a c)) => LX.out (gtm a b) (gtm a c) (xl (gtm a b) (gtm a c)) _ v wq (RG.out.below hb) hv (gtm_byt _ _) (gtm_byt _ _) (gtm_len _ _) (gtm_len _ _) rfl)
        clear GI LX ok
        go_region_held3 (fun w' => Below x9.heap.size x9 w' ∧ w'.cell? ⟨gG, 0, none⟩ = some (.int .i64 0) ∧ w'.cell? ⟨gG, 1, none⟩ = some (.slice pG 16 kG))
          (first | exact ⟨(Below.refl _ _).drew, b0, b1⟩ | exact ⟨Below.refl _ _, b0, b1⟩ | exact keepE ‹_ ∧ _ ∧ _› hz)
          (first | (go_at_call 53; refine (GS.out _ (‹Below x9.heap.size x9 _ ∧ _›).1).mono ?_; rintro e wq1 ⟨p1, c1, rfl, hq1, hz⟩) | (go_at_call 50; (first | (with_reducible refine (I1.out _ (‹Below x9.heap.size x9 _ ∧ _›).1).mono ?_; rintro e wq2 ⟨p2, c2, rfl, hq2, hz⟩) | (with_reducible refine (I2.out _ (‹Below x9.heap.size x9 _ ∧ _›).1).mono ?_; rintro e wq3 ⟨p3, c3, rfl, hq3, hz⟩) | (with_reducible refine (I4.out _ (‹Below x9.heap.size x9 _ ∧ _›).1).mono ?_; rintro e wq5 ⟨p5, c5, rfl, hq5, hz⟩; have hq4b := hq4.below hz) | (with_reducible refine (I3.out _ (‹Below x9.heap.size x9 _ ∧ _›).1 _ hy1).mono ?_; rintro e wq4 ⟨p4, c4, rfl, hq4, hz⟩))) | (go_at_call 36; (first | (with_reducible refine (L1.out _ (‹Below x9.heap.size x9 _ ∧ _›).1).mono ?_; rintro e wy1 ⟨py1, cy1, rfl, hy1, hz⟩) | (with_reducible refine (L2.out _ (‹Below x9.heap.size x9 _ ∧ _›).1 _ hq5).mono ?_; rintro e wy2 ⟨py2, cy2, rfl, hy2, hz⟩; have hq4c := hq4b.below hz))) | (go_at_call 29; (first | (with_reducible refine (C3.out _ _ _ _ hq4c hy2).mono ?_; rintro e wx4 ⟨rfl, hz⟩) | (with_reducible refine (C3.out _ _ _ _ hq3 (RA.out.below (‹Below x9.heap.size x9 _ ∧ _›).1)).mono ?_; rintro e wx3 ⟨rfl, hz⟩) | (with_reducible refine (C3.out _ _ _ _ hq2 (RG.out.below (‹Below x9.heap.size x9 _ ∧ _›).1)).mono ?_; rintro e wx2 ⟨rfl, hz⟩) | (with_reducible refine (C3.out _ _ _ _ (RG.out.below (‹Below x9.heap.size x9 _ ∧ _›).1) hq1).mono ?_; rintro e wx1 ⟨rfl, hz⟩))))
        have hS := ‹Below x9.heap.size x9 _ ∧ _›
        have HF := hid (HB.out.trans (hS.1.mono HB.out.size))
        clear hS
        go_wp2
        go_ret
        exact ⟨rfl, HF.out⟩
      · have hc0 : cG ≠ 0 := by rw [HCG.out, gtC, if_neg hg]; omega
        have tg : (cG != 0) = true := by rw [bne_iff_ne]; exact hc0
        obtain ⟨a0, a1, -, -⟩ := var2_facts VG.out
        clear hg hc0
        go_wp2
        go_ret
        exact ⟨rfl, HB.out⟩
  · go_enter Try.func8, Try.ntmps8
    go_wp2_with (go_at_call 9; go_in)
    go_ret
    exact ⟨rfl, Below.refl _ _⟩
end Go.Proofs.Ytcmafbgfdddnnaa.W
