/-
  The law of the cipher, out of the contracts of its callees.
-/
import Derived.Test.YtaopocjagikacaaCiphF
import Derived.Test.YtaopocjagikacaaDrawE
import Derived.Test.YtaopocjagikacaaAtWalks
import Derived.Test.YtaopocjagikacaaLwWalks
import Derived.Test.YtaopocjagikacaaIencWalks
import Derived.Test.YtaopocjagikacaaSencWalks
import Derived.Lib.Bytes
import Derived.StillTailTactics
namespace Go.Proofs.Ytaopocjagikacaa.W
open Go.ChangeShapes Go.WideShapes Go.ChangeAt Go.RowKit
open Go.Proofs.Ytaopocjagikacaa.M

theorem keepE {W a b : World} {p : Nat} {x1 x2 : Value}
    (h : Below W.heap.size W a ∧ a.cell? ⟨p, 0, none⟩ = some x1 ∧ a.cell? ⟨p, 1, none⟩ = some x2) (hB : Below a.heap.size a b) :
    Below W.heap.size W b ∧ b.cell? ⟨p, 0, none⟩ = some x1 ∧ b.cell? ⟨p, 1, none⟩ = some x2 :=
  ⟨h.1.trans (hB.mono h.1.size), cell_kept hB h.2.1, cell_kept hB h.2.2⟩
theorem sam_self (l : List Nat) : sameS l l = true := by simp [sameS]
theorem own_at {w : World} {base n : Nat} {v : Value} {l : List Nat} (h : Own w base v l) (hn : l.length = n) (h0 : 0 < n) : ∃ g cap, v = .slice (some ⟨g, 0, none⟩) n cap ∧ base ≤ g ∧ n ≤ cap := by
  unfold Own at h
  rw [hn] at h
  rcases h.2 with ⟨-, e⟩ | ⟨g, cap, cur, e, hb, -, hc, -⟩
  · omega
  · exact ⟨g, cap, e, hb, hc⟩
theorem lwat' (v : Value) (l : List Nat) (w : World) (t : Nat) (n : Int) (h : Rd w v l) (y : Byt l) (ht : t ≤ 1000) (h1' : 1 < n) (hn : n ≤ 60000) (hl : l.length ≤ 1048576) :
    Calls Try.prog 47 #[v, .int .i64 (t : Int), .int .i64 n] w fun e w' => ∃ j : Nat, e = .returned (.int .i64 (j : Int)) ∧ (j : Int) < n ∧ Below w.heap.size w w' :=
  (lwat v l w t n h y ht h1' hn hl).mono (fun e w' ⟨r, he, ⟨h0, h1⟩, m, hw⟩ => ⟨r.toNat, by rw [he, Int.toNat_of_nonneg h0], by omega, by rw [hw]; exact below_drewN (Below.refl _ _) m⟩)
theorem at2 (v : Value) (l : List Nat) (w : World) (h : Rd w v l) (y : Byt l) (hl : l.length ≤ 1048576) :
    Calls Try.prog 47 #[v, .int .i64 2, .int .i64 16] w fun e w' => ∃ j : Nat, e = .returned (.int .i64 (j : Int)) ∧ j < 16 ∧ Below w.heap.size w w' :=
  (lwat' v l w 2 16 h y (by omega) (by omega) (by omega) hl).mono (fun e w' ⟨j, he, hj, hb⟩ => ⟨j, he, by omega, hb⟩)
theorem at3 (v : Value) (l : List Nat) (w : World) (h : Rd w v l) (y : Byt l) (hl : l.length ≤ 1048576) :
    Calls Try.prog 47 #[v, .int .i64 3, .int .i64 255] w fun e w' => ∃ j : Nat, e = .returned (.int .i64 (j : Int)) ∧ j < 255 ∧ Below w.heap.size w w' :=
  (lwat' v l w 3 255 h y (by omega) (by omega) (by omega) hl).mono (fun e w' ⟨j, he, hj, hb⟩ => ⟨j, he, by omega, hb⟩)
theorem own_gt {w : World} {base g cap n : Nat} {l : List Nat} (h : Own w base (.slice (some ⟨g, 0, none⟩) n cap) l) (hn : l.length = n) (k : Nat) (hk : k < n) : w.cell? ⟨g, k, none⟩ = some (.int .u8 (gt l k : Nat)) := by
  rw [gt_eq l k (by omega)]
  exact h.cell hn k (by omega)
theorem idx_s0 (g n c j : Nat) (hj : j < n) (w : World) : (Instr.indexAt 22 (.slice (some ⟨g, 0, none⟩) n c) (.int .i64 (j : Int))).run Try.prog w = .ok (.pointer (some ⟨g, j, none⟩)) w := by
  have hs : ∀ w : World, (sizeOf (Try.prog.elem 22)).run Try.prog w = .ok 1 w := fun _ => by kernel_rfl
  rw [run_indexAt_slice (P := Try.prog) w 22 _ n c .i64 (j : Int) (by kernel_rfl)]
  simp [hs, hj, Result.andThen, Addr.add_lit]
theorem wrap_a (t : Nat) (ht : t < 255) : IntKind.i64.wrap (1 + (t : Int)) = 1 + (t : Int) := by
  rw [IntKind.wrap_i64]; omega
theorem wrap_b (t : Nat) (ht : t < 255) : IntKind.u8.wrap (1 + (t : Int)) = 1 + (t : Int) := by
  rw [IntKind.wrap_u8]; omega
theorem set_byt (l : List Nat) (h : Byt l) (i x : Nat) (hx : x < 256) : Byt (l.set i x) := by
  intro u hu
  rcases List.mem_or_eq_of_mem_set hu with q | q
  · exact h u q
  · omega
theorem same_one (a b : List Nat) (ha : Byt a) (hb : Byt b) (h : sameS a b = true) : a = b := by
  unfold sameS strOf at h
  rw [Go.Lib.strOfNums_toList, Go.Lib.strOfNums_toList, beq_iff_eq] at h
  unfold Go.Lib.bytesOf at h
  rw [List.map_map, List.map_map] at h
  have e : a.length = b.length := by simpa using congrArg List.length h
  apply List.ext_getElem e
  intro i h1 h2
  have q := congrArg (fun t => t[i]?) h
  simp only [List.getElem?_map, List.getElem?_eq_getElem h1, List.getElem?_eq_getElem h2, Option.map_some, Option.some.injEq, Function.comp, Int.toNat_natCast] at q
  have r := congrArg UInt8.toNat q
  simp only [UInt8.toNat_ofNat'] at r
  have x1 := ha.at i h1
  have x2 := hb.at i h2
  omega
theorem enc_other (k d : List Nat) (j x : Nat) (yk : Byt k) (yd : Byt d) (hd : d.length = 16) (hne : d.set j x ≠ d) (hx : x < 256) : sameS (enc (kf k) (d.set j x)) (enc (kf k) d) = false := by
  have ys := set_byt d yd j x hx
  have F := kf_lt k yk
  cases q : sameS (enc (kf k) (d.set j x)) (enc (kf k) d) with
  | false => rfl
  | true => exact absurd (enc_one _ F _ _ (by rw [List.length_set]; exact hd) hd ys yd (same_one _ _ (stt_byt _ F _ ys 10) (stt_byt _ F _ yd 10) q)) hne

set_option maxHeartbeats 8000000 in
set_option maxRecDepth 100000 in
theorem law_ciph (v : Value) (l : List Nat) (w : World) (h : Rd w v l) (y : Byt l) :
    Calls Try.prog 7 #[v] w fun e w' => e = .returned (.bool true) ∧ Below w.heap.size w w' := by
  have H := hid h
  obtain ⟨q, cap, rfl, _, _, _⟩ := h.parts
  clear h
  by_cases hl : l.length ≤ 1048576
  · go_enter Try.func7, Try.ntmps7
    go_wp2_with (go_at_call 8; go_in)
    refine (drawEnc _ l _ H.out y hl).mono ?_
    rintro e w1 ⟨gk, ck, gd, cd, k, d, rfl, hk, hd, yk, yd, OK, OD, hBel⟩
    have RC := H.out.below hBel
    have RK := OK.rd
    have RD := OD.rd
    clear H hk hd OK OD
    obtain ⟨nk, hnk⟩ : ∃ n, n = k.length := ⟨_, rfl⟩
    obtain ⟨nd, hnd⟩ : ∃ n, n = d.length := ⟨_, rfl⟩
    rw [← hnk] at RK ⊢
    rw [← hnd] at RD ⊢
    have Hk := hid hnk
    have Hd := hid hnd
    clear hnk hnd
    go_wp2_with fail
    refine (ienc _ _ k d _ RK RD yk yd).mono ?_
    rintro e w2 ⟨vr, rfl, OE, hB⟩
    have RE := OE.rd
    obtain ⟨pE, cE, rfl, -, -, -⟩ := RE.parts
    replace RC := RC.below hB
    replace RK := RK.below hB
    replace RD := RD.below hB
    replace hBel := hBel.trans (hB.mono hBel.size)
    clear hB OE
    obtain ⟨B, hb⟩ : ∃ B, B = encB k d := ⟨_, rfl⟩
    obtain ⟨c, hc⟩ : ∃ c, c = encC k d := ⟨_, rfl⟩
    obtain ⟨m, hm⟩ : ∃ m, m = B.length := ⟨_, rfl⟩
    rw [← hb] at RE ⊢
    rw [← hc]
    rw [← hm] at RE ⊢
    have Hb := hid hb
    have Hc := hid hc
    have Hm := hid hm
    clear hb hc hm
    go_wp2_with fail
    have VE := heap_alloc_new w2 (.cells #[.int .i64 c, .slice pE m cE] 33)
    have hA := below_alloc1 w2 (.cells #[.int .i64 c, .slice pE m cE] 33)
    replace RC := hid (RC.below hA)
    replace RK := hid (RK.below hA)
    replace RD := hid (RD.below hA)
    replace RE := hid (RE.below hA)
    replace hBel := hid (hBel.trans (hA.mono hBel.size))
    clear hA
    generalize w2.alloc (.cells #[.int .i64 c, .slice pE m cE] 33) = wz at *
    generalize w2.heap.size = ge at *
    obtain ⟨a0, a1, -, -⟩ := var2_facts VE
    have HVE := hid VE
    have C1 := hid (fun (wq : World) (hb : Below wz.heap.size wz wq) => (senc _ _ k d wq (RK.out.below hb) (RD.out.below hb) yk yd).mono (R' := fun e w' => ∃ (p : Option Addr) (cc : Nat), e = .returned (.agg #[.int .i64 c, .slice p m cc]) ∧ Rd w' (.slice p m cc) B ∧ Below wq.heap.size wq w') (fun e w' ⟨r, he, ho, hb⟩ => by
      have q := ho.rd
      rw [← Hb.out] at q
      obtain ⟨p, cc, rfl, -, -, -⟩ := q.parts
      rw [← Hc.out] at he
      rw [← Hm.out] at he q
      exact ⟨p, cc, he, q, hb⟩))
    have C3 := hid (fun (t : List Nat) (wq : World) (va vb : Value) (ha : Rd wq va t) (hb : Rd wq vb t) => (lwsame va vb t t wq ha hb).mono (R' := fun e w' => e = .returned (.bool true) ∧ Below wq.heap.size wq w') (fun e w' ⟨he, hw⟩ => by
      rw [sam_self] at he
      exact ⟨he, by rw [hw]; exact Below.refl _ _⟩))
    have tc : (c != c) = false := by simp
    have hf0 : ∀ (x : Int) (p : Option Addr) (m cc : Nat) (w : World), (Instr.field 33 (.agg #[.int .i64 x, .slice p m cc]) 0).run Try.prog w = .ok (.int .i64 x) w := fun _ _ _ _ _ => by kernel_rfl
    have hf1 : ∀ (x : Int) (p : Option Addr) (m cc : Nat) (w : World), (Instr.field 33 (.agg #[.int .i64 x, .slice p m cc]) 1).run Try.prog w = .ok (.slice p m cc) w := fun _ _ _ _ _ => by kernel_rfl
    clear VE
    go_region_held3 (fun w' => Below wz.heap.size wz w' ∧ w'.cell? ⟨ge, 0, none⟩ = some (.int .i64 c) ∧ w'.cell? ⟨ge, 1, none⟩ = some (.slice pE m cE))
      (first | exact ⟨(Below.refl _ _).drew, a0, a1⟩ | exact ⟨Below.refl _ _, a0, a1⟩ | exact keepE ‹_ ∧ _ ∧ _› hz)
      (first | (go_at_call 46; refine (C1.out _ ?_).mono ?_; exact (‹Below wz.heap.size wz _ ∧ _›).1; rintro e wq ⟨pq, cq, rfl, hq, hz⟩) | (go_at_call 28; refine (C3.out _ _ _ _ ?_ hq).mono ?_; exact RE.out.below (‹Below wz.heap.size wz _ ∧ _›).1; rintro e wx ⟨rfl, hz⟩))
    obtain ⟨hB, e0, e1⟩ := ‹Below wz.heap.size wz wx ∧ _›
    replace RC := hid (RC.out.below hB)
    replace RK := hid (RK.out.below hB)
    replace RD := hid (RD.out.below hB)
    replace RE := hid (RE.out.below hB)
    replace HVE := hid (var_below hB HVE.out)
    replace hBel := hid (hBel.out.trans (hB.mono hBel.out.size))
    clear hB a0 a1 C1 C3 hz hq tc
    by_cases h16 : k.length = 16 ∧ d.length = 16
    · have hc0 : c = 0 := by rw [Hc.out, encC, if_pos h16]
      subst hc0
      have EB : B = enc (kf k) d := by rw [Hb.out, encB, if_pos h16]
      have hm16 : m = 16 := by rw [Hm.out, EB]; exact stt_len _ d h16.2 10
      have hnk : nk = 16 := Hk.out.trans h16.1
      have hnd : nd = 16 := Hd.out.trans h16.2
      subst hm16
      subst hnk
      subst hnd
      replace h16 := h16.2
      subst EB
      clear Hb Hc Hm
      obtain ⟨i0, hi, hz0, hz1, hz2⟩ := info_parts info8
      have hO0 := own_lit0 wx
      go_wp2_with (at_builtin; refine wpList_append_own _ rfl _ _ _ rfl wx.heap.size 5 i0 (.int .u8 0) 1 1 Try.underlying22 hi hz0 hz1 hz2 rfl (by omega) _ _ _ rfl hO0 ⟨gd, 0, none⟩ 16 cd (d.map bv) rfl (by simp [h16]) ?_ ?_ ?_ ?_ ?_ ?_)
      · intro j u hj
        have hj' : j < d.length := by
          rcases Nat.lt_or_ge j d.length with q | q
          · exact q
          · rw [List.getElem?_eq_none (by simpa using q)] at hj; cases hj
        have q := RD.out.cells j hj'
        rw [gt_eq d j hj'] at q
        rw [List.getElem?_map, List.getElem?_eq_getElem hj'] at hj
        cases hj
        rw [Addr.add_lit]
        exact cell_alloc q _
      · intro u hu
        obtain ⟨x, _, rfl⟩ := List.mem_map.1 hu
        rfl
      · unfold maxLen; simp
      · simp
      · simp
      intro v' w6 hown1 hgrow1 _
      have hO1 : Own w6 wx.heap.size v' d := by
        unfold Own
        rw [h16]
        simpa using hown1
      have FW : Hid (Below wx.heap.size wx w6) := (below_alloc1 wx _).grown hgrow1 (by simp) (fun x e => by simp [Value.ownBlock] at e; omega)
      obtain ⟨go, co, rfl, hgo, -⟩ := own_at hO1 h16 (by omega)
      have FO := hid hO1
      clear hown1 hgrow1 hO0 hO1 e0 e1 RD Hd hi hz0 hz1 hz2
      go_wp2_with fail
    -- REGION 10
      refine wp_region_held_drew (S := fun _ => True) (by kernel_rfl) trivial (fun hH => ?_)
      replace FO := hid (FO.out.below (Below.refl _ _).drew)
      replace FW := hid FW.out.drew
      generalize w6.drew = x1 at *
      refine wpAnyH_take (i := 0) (v := .slice (some ⟨go, 0, none⟩) 16 co) (by simp only [List.getElem?_toArray, List.getElem?_cons_zero]; rfl) (by kernel_rfl) (by kernel_rfl) (by kernel_rfl) (by intro _ _ _ h; exact h) (Or.inl ⟨by rfl, fun w _ => by go_simp⟩) hH ?_
      try simp only [Act.put, List.setIfInBounds_toArray, List.set_cons_zero, List.set_cons_succ]
      refine wpAnyH_take (i := 1) (v := .slice q l.length cap) (by simp only [List.getElem?_toArray, List.getElem?_cons_succ, List.getElem?_cons_zero]; rfl) (by kernel_rfl) (by kernel_rfl) (by kernel_rfl) (by intro _ _ _ h; exact h) (Or.inl ⟨by rfl, fun w _ => by go_simp⟩) hH ?_
      try simp only [Act.put, List.setIfInBounds_toArray, List.set_cons_zero, List.set_cons_succ]
      refine wpAnyH_take (i := 5) (v := .slice q l.length cap) (by simp only [List.getElem?_toArray, List.getElem?_cons_succ, List.getElem?_cons_zero]; rfl) (by kernel_rfl) (by kernel_rfl) (by kernel_rfl) (by intro _ _ _ h; exact h) (Or.inl ⟨by rfl, fun w _ => by go_simp⟩) hH ?_
      try simp only [Act.put, List.setIfInBounds_toArray, List.set_cons_zero, List.set_cons_succ]
      refine wpAnyH_ready (rs := [2]) (by kernel_rfl) (by simp) ?_
      refine AllReadyH.cons (by simp only [List.getElem?_toArray, List.getElem?_cons_succ, List.getElem?_cons_zero]; rfl) (fun K hK => ?_) AllReadyH.nil
      go_simp
      refine (at2 _ l _ (RC.out.below FW.out) y hl).mono ?_
      rintro e x2 ⟨j, rfl, hj, hM⟩
      refine hK.out _ _ trivial (fun hH => ?_)
      clear hK K
      try simp only [Act.put, List.setIfInBounds_toArray, List.set_cons_zero, List.set_cons_succ]
      replace FO := hid (FO.out.below hM)
      replace FW := hid (FW.out.trans (hM.mono FW.out.size))
      clear hM
      have I1 := idx_s0 go 16 co j hj
      obtain ⟨z, hz⟩ : ∃ z, z = gt d j := ⟨_, rfl⟩
      have z1 : z < 256 := by rw [hz]; exact gt_byt d yd j
      have Hz := hid hz
      clear hz
      have j0 : (0 : Int) ≤ (j : Int) := by omega
      have j1 : (j : Int) < 16 := by omega
      refine wpAnyH_take (i := 3) (v := .pointer (some ⟨go, j, none⟩)) (by simp only [List.getElem?_toArray, List.getElem?_cons_succ, List.getElem?_cons_zero]; rfl) (by kernel_rfl) (by kernel_rfl) (by kernel_rfl) (by intro _ _ _ h; exact h) (Or.inl ⟨by rfl, fun w _ => by go_simp⟩) hH ?_
      try simp only [Act.put, List.setIfInBounds_toArray, List.set_cons_zero, List.set_cons_succ]
      refine wpAnyH_ready (rs := [4, 6]) (by kernel_rfl) (by simp) ?_
      refine AllReadyH.cons (by simp only [List.getElem?_toArray, List.getElem?_cons_succ, List.getElem?_cons_zero]; rfl) (fun K hK => ?_) ?_
      · skip
        have c1 := own_gt FO.out h16 j hj
        rw [← Hz.out] at c1
        go_simp
        refine hK.out _ _ trivial (fun hH => ?_)
        clear hK K
        try simp only [Act.put, List.setIfInBounds_toArray, List.set_cons_zero, List.set_cons_succ]
        clear c1
        refine wpAnyH_ready (rs := [6]) (by kernel_rfl) (by simp) ?_
        refine AllReadyH.cons (by simp only [List.getElem?_toArray, List.getElem?_cons_succ, List.getElem?_cons_zero]; rfl) (fun K hK => ?_) AllReadyH.nil
        go_simp
        refine (at3 _ l _ (RC.out.below FW.out) y hl).mono ?_
        rintro e x3 ⟨t, rfl, ht, hM⟩
        refine hK.out _ _ trivial (fun hH => ?_)
        clear hK K
        try simp only [Act.put, List.setIfInBounds_toArray, List.set_cons_zero, List.set_cons_succ]
        replace FO := hid (FO.out.below hM)
        replace FW := hid (FW.out.trans (hM.mono FW.out.size))
        clear hM
        have E := xor8' z (1 + t) z1 (by omega)
        rw [show ((1 + t : Nat) : Int) = 1 + (t : Int) from rfl] at E
        have t0 : (0 : Int) ≤ (t : Int) := by omega
        have W1 := wrap_a t ht
        have W2 := wrap_b t ht
        refine wpAnyH_take (i := 7) (v := .int .i64 (1 + (t : Int))) (by simp only [List.getElem?_toArray, List.getElem?_cons_succ, List.getElem?_cons_zero]; rfl) (by kernel_rfl) (by kernel_rfl) (by kernel_rfl) (by intro _ _ _ h; exact h) (Or.inl ⟨by rfl, fun w _ => by go_simp⟩) hH ?_
        try simp only [Act.put, List.setIfInBounds_toArray, List.set_cons_zero, List.set_cons_succ]
        refine wpAnyH_take (i := 8) (v := .int .u8 (1 + (t : Int))) (by simp only [List.getElem?_toArray, List.getElem?_cons_succ, List.getElem?_cons_zero]; rfl) (by kernel_rfl) (by kernel_rfl) (by kernel_rfl) (by intro _ _ _ h; exact h) (Or.inl ⟨by rfl, fun w _ => by go_simp⟩) hH ?_
        try simp only [Act.put, List.setIfInBounds_toArray, List.set_cons_zero, List.set_cons_succ]
        refine wpAnyH_take (i := 9) (v := .int .u8 ((z ^^^ (1 + t) : Nat) : Int)) (by simp only [List.getElem?_toArray, List.getElem?_cons_succ, List.getElem?_cons_zero]; rfl) (by kernel_rfl) (by kernel_rfl) (by kernel_rfl) (by intro _ _ _ h; exact h) (Or.inl ⟨by rfl, fun w _ => by go_simp⟩) hH ?_
        try simp only [Act.put, List.setIfInBounds_toArray, List.set_cons_zero, List.set_cons_succ]
        refine wpAnyH_take (i := 10) (v := .pointer (some ⟨go, j, none⟩)) (by simp only [List.getElem?_toArray, List.getElem?_cons_succ, List.getElem?_cons_zero]; rfl) (by kernel_rfl) (by kernel_rfl) (by kernel_rfl) (by intro _ _ _ h; exact h) (Or.inl ⟨by rfl, fun w _ => by go_simp⟩) hH ?_
        try simp only [Act.put, List.setIfInBounds_toArray, List.set_cons_zero, List.set_cons_succ]
        refine wpAnyH_ready (rs := [11]) (by kernel_rfl) (by simp) ?_
        refine AllReadyH.cons (by simp only [List.getElem?_toArray, List.getElem?_cons_succ, List.getElem?_cons_zero]; rfl) (fun K hK => ?_) AllReadyH.nil
        have c1 := own_gt FO.out h16 j hj
        have c2 := FO.out.open h16 j
        have ST := hid (FO.out.stored h16 j (z ^^^ (1 + t))).1
        have SW := hid (FW.out.setCell (p := ⟨go, j, none⟩) hgo (.int .u8 ((z ^^^ (1 + t) : Nat) : Int)))
        unfold bv at ST
        go_simp
        refine hK.out _ _ trivial (fun hH => ?_)
        clear hK K
        try simp only [Act.put, List.setIfInBounds_toArray, List.set_cons_zero, List.set_cons_succ]
        clear c1 c2 FO FW E W1 W2
        generalize x3.setCell ⟨go, j, none⟩ (.int .u8 ((z ^^^ (1 + t) : Nat) : Int)) = x9 at *
        refine wpAnyH_done (by kernel_rfl) ?_ _
        have NE := hid (enc_other k d j (z ^^^ (1 + t)) yk yd h16 (by rw [Hz.out]; exact turned_ne d j (1 + t) (by omega) (by omega)) (xor_lt _ _ z1 (by omega)))
        clear Hz
        have RO := hid ST.out.rd
        have LO := hid (show (d.set j (z ^^^ (1 + t))).length = 16 by rw [List.length_set]; exact h16)
        have YO := hid (set_byt d yd j (z ^^^ (1 + t)) (xor_lt _ _ z1 (by omega)))
        clear ST z1
        generalize d.set j (z ^^^ (1 + t)) = d' at *
        have RK9 := hid (RK.out.below SW.out)
        have RE9 := hid (RE.out.below SW.out)
        have HB9 := hid (hBel.out.trans (SW.out.mono hBel.out.size))
        obtain ⟨b0, b1, -, -⟩ := var2_facts (var_below SW.out HVE.out)
        have C1 := hid (fun (wq : World) (hb : Below x9.heap.size x9 wq) => (ienc_ok _ _ k d' wq (RK9.out.below hb) (RO.out.below hb) yk YO.out Hk.out.symm LO.out).mono (R' := fun e w' => ∃ (p : Option Addr) (cc : Nat), e = .returned (.agg #[.int .i64 0, .slice p 16 cc]) ∧ Rd w' (.slice p 16 cc) (enc (kf k) d') ∧ Below wq.heap.size wq w') (fun e w' ⟨r, he, ho, hb⟩ => by
          have q := ho.rd
          obtain ⟨p, cc, rfl, -, -, -⟩ := q.parts
          rw [show (enc (kf k) d').length = 16 from stt_len _ d' LO.out 10] at he q
          exact ⟨p, cc, he, q, hb⟩))
        have C3 := hid (fun (wq : World) (va vb : Value) (ha : Rd wq va (enc (kf k) d')) (hb : Rd wq vb (enc (kf k) d)) => (lwsame va vb _ _ wq ha hb).mono (R' := fun e w' => e = .returned (.bool false) ∧ Below wq.heap.size wq w') (fun e w' ⟨he, hw⟩ => by
          rw [NE.out] at he
          exact ⟨he, by rw [hw]; exact Below.refl _ _⟩))
        clear NE SW hH
        go_wp2_with fail
        go_region_held3 (fun w' => Below x9.heap.size x9 w' ∧ w'.cell? ⟨ge, 0, none⟩ = some (.int .i64 0) ∧ w'.cell? ⟨ge, 1, none⟩ = some (.slice pE 16 cE))
          (first | exact ⟨(Below.refl _ _).drew, b0, b1⟩ | exact ⟨Below.refl _ _, b0, b1⟩ | exact keepE ‹_ ∧ _ ∧ _› hz)
          (first | (go_at_call 45; refine (C1.out _ ?_).mono ?_; exact (‹Below x9.heap.size x9 _ ∧ _›).1; rintro e wq ⟨pq, cq, rfl, hq, hz⟩) | (go_at_call 28; refine (C3.out _ _ _ hq ?_).mono ?_; exact RE9.out.below (‹Below x9.heap.size x9 _ ∧ _›).1; rintro e wx ⟨rfl, hz⟩))
        have hS := ‹Below x9.heap.size x9 _ ∧ _›
        have HF := hid (HB9.out.trans (hS.1.mono HB9.out.size))
        clear hS
        go_wp2
        go_ret
        exact ⟨rfl, HF.out⟩
      refine AllReadyH.cons (by simp only [List.getElem?_toArray, List.getElem?_cons_succ, List.getElem?_cons_zero]; rfl) (fun K hK => ?_) AllReadyH.nil
      go_simp
      refine (at3 _ l _ (RC.out.below FW.out) y hl).mono ?_
      rintro e x3 ⟨t, rfl, ht, hM⟩
      refine hK.out _ _ trivial (fun hH => ?_)
      clear hK K
      try simp only [Act.put, List.setIfInBounds_toArray, List.set_cons_zero, List.set_cons_succ]
      replace FO := hid (FO.out.below hM)
      replace FW := hid (FW.out.trans (hM.mono FW.out.size))
      clear hM
      have E := xor8' z (1 + t) z1 (by omega)
      rw [show ((1 + t : Nat) : Int) = 1 + (t : Int) from rfl] at E
      have t0 : (0 : Int) ≤ (t : Int) := by omega
      have W1 := wrap_a t ht
      have W2 := wrap_b t ht
      refine wpAnyH_take (i := 7) (v := .int .i64 (1 + (t : Int))) (by simp only [List.getElem?_toArray, List.getElem?_cons_succ, List.getElem?_cons_zero]; rfl) (by kernel_rfl) (by kernel_rfl) (by kernel_rfl) (by intro _ _ _ h; exact h) (Or.inl ⟨by rfl, fun w _ => by go_simp⟩) hH ?_
      try simp only [Act.put, List.setIfInBounds_toArray, List.set_cons_zero, List.set_cons_succ]
      refine wpAnyH_take (i := 8) (v := .int .u8 (1 + (t : Int))) (by simp only [List.getElem?_toArray, List.getElem?_cons_succ, List.getElem?_cons_zero]; rfl) (by kernel_rfl) (by kernel_rfl) (by kernel_rfl) (by intro _ _ _ h; exact h) (Or.inl ⟨by rfl, fun w _ => by go_simp⟩) hH ?_
      try simp only [Act.put, List.setIfInBounds_toArray, List.set_cons_zero, List.set_cons_succ]
      refine wpAnyH_ready (rs := [4]) (by kernel_rfl) (by simp) ?_
      refine AllReadyH.cons (by simp only [List.getElem?_toArray, List.getElem?_cons_succ, List.getElem?_cons_zero]; rfl) (fun K hK => ?_) AllReadyH.nil
      have c1 := own_gt FO.out h16 j hj
      rw [← Hz.out] at c1
      go_simp
      refine hK.out _ _ trivial (fun hH => ?_)
      clear hK K
      try simp only [Act.put, List.setIfInBounds_toArray, List.set_cons_zero, List.set_cons_succ]
      clear c1
      refine wpAnyH_take (i := 9) (v := .int .u8 ((z ^^^ (1 + t) : Nat) : Int)) (by simp only [List.getElem?_toArray, List.getElem?_cons_succ, List.getElem?_cons_zero]; rfl) (by kernel_rfl) (by kernel_rfl) (by kernel_rfl) (by intro _ _ _ h; exact h) (Or.inl ⟨by rfl, fun w _ => by go_simp⟩) hH ?_
      try simp only [Act.put, List.setIfInBounds_toArray, List.set_cons_zero, List.set_cons_succ]
      refine wpAnyH_take (i := 10) (v := .pointer (some ⟨go, j, none⟩)) (by simp only [List.getElem?_toArray, List.getElem?_cons_succ, List.getElem?_cons_zero]; rfl) (by kernel_rfl) (by kernel_rfl) (by kernel_rfl) (by intro _ _ _ h; exact h) (Or.inl ⟨by rfl, fun w _ => by go_simp⟩) hH ?_
      try simp only [Act.put, List.setIfInBounds_toArray, List.set_cons_zero, List.set_cons_succ]
      refine wpAnyH_ready (rs := [11]) (by kernel_rfl) (by simp) ?_
      refine AllReadyH.cons (by simp only [List.getElem?_toArray, List.getElem?_cons_succ, List.getElem?_cons_zero]; rfl) (fun K hK => ?_) AllReadyH.nil
      have c1 := own_gt FO.out h16 j hj
      have c2 := FO.out.open h16 j
      have ST := hid (FO.out.stored h16 j (z ^^^ (1 + t))).1
      have SW := hid (FW.out.setCell (p := ⟨go, j, none⟩) hgo (.int .u8 ((z ^^^ (1 + t) : Nat) : Int)))
      unfold bv at ST
      go_simp
      refine hK.out _ _ trivial (fun hH => ?_)
      clear hK K
      try simp only [Act.put, List.setIfInBounds_toArray, List.set_cons_zero, List.set_cons_succ]
      clear c1 c2 FO FW E W1 W2
      generalize x3.setCell ⟨go, j, none⟩ (.int .u8 ((z ^^^ (1 + t) : Nat) : Int)) = x9 at *
      refine wpAnyH_done (by kernel_rfl) ?_ _
      have NE := hid (enc_other k d j (z ^^^ (1 + t)) yk yd h16 (by rw [Hz.out]; exact turned_ne d j (1 + t) (by omega) (by omega)) (xor_lt _ _ z1 (by omega)))
      clear Hz
      have RO := hid ST.out.rd
      have LO := hid (show (d.set j (z ^^^ (1 + t))).length = 16 by rw [List.length_set]; exact h16)
      have YO := hid (set_byt d yd j (z ^^^ (1 + t)) (xor_lt _ _ z1 (by omega)))
      clear ST z1
      generalize d.set j (z ^^^ (1 + t)) = d' at *
      have RK9 := hid (RK.out.below SW.out)
      have RE9 := hid (RE.out.below SW.out)
      have HB9 := hid (hBel.out.trans (SW.out.mono hBel.out.size))
      obtain ⟨b0, b1, -, -⟩ := var2_facts (var_below SW.out HVE.out)
      have C1 := hid (fun (wq : World) (hb : Below x9.heap.size x9 wq) => (ienc_ok _ _ k d' wq (RK9.out.below hb) (RO.out.below hb) yk YO.out Hk.out.symm LO.out).mono (R' := fun e w' => ∃ (p : Option Addr) (cc : Nat), e = .returned (.agg #[.int .i64 0, .slice p 16 cc]) ∧ Rd w' (.slice p 16 cc) (enc (kf k) d') ∧ Below wq.heap.size wq w') (fun e w' ⟨r, he, ho, hb⟩ => by
        have q := ho.rd
        obtain ⟨p, cc, rfl, -, -, -⟩ := q.parts
        rw [show (enc (kf k) d').length = 16 from stt_len _ d' LO.out 10] at he q
        exact ⟨p, cc, he, q, hb⟩))
      have C3 := hid (fun (wq : World) (va vb : Value) (ha : Rd wq va (enc (kf k) d')) (hb : Rd wq vb (enc (kf k) d)) => (lwsame va vb _ _ wq ha hb).mono (R' := fun e w' => e = .returned (.bool false) ∧ Below wq.heap.size wq w') (fun e w' ⟨he, hw⟩ => by
        rw [NE.out] at he
        exact ⟨he, by rw [hw]; exact Below.refl _ _⟩))
      clear NE SW hH
      go_wp2_with fail
      go_region_held3 (fun w' => Below x9.heap.size x9 w' ∧ w'.cell? ⟨ge, 0, none⟩ = some (.int .i64 0) ∧ w'.cell? ⟨ge, 1, none⟩ = some (.slice pE 16 cE))
        (first | exact ⟨(Below.refl _ _).drew, b0, b1⟩ | exact ⟨Below.refl _ _, b0, b1⟩ | exact keepE ‹_ ∧ _ ∧ _› hz)
        (first | (go_at_call 45; refine (C1.out _ ?_).mono ?_; exact (‹Below x9.heap.size x9 _ ∧ _›).1; rintro e wq ⟨pq, cq, rfl, hq, hz⟩) | (go_at_call 28; refine (C3.out _ _ _ hq ?_).mono ?_; exact RE9.out.below (‹Below x9.heap.size x9 _ ∧ _›).1; rintro e wx ⟨rfl, hz⟩))
      have hS := ‹Below x9.heap.size x9 _ ∧ _›
      have HF := hid (HB9.out.trans (hS.1.mono HB9.out.size))
      clear hS
      go_wp2
      go_ret
      exact ⟨rfl, HF.out⟩
    -- END 10
    · have hc2 : c = 2 := by rw [Hc.out, encC, if_neg h16]
      subst hc2
      go_wp2
      go_ret
      exact ⟨rfl, hBel.out⟩
  · go_enter Try.func7, Try.ntmps7
    go_wp2_with (go_at_call 8; go_in)
    go_ret
    exact ⟨rfl, Below.refl _ _⟩
end Go.Proofs.Ytaopocjagikacaa.W
