/-
  What is drawn for the law of seals: what is to be opened.
-/
import Derived.Test.YtckgjghpfjinfabDrawSl
import Derived.Test.YtckgjghpfjinfabSrcL
import Derived.Test.YtckgjghpfjinfabSslWalks
import Derived.OwnWalk
import Derived.Deep.RegionHeld3
import Derived.Deep.AppendLies
namespace Go.Proofs.Ytckgjghpfjinfab.W
open Go.ChangeShapes Go.WideShapes Go.ChangeAt Go.RowKit
open Go.Proofs.Ytckgjghpfjinfab.M

theorem idx_o0 (g n c j : Nat) (hj : j < n) (w : World) : (Instr.indexAt 22 (.slice (some ⟨g, 0, none⟩) n c) (.int .i64 (j : Int))).run Try.prog w = .ok (.pointer (some ⟨g, j, none⟩)) w := by
  have hs : ∀ w : World, (sizeOf (Try.prog.elem 22)).run Try.prog w = .ok 1 w := fun _ => by kernel_rfl
  rw [run_indexAt_slice (P := Try.prog) w 22 _ n c .i64 (j : Int) (by kernel_rfl)]
  simp [hs, hj, Result.andThen, Addr.add_lit]
theorem own_slot' {w : World} {base n : Nat} {v : Value} {l : List Nat} (h : Own w base v l) (hn : l.length = n) (h0 : 0 < n) : ∃ g cap, v = .slice (some ⟨g, 0, none⟩) n cap ∧ base ≤ g ∧ n ≤ cap := by
  unfold Own at h
  rw [hn] at h
  rcases h.2 with ⟨-, e⟩ | ⟨g, cap, cur, e, hb, -, hc, -⟩
  · omega
  · exact ⟨g, cap, e, hb, hc⟩
theorem upto_o0 (b n c k : Nat) (hk : k ≤ c) (w : World) :
    (Instr.slice 22 (.slice (some ⟨b, 0, none⟩) n c) none (some (.int .i64 (k : Int))) none).run Try.prog w = .ok (.slice (some ⟨b, 0, none⟩) k c) w := by
  have hs : ∀ w : World, (sizeOf (Try.prog.elem 22)).run Try.prog w = .ok 1 w := fun _ => by kernel_rfl
  have h := run_slice_h (P := Try.prog) (t := 22) (a := some ⟨b, 0, none⟩) (len := n) (cap := c) (w := w) (by kernel_rfl) .i64 (k : Int) (by omega) (by omega)
  rw [h, hs]
  simp [Result.andThen, sliced, Addr.add]
theorem rd_first {w : World} {a : Option Addr} {n c : Nat} {l : List Nat} (h : Rd w (.slice a n c) l) (k : Nat) (hk : k ≤ l.length) : Rd w (.slice a k c) (l.take k) := by
  obtain ⟨a', c', e, h1, h2, hc⟩ := h
  have hl : (l.take k).length = k := by rw [List.length_take]; omega
  cases e
  refine ⟨a, c, by rw [hl], by omega, h2, fun i hi => ?_⟩
  rw [hl] at hi
  obtain ⟨b, o, e', hcc⟩ := hc i (by omega)
  refine ⟨b, o, e', ?_⟩
  rw [hcc, List.getElem_take]
theorem own_far {g g' n c : Nat} (h : g ≠ g') : (Value.slice (some ⟨g, 0, none⟩) n c).ownBlock ≠ some g' := fun e => h (by simpa [Value.ownBlock] using e)
theorem own_o {w : World} {base g cap n : Nat} {l : List Nat} (h : Own w base (.slice (some ⟨g, 0, none⟩) n cap) l) (hn : l.length = n) (k : Nat) (hk : k < n) : w.cell? ⟨g, k, none⟩ = some (.int .u8 (gt l k : Nat)) := by
  rw [gt_eq l k (by omega)]
  exact h.cell hn k (by omega)
theorem wrap_1 (t : Nat) (ht : t < 255) : IntKind.i64.wrap (1 + (t : Int)) = 1 + (t : Int) := by
  rw [IntKind.wrap_i64]; omega
theorem wrap_2 (t : Nat) (ht : t < 255) : IntKind.u8.wrap (1 + (t : Int)) = 1 + (t : Int) := by
  rw [IntKind.wrap_u8]; omega
theorem set_byt' (l : List Nat) (h : Byt l) (i x : Nat) (hx : x < 256) : Byt (l.set i x) := by
  intro u hu
  rcases List.mem_or_eq_of_mem_set hu with q | q
  · exact h u q
  · omega
set_option maxHeartbeats 8000000 in
set_option maxRecDepth 100000 in
theorem drawOp (v : Value) (l : List Nat) (w : World) (h : Rd w v l) (y : Byt l) (hl : l.length ≤ 1048576) :
    Calls Try.prog 19 #[v] w fun e w' => ∃ (v1 v2 v3 v4 : Value) (k n x s : List Nat), e = .returned (.tuple #[v1, v2, v3, v4]) ∧ s.length ≤ 700 ∧ Byt k ∧ Byt n ∧ Byt x ∧ Byt s ∧ Rd w' v1 k ∧ Rd w' v2 n ∧ Rd w' v3 x ∧ Rd w' v4 s ∧ Below w.heap.size w w' := by
  have H := hid h
  obtain ⟨a, cap, rfl, _, _, _⟩ := h.parts
  clear h
  go_enter Try.func19, Try.ntmps19
  go_wp2_with fail
  refine (laterOn _ l 1 _ H.out y (by omega)).mono ?_
  rintro e w1 ⟨rfl, hS1⟩
  go_wp2_with fail
  refine (drawSl _ l _ (H.out.below hS1.bel) y hl).mono ?_
  rintro e w2 ⟨g1, c1, g2, c2, g3, c3, g4, c4, k, n, x, p, rfl, lk, ln, lx, lp, yk, yn, yx, yp, O1, O2, O3, O4, hB, n12, n13, n23⟩
  have S := hid (hS1.later hB)
  have HL := hid (var_lt hS1.cells)
  have HZ := hid hB.size
  clear hS1 hB H
  obtain ⟨nk, hnk⟩ : ∃ m, m = k.length := ⟨_, rfl⟩
  obtain ⟨nn, hnn⟩ : ∃ m, m = n.length := ⟨_, rfl⟩
  obtain ⟨nx, hnx⟩ : ∃ m, m = x.length := ⟨_, rfl⟩
  obtain ⟨np, hnp⟩ : ∃ m, m = p.length := ⟨_, rfl⟩
  rw [← hnk] at O1 ⊢
  rw [← hnn] at O2 ⊢
  rw [← hnx] at O3 ⊢
  rw [← hnp] at O4 ⊢
  rw [← hnk] at lk
  rw [← hnn] at ln
  rw [← hnx] at lx
  rw [← hnp] at lp
  replace O1 := hid O1
  replace O2 := hid O2
  replace O3 := hid O3
  replace O4 := hid O4
  replace hnk := hid hnk
  replace hnn := hid hnn
  replace hnx := hid hnx
  replace hnp := hid hnp
  by_cases h1 : nk = 16
  · subst h1
    by_cases h2 : nn = 12
    · subst h2
      by_cases h3 : nx ≤ 100
      · have t3 : (decide ((100 : Int) < (nx : Int))) = false := decide_eq_false (by omega)
        by_cases h4 : np ≤ 600
        · have t4 : (decide ((600 : Int) < (np : Int))) = false := decide_eq_false (by omega)
          go_wp2_with fail
          refine (l3seal _ _ _ _ k n x p _ O1.out.rd O2.out.rd O3.out.rd O4.out.rd yk yn yx yp hnk.out.symm hnn.out.symm (by rw [← hnx.out]; omega) (by rw [← hnp.out]; omega)).mono ?_
          rintro e w3 ⟨v5, rfl, O5, hB⟩
          have Q1 := O1
          have Q2 := O2
          have Q3 := O3
          replace O1 := hid (O1.out.below hB)
          replace O2 := hid (O2.out.below hB)
          replace O3 := hid (O3.out.below hB)
          replace S := hid (S.out.later hB)
          clear O4
          have ls : (sld (kf k) n x p).length = np + 16 := by rw [sld_len _ _ _ _ hnn.out.symm, ← hnp.out]
          have ys := hid (sld_byt (kf k) (kf_lt k yk) n x p yn yp)
          obtain ⟨g5, c5, rfl, hg5, hc5⟩ := own_slot' O5 ls (by omega)
          obtain ⟨s, hs⟩ : ∃ s, s = sld (kf k) n x p := ⟨_, rfl⟩
          rw [← hs] at O5 ls ys
          clear hs hB
          obtain ⟨ns, hns⟩ : ∃ m, m = np + 16 := ⟨_, rfl⟩
          rw [← hns] at O5 ls hc5 ⊢
          have lns : 16 ≤ ns ∧ ns ≤ 616 := by omega
          replace O5 := hid (O5.mono (base' := w1.heap.size) HZ.out)
          replace ls := hid ls
          clear hns t3 t4 h3 h4 HZ
          have N15 := hid (show g1 ≠ g5 by have h1 := World.ownsRow.lt Q1.out g1 rfl; omega)
          have N25 := hid (show g2 ≠ g5 by have h1 := World.ownsRow.lt Q2.out g2 rfl; omega)
          have N35 := hid (show g3 ≠ g5 by have h1 := World.ownsRow.lt Q3.out g3 rfl; omega)
          have N12 := hid n12
          have N13 := hid n13
          have N23 := hid n23
          clear Q1 Q2 Q3 n12 n13 n23
          have hg5' : w1.heap.size ≤ g5 := by have := O5.out.row (Nat.le_refl _) g5 rfl; exact this
          clear hg5
          go_wp2_with fail
          refine (next _ _ _ _ _ _ 7 S.out (by omega) (by omega) hl).mono ?_
          rintro e w4 ⟨r, rfl, hr, hS4, hG⟩
          obtain ⟨r0, r7⟩ := hr (by omega)
          obtain ⟨r, rfl⟩ : ∃ j : Nat, r = j := ⟨r.toNat, by omega⟩
          replace O1 := hid (Own.kept O1.out hG (Or.inr (Own.ne O1.out HL.out).symm))
          replace O2 := hid (Own.kept O2.out hG (Or.inr (Own.ne O2.out HL.out).symm))
          replace O3 := hid (Own.kept O3.out hG (Or.inr (Own.ne O3.out HL.out).symm))
          replace O5 := hid (Own.kept O5.out hG (Or.inr (Own.ne O5.out HL.out).symm))
          replace S := hid hS4
          clear hr r0 hG hS4
          obtain ⟨w4', rfl⟩ : ∃ w', w' = w4 := ⟨_, rfl⟩
          have hcase : r = 0 ∨ r = 1 ∨ r = 2 ∨ r = 3 ∨ r = 4 ∨ r = 5 ∨ r = 6 := by omega
          clear r7
          rcases hcase with rfl | rfl | rfl | rfl | rfl | rfl | rfl
          · skip
            have D1 := hid (show (Value.slice (some ⟨g1, 0, none⟩) 16 c1).ownBlock ≠ some g5 from own_far N15.out)
            have D2 := hid (show (Value.slice (some ⟨g2, 0, none⟩) 12 c2).ownBlock ≠ some g5 from own_far N25.out)
            have D3 := hid (show (Value.slice (some ⟨g3, 0, none⟩) nx c3).ownBlock ≠ some g5 from own_far N35.out)
            go_wp2_with fail
            refine wp_region_held_drew (S := fun _ => True) (by kernel_rfl) trivial (fun hH => ?_)
            replace O1 := hid (O1.out.below (Below.refl _ _).drew)
            replace O2 := hid (O2.out.below (Below.refl _ _).drew)
            replace O3 := hid (O3.out.below (Below.refl _ _).drew)
            replace O5 := hid (O5.out.below (Below.refl _ _).drew)
            replace S := hid (S.out.later (Below.refl _ _).drew)
            generalize w4'.drew = x1 at *
            refine wpAnyH_take (i := 0) (v := .slice (some ⟨g5, 0, none⟩) ns c5) (by simp only [List.getElem?_toArray, List.getElem?_cons_zero]; rfl) (by kernel_rfl) (by kernel_rfl) (by kernel_rfl) (by intro _ _ _ h; exact h) (Or.inl ⟨by rfl, fun w _ => by go_simp⟩) hH ?_
            try simp only [Act.put, List.setIfInBounds_toArray, List.set_cons_zero, List.set_cons_succ]
            refine wpAnyH_take (i := 1) (v := .pointer (some ⟨w.heap.size, 0, none⟩)) (by simp only [List.getElem?_toArray, List.getElem?_cons_succ, List.getElem?_cons_zero]; rfl) (by kernel_rfl) (by kernel_rfl) (by kernel_rfl) (by intro _ _ _ h; exact h) (Or.inl ⟨by rfl, fun w _ => by go_simp⟩) hH ?_
            try simp only [Act.put, List.setIfInBounds_toArray, List.set_cons_zero, List.set_cons_succ]
            refine wpAnyH_take (i := 2) (v := .slice (some ⟨g5, 0, none⟩) ns c5) (by simp only [List.getElem?_toArray, List.getElem?_cons_succ, List.getElem?_cons_zero]; rfl) (by kernel_rfl) (by kernel_rfl) (by kernel_rfl) (by intro _ _ _ h; exact h) (Or.inl ⟨by rfl, fun w _ => by go_simp⟩) hH ?_
            try simp only [Act.put, List.setIfInBounds_toArray, List.set_cons_zero, List.set_cons_succ]
            refine wpAnyH_take (i := 3) (v := .int .i64 (ns : Int)) (by simp only [List.getElem?_toArray, List.getElem?_cons_succ, List.getElem?_cons_zero]; rfl) (by kernel_rfl) (by kernel_rfl) (by kernel_rfl) (by intro _ _ _ h; exact h) (Or.inl ⟨by rfl, fun w _ => by go_simp⟩) hH ?_
            try simp only [Act.put, List.setIfInBounds_toArray, List.set_cons_zero, List.set_cons_succ]
            refine wpAnyH_take (i := 7) (v := .pointer (some ⟨w.heap.size, 0, none⟩)) (by simp only [List.getElem?_toArray, List.getElem?_cons_succ, List.getElem?_cons_zero]; rfl) (by kernel_rfl) (by kernel_rfl) (by kernel_rfl) (by intro _ _ _ h; exact h) (Or.inl ⟨by rfl, fun w _ => by go_simp⟩) hH ?_
            try simp only [Act.put, List.setIfInBounds_toArray, List.set_cons_zero, List.set_cons_succ]
            refine wpAnyH_ready (rs := [4]) (by kernel_rfl) (by simp) ?_
            refine AllReadyH.cons (by simp only [List.getElem?_toArray, List.getElem?_cons_succ, List.getElem?_cons_zero]; rfl) (fun K hK => ?_) AllReadyH.nil
            go_simp
            refine (next _ _ _ _ _ _ (ns : Int) S.out (by omega) (by omega) hl).mono ?_
            rintro e x2 ⟨j, rfl, hr, hS, hG⟩
            obtain ⟨r0, r1⟩ := hr (by omega)
            obtain ⟨j, rfl⟩ : ∃ m : Nat, j = m := ⟨j.toNat, by omega⟩
            refine hK.out _ _ trivial (fun hH => ?_)
            clear hK K
            try simp only [Act.put, List.setIfInBounds_toArray, List.set_cons_zero, List.set_cons_succ]
            replace O1 := hid (Own.kept O1.out hG (Or.inr (Own.ne O1.out HL.out).symm))
            replace O2 := hid (Own.kept O2.out hG (Or.inr (Own.ne O2.out HL.out).symm))
            replace O3 := hid (Own.kept O3.out hG (Or.inr (Own.ne O3.out HL.out).symm))
            replace O5 := hid (Own.kept O5.out hG (Or.inr (Own.ne O5.out HL.out).symm))
            replace S := hid hS
            clear hG hS
            have hj : j < ns := by omega
            clear hr r0 r1
            have I1 := idx_o0 g5 ns c5 j hj
            obtain ⟨z, hz⟩ : ∃ z, z = gt s j := ⟨_, rfl⟩
            have z1 : z < 256 := by rw [hz]; exact gt_byt s ys.out j
            have Hz := hid hz
            clear hz
            have j0 : (0 : Int) ≤ (j : Int) := by omega
            have j1 : (j : Int) < (ns : Int) := by omega
            refine wpAnyH_take (i := 5) (v := .pointer (some ⟨g5, j, none⟩)) (by simp only [List.getElem?_toArray, List.getElem?_cons_succ, List.getElem?_cons_zero]; rfl) (by kernel_rfl) (by kernel_rfl) (by kernel_rfl) (by intro _ _ _ h; exact h) (Or.inl ⟨by rfl, fun w _ => by go_simp⟩) hH ?_
            try simp only [Act.put, List.setIfInBounds_toArray, List.set_cons_zero, List.set_cons_succ]
            refine wpAnyH_ready (rs := [6, 8]) (by kernel_rfl) (by simp) ?_
            refine AllReadyH.cons (by simp only [List.getElem?_toArray, List.getElem?_cons_succ, List.getElem?_cons_zero]; rfl) (fun K hK => ?_) ?_
            · skip
              have d1 := own_o O5.out ls.out j hj
              rw [← Hz.out] at d1
              go_simp
              refine hK.out _ _ trivial (fun hH => ?_)
              clear hK K
              try simp only [Act.put, List.setIfInBounds_toArray, List.set_cons_zero, List.set_cons_succ]
              clear d1
              refine wpAnyH_ready (rs := [8]) (by kernel_rfl) (by simp) ?_
              refine AllReadyH.cons (by simp only [List.getElem?_toArray, List.getElem?_cons_succ, List.getElem?_cons_zero]; rfl) (fun K hK => ?_) AllReadyH.nil
              go_simp
              refine (next _ _ _ _ _ _ 255 S.out (by omega) (by omega) hl).mono ?_
              rintro e x3 ⟨t, rfl, hr, hS, hG⟩
              obtain ⟨r0, r1⟩ := hr (by omega)
              obtain ⟨t, rfl⟩ : ∃ m : Nat, t = m := ⟨t.toNat, by omega⟩
              refine hK.out _ _ trivial (fun hH => ?_)
              clear hK K
              try simp only [Act.put, List.setIfInBounds_toArray, List.set_cons_zero, List.set_cons_succ]
              replace O1 := hid (Own.kept O1.out hG (Or.inr (Own.ne O1.out HL.out).symm))
              replace O2 := hid (Own.kept O2.out hG (Or.inr (Own.ne O2.out HL.out).symm))
              replace O3 := hid (Own.kept O3.out hG (Or.inr (Own.ne O3.out HL.out).symm))
              replace O5 := hid (Own.kept O5.out hG (Or.inr (Own.ne O5.out HL.out).symm))
              replace S := hid hS
              clear hG hS
              have ht : t < 255 := by omega
              clear hr r0 r1
              have E := xor8' z (1 + t) z1 (by omega)
              rw [show ((1 + t : Nat) : Int) = 1 + (t : Int) from rfl] at E
              have t0 : (0 : Int) ≤ (t : Int) := by omega
              have W1 := wrap_1 t ht
              have W2 := wrap_2 t ht
              refine wpAnyH_take (i := 9) (v := .int .i64 (1 + (t : Int))) (by simp only [List.getElem?_toArray, List.getElem?_cons_succ, List.getElem?_cons_zero]; rfl) (by kernel_rfl) (by kernel_rfl) (by kernel_rfl) (by intro _ _ _ h; exact h) (Or.inl ⟨by rfl, fun w _ => by go_simp⟩) hH ?_
              try simp only [Act.put, List.setIfInBounds_toArray, List.set_cons_zero, List.set_cons_succ]
              refine wpAnyH_take (i := 10) (v := .int .u8 (1 + (t : Int))) (by simp only [List.getElem?_toArray, List.getElem?_cons_succ, List.getElem?_cons_zero]; rfl) (by kernel_rfl) (by kernel_rfl) (by kernel_rfl) (by intro _ _ _ h; exact h) (Or.inl ⟨by rfl, fun w _ => by go_simp⟩) hH ?_
              try simp only [Act.put, List.setIfInBounds_toArray, List.set_cons_zero, List.set_cons_succ]
              refine wpAnyH_take (i := 11) (v := .int .u8 ((z ^^^ (1 + t) : Nat) : Int)) (by simp only [List.getElem?_toArray, List.getElem?_cons_succ, List.getElem?_cons_zero]; rfl) (by kernel_rfl) (by kernel_rfl) (by kernel_rfl) (by intro _ _ _ h; exact h) (Or.inl ⟨by rfl, fun w _ => by go_simp⟩) hH ?_
              try simp only [Act.put, List.setIfInBounds_toArray, List.set_cons_zero, List.set_cons_succ]
              refine wpAnyH_take (i := 12) (v := .pointer (some ⟨g5, j, none⟩)) (by simp only [List.getElem?_toArray, List.getElem?_cons_succ, List.getElem?_cons_zero]; rfl) (by kernel_rfl) (by kernel_rfl) (by kernel_rfl) (by intro _ _ _ h; exact h) (Or.inl ⟨by rfl, fun w _ => by go_simp⟩) hH ?_
              try simp only [Act.put, List.setIfInBounds_toArray, List.set_cons_zero, List.set_cons_succ]
              refine wpAnyH_ready (rs := [13]) (by kernel_rfl) (by simp) ?_
              refine AllReadyH.cons (by simp only [List.getElem?_toArray, List.getElem?_cons_succ, List.getElem?_cons_zero]; rfl) (fun K hK => ?_) AllReadyH.nil
              have d1 := own_o O5.out ls.out j hj
              have d2 := O5.out.open ls.out j
              have ST := (O5.out.stored ls.out j (z ^^^ (1 + t))).1
              have SB := hid (S.out.bel.setCell (p := ⟨g5, j, none⟩) (by show w.heap.size ≤ g5; have := HL.out; omega) (.int .u8 ((z ^^^ (1 + t) : Nat) : Int)))
              unfold bv at ST
              have RS := hid ST.rd
              clear ST
              have R1 := hid (O1.out.kept (O5.out.stored ls.out j (z ^^^ (1 + t))).2 (Or.inr D1.out)).rd
              unfold bv at R1
              have R2 := hid (O2.out.kept (O5.out.stored ls.out j (z ^^^ (1 + t))).2 (Or.inr D2.out)).rd
              unfold bv at R2
              have R3 := hid (O3.out.kept (O5.out.stored ls.out j (z ^^^ (1 + t))).2 (Or.inr D3.out)).rd
              unfold bv at R3
              go_simp
              refine hK.out _ _ trivial (fun hH => ?_)
              clear hK K
              try simp only [Act.put, List.setIfInBounds_toArray, List.set_cons_zero, List.set_cons_succ]
              clear d1 d2 E W1 W2
              generalize x3.setCell ⟨g5, j, none⟩ (.int .u8 ((z ^^^ (1 + t) : Nat) : Int)) = x9 at *
              refine wpAnyH_done (by kernel_rfl) ?_ _
              have YZ := set_byt' s ys.out j (z ^^^ (1 + t)) (xor_lt _ _ z1 (by omega))
              go_wp2
              try simp only [Exit.inBlock, Exit.then]
              refine bodyPost_ret (four_results rfl _ _ _) rfl ?_
              exact ⟨_, _, _, _, k, n, x, s.set j (z ^^^ (1 + t)), rfl, by rw [List.length_set, ls.out]; omega, yk, yn, yx, YZ, R1.out, R2.out, R3.out, RS.out, SB.out⟩
            refine AllReadyH.cons (by simp only [List.getElem?_toArray, List.getElem?_cons_succ, List.getElem?_cons_zero]; rfl) (fun K hK => ?_) AllReadyH.nil
            go_simp
            refine (next _ _ _ _ _ _ 255 S.out (by omega) (by omega) hl).mono ?_
            rintro e x3 ⟨t, rfl, hr, hS, hG⟩
            obtain ⟨r0, r1⟩ := hr (by omega)
            obtain ⟨t, rfl⟩ : ∃ m : Nat, t = m := ⟨t.toNat, by omega⟩
            refine hK.out _ _ trivial (fun hH => ?_)
            clear hK K
            try simp only [Act.put, List.setIfInBounds_toArray, List.set_cons_zero, List.set_cons_succ]
            replace O1 := hid (Own.kept O1.out hG (Or.inr (Own.ne O1.out HL.out).symm))
            replace O2 := hid (Own.kept O2.out hG (Or.inr (Own.ne O2.out HL.out).symm))
            replace O3 := hid (Own.kept O3.out hG (Or.inr (Own.ne O3.out HL.out).symm))
            replace O5 := hid (Own.kept O5.out hG (Or.inr (Own.ne O5.out HL.out).symm))
            replace S := hid hS
            clear hG hS
            have ht : t < 255 := by omega
            clear hr r0 r1
            have E := xor8' z (1 + t) z1 (by omega)
            rw [show ((1 + t : Nat) : Int) = 1 + (t : Int) from rfl] at E
            have t0 : (0 : Int) ≤ (t : Int) := by omega
            have W1 := wrap_1 t ht
            have W2 := wrap_2 t ht
            refine wpAnyH_take (i := 9) (v := .int .i64 (1 + (t : Int))) (by simp only [List.getElem?_toArray, List.getElem?_cons_succ, List.getElem?_cons_zero]; rfl) (by kernel_rfl) (by kernel_rfl) (by kernel_rfl) (by intro _ _ _ h; exact h) (Or.inl ⟨by rfl, fun w _ => by go_simp⟩) hH ?_
            try simp only [Act.put, List.setIfInBounds_toArray, List.set_cons_zero, List.set_cons_succ]
            refine wpAnyH_take (i := 10) (v := .int .u8 (1 + (t : Int))) (by simp only [List.getElem?_toArray, List.getElem?_cons_succ, List.getElem?_cons_zero]; rfl) (by kernel_rfl) (by kernel_rfl) (by kernel_rfl) (by intro _ _ _ h; exact h) (Or.inl ⟨by rfl, fun w _ => by go_simp⟩) hH ?_
            try simp only [Act.put, List.setIfInBounds_toArray, List.set_cons_zero, List.set_cons_succ]
            refine wpAnyH_ready (rs := [6]) (by kernel_rfl) (by simp) ?_
            refine AllReadyH.cons (by simp only [List.getElem?_toArray, List.getElem?_cons_succ, List.getElem?_cons_zero]; rfl) (fun K hK => ?_) AllReadyH.nil
            have d1 := own_o O5.out ls.out j hj
            rw [← Hz.out] at d1
            go_simp
            refine hK.out _ _ trivial (fun hH => ?_)
            clear hK K
            try simp only [Act.put, List.setIfInBounds_toArray, List.set_cons_zero, List.set_cons_succ]
            clear d1
            refine wpAnyH_take (i := 11) (v := .int .u8 ((z ^^^ (1 + t) : Nat) : Int)) (by simp only [List.getElem?_toArray, List.getElem?_cons_succ, List.getElem?_cons_zero]; rfl) (by kernel_rfl) (by kernel_rfl) (by kernel_rfl) (by intro _ _ _ h; exact h) (Or.inl ⟨by rfl, fun w _ => by go_simp⟩) hH ?_
            try simp only [Act.put, List.setIfInBounds_toArray, List.set_cons_zero, List.set_cons_succ]
            refine wpAnyH_take (i := 12) (v := .pointer (some ⟨g5, j, none⟩)) (by simp only [List.getElem?_toArray, List.getElem?_cons_succ, List.getElem?_cons_zero]; rfl) (by kernel_rfl) (by kernel_rfl) (by kernel_rfl) (by intro _ _ _ h; exact h) (Or.inl ⟨by rfl, fun w _ => by go_simp⟩) hH ?_
            try simp only [Act.put, List.setIfInBounds_toArray, List.set_cons_zero, List.set_cons_succ]
            refine wpAnyH_ready (rs := [13]) (by kernel_rfl) (by simp) ?_
            refine AllReadyH.cons (by simp only [List.getElem?_toArray, List.getElem?_cons_succ, List.getElem?_cons_zero]; rfl) (fun K hK => ?_) AllReadyH.nil
            have d1 := own_o O5.out ls.out j hj
            have d2 := O5.out.open ls.out j
            have ST := (O5.out.stored ls.out j (z ^^^ (1 + t))).1
            have SB := hid (S.out.bel.setCell (p := ⟨g5, j, none⟩) (by show w.heap.size ≤ g5; have := HL.out; omega) (.int .u8 ((z ^^^ (1 + t) : Nat) : Int)))
            unfold bv at ST
            have RS := hid ST.rd
            clear ST
            have R1 := hid (O1.out.kept (O5.out.stored ls.out j (z ^^^ (1 + t))).2 (Or.inr D1.out)).rd
            unfold bv at R1
            have R2 := hid (O2.out.kept (O5.out.stored ls.out j (z ^^^ (1 + t))).2 (Or.inr D2.out)).rd
            unfold bv at R2
            have R3 := hid (O3.out.kept (O5.out.stored ls.out j (z ^^^ (1 + t))).2 (Or.inr D3.out)).rd
            unfold bv at R3
            go_simp
            refine hK.out _ _ trivial (fun hH => ?_)
            clear hK K
            try simp only [Act.put, List.setIfInBounds_toArray, List.set_cons_zero, List.set_cons_succ]
            clear d1 d2 E W1 W2
            generalize x3.setCell ⟨g5, j, none⟩ (.int .u8 ((z ^^^ (1 + t) : Nat) : Int)) = x9 at *
            refine wpAnyH_done (by kernel_rfl) ?_ _
            have YZ := set_byt' s ys.out j (z ^^^ (1 + t)) (xor_lt _ _ z1 (by omega))
            go_wp2
            try simp only [Exit.inBlock, Exit.then]
            refine bodyPost_ret (four_results rfl _ _ _) rfl ?_
            exact ⟨_, _, _, _, k, n, x, s.set j (z ^^^ (1 + t)), rfl, by rw [List.length_set, ls.out]; omega, yk, yn, yx, YZ, R1.out, R2.out, R3.out, RS.out, SB.out⟩
          · go_wp2_with fail
            refine (next _ _ _ _ _ _ (ns : Int) S.out (by omega) (by omega) hl).mono ?_
            rintro e x2 ⟨j, rfl, hr, hS, hG⟩
            obtain ⟨r0, r1⟩ := hr (by omega)
            obtain ⟨j, rfl⟩ : ∃ t : Nat, j = t := ⟨j.toNat, by omega⟩
            replace O1 := hid (Own.kept O1.out hG (Or.inr (Own.ne O1.out HL.out).symm))
            replace O2 := hid (Own.kept O2.out hG (Or.inr (Own.ne O2.out HL.out).symm))
            replace O3 := hid (Own.kept O3.out hG (Or.inr (Own.ne O3.out HL.out).symm))
            replace O5 := hid (Own.kept O5.out hG (Or.inr (Own.ne O5.out HL.out).symm))
            replace S := hid hS
            clear hG hS
            have U1 := upto_o0 g5 ns c5 j (by omega)
            have RS := hid (rd_first O5.out.rd j (by rw [ls.out]; omega))
            clear hr
            go_wp2
            try simp only [Exit.inBlock, Exit.then]
            refine bodyPost_ret (four_results rfl _ _ _) rfl ?_
            exact ⟨_, _, _, _, k, n, x, s.take j, rfl, by rw [List.length_take]; omega, yk, yn, yx, fun u hu => ys.out u (List.mem_of_mem_take hu), O1.out.rd, O2.out.rd, O3.out.rd, RS.out, S.out.bel⟩
          · skip
            obtain ⟨z, hz⟩ : ∃ z, z = gt n 0 := ⟨_, rfl⟩
            have z1 : z < 256 := by rw [hz]; exact gt_byt n yn 0
            have d1 := own_o O2.out hnn.out.symm 0 (by omega)
            rw [← hz] at d1
            have d2 := O2.out.open hnn.out.symm 0
            have ST := (O2.out.stored hnn.out.symm 0 (z ^^^ 1)).1
            have SB := hid (S.out.bel.setCell (p := ⟨g2, 0, none⟩) (by show w.heap.size ≤ g2; have := O2.out.row (Nat.le_refl _) g2 rfl; have := HL.out; omega) (.int .u8 ((z ^^^ 1 : Nat) : Int)))
            unfold bv at ST
            have RN := hid ST.rd
            have R1 := hid (O1.out.kept (O2.out.stored hnn.out.symm 0 (z ^^^ 1)).2 (Or.inr (own_far N12.out))).rd
            have R3 := hid (O3.out.kept (O2.out.stored hnn.out.symm 0 (z ^^^ 1)).2 (Or.inr (own_far (fun h => N23.out h.symm)))).rd
            have R5 := hid (O5.out.kept (O2.out.stored hnn.out.symm 0 (z ^^^ 1)).2 (Or.inr (own_far (fun h => N25.out h.symm)))).rd
            unfold bv at R1 R3 R5
            have E := xor8' z 1 z1 (by omega)
            rw [show ((1 : Nat) : Int) = 1 from rfl] at E
            have I1 := idx_o0 g2 12 c2 0 (by omega)
            rw [show ((0 : Nat) : Int) = 0 from rfl] at I1
            clear ST hz
            go_wp2
            try simp only [Exit.inBlock, Exit.then]
            refine bodyPost_ret (four_results rfl _ _ _) rfl ?_
            exact ⟨_, _, _, _, k, n.set 0 (z ^^^ 1), x, s, rfl, by rw [ls.out]; omega, yk, set_byt' n yn 0 _ (xor_lt _ _ z1 (by omega)), yx, ys.out, R1.out, RN.out, R3.out, R5.out, SB.out⟩
          · skip
            obtain ⟨i0, hi, hz0, hz1, hz2⟩ := info_parts info8
            have hownK : w4'.ownsRow w1.heap.size 5 1 (.slice (some ⟨g3, 0, none⟩) nx c3) nx (x.map bv) := by
              have q := O3.out
              unfold Own at q
              rw [← hnx.out] at q
              exact q
            have z1 : w1.heap.size ≤ w4'.heap.size := by have := World.ownsRow.lt O1.out g1 rfl; omega
            go_wp2_with (at_builtin; refine wpList_append_lies _ rfl _ _ _ rfl w1.heap.size 5 i0 (.int .u8 0) 1 1 Try.underlying22 hi hz0 hz1 hz2 rfl (by omega) _ _ _ rfl (hownK.alloc _) ⟨w4'.heap.size, 0, none⟩ 1 1 [.int .u8 0] rfl rfl (World.news_of_block (cs := #[.int .u8 0]) (t := 5) (fr := (0, 0)) (heap_alloc_new w4' _)) (by simp [Value.oneCell']) (by omega) (by unfold maxLen; omega) (by omega) (by simp; omega) (w4'.heap.size + 1) (by simp) ?_)
            intro g6 c6 w6 hown2 hgrow2 hat2 hlt2
            have O6 : Own w6 w1.heap.size (.slice (some ⟨g6, 0, none⟩) (nx + 1) c6) (x ++ [0]) := own_snoc (by rw [← hnx.out]; exact hown2)
            have SB := hid ((S.out.bel.alloc S.out.bel.size _).grown hgrow2 (by have := S.out.bel.size; simp; omega) (fun g e => by have := (World.ownsRow.lt O3.out g e).1; have := HL.out; omega))
            have R1 := hid ((O1.out.below (below_alloc1 _ _)).kept hgrow2 (Or.inr (own_far N13.out))).rd
            have R2 := hid ((O2.out.below (below_alloc1 _ _)).kept hgrow2 (Or.inr (own_far N23.out))).rd
            have R5 := hid ((O5.out.below (below_alloc1 _ _)).kept hgrow2 (Or.inr (own_far (fun h => N35.out h.symm)))).rd
            have R6 := hid O6.rd
            clear hown2 hgrow2 hat2 hlt2 O6 hownK hi hz0 hz1 hz2
            go_wp2
            try simp only [Exit.inBlock, Exit.then]
            refine bodyPost_ret (four_results rfl _ _ _) rfl ?_
            exact ⟨_, _, _, _, k, n, x ++ [0], s, rfl, by rw [ls.out]; omega, yk, yn, app_byt yx (by intro u hu; simp at hu; omega), ys.out, R1.out, R2.out, R6.out, R5.out, SB.out⟩
          · go_wp2
            try simp only [Exit.inBlock, Exit.then]
            refine bodyPost_ret (four_results rfl _ _ _) rfl ?_
            exact ⟨_, _, _, _, k, n, x, s, rfl, by rw [ls.out]; omega, yk, yn, yx, ys.out, O1.out.rd, O2.out.rd, O3.out.rd, O5.out.rd, S.out.bel⟩
          · go_wp2
            try simp only [Exit.inBlock, Exit.then]
            refine bodyPost_ret (four_results rfl _ _ _) rfl ?_
            exact ⟨_, _, _, _, k, n, x, s, rfl, by rw [ls.out]; omega, yk, yn, yx, ys.out, O1.out.rd, O2.out.rd, O3.out.rd, O5.out.rd, S.out.bel⟩
          · go_wp2
            try simp only [Exit.inBlock, Exit.then]
            refine bodyPost_ret (four_results rfl _ _ _) rfl ?_
            exact ⟨_, _, _, _, k, n, x, s, rfl, by rw [ls.out]; omega, yk, yn, yx, ys.out, O1.out.rd, O2.out.rd, O3.out.rd, O5.out.rd, S.out.bel⟩
        · have t : (decide ((600 : Int) < (np : Int))) = true := decide_eq_true (by omega)
          go_wp2
          try simp only [Exit.inBlock, Exit.then]
          refine bodyPost_ret (four_results rfl _ _ _) rfl ?_
          exact ⟨_, _, _, _, k, n, x, p, rfl, by rw [← hnp.out]; omega, yk, yn, yx, yp, O1.out.rd, O2.out.rd, O3.out.rd, O4.out.rd, S.out.bel⟩
      · have t : (decide ((100 : Int) < (nx : Int))) = true := decide_eq_true (by omega)
        go_wp2
        try simp only [Exit.inBlock, Exit.then]
        refine bodyPost_ret (four_results rfl _ _ _) rfl ?_
        exact ⟨_, _, _, _, k, n, x, p, rfl, by rw [← hnp.out]; omega, yk, yn, yx, yp, O1.out.rd, O2.out.rd, O3.out.rd, O4.out.rd, S.out.bel⟩
    · have t : ((nn : Int) != 12) = true := by rw [bne_iff_ne]; omega
      go_wp2
      try simp only [Exit.inBlock, Exit.then]
      refine bodyPost_ret (four_results rfl _ _ _) rfl ?_
      exact ⟨_, _, _, _, k, n, x, p, rfl, by rw [← hnp.out]; omega, yk, yn, yx, yp, O1.out.rd, O2.out.rd, O3.out.rd, O4.out.rd, S.out.bel⟩
  · have t : ((nk : Int) != 16) = true := by rw [bne_iff_ne]; omega
    go_wp2
    try simp only [Exit.inBlock, Exit.then]
    refine bodyPost_ret (four_results rfl _ _ _) rfl ?_
    exact ⟨_, _, _, _, k, n, x, p, rfl, by rw [← hnp.out]; omega, yk, yn, yx, yp, O1.out.rd, O2.out.rd, O3.out.rd, O4.out.rd, S.out.bel⟩
end Go.Proofs.Ytckgjghpfjinfab.W
