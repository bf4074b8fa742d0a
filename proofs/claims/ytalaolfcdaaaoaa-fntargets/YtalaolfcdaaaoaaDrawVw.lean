/-
  The draws of views. Generated text.
-/
import Derived.Test.YtalaolfcdaaaoaaDrawC7
import Derived.Test.YtalaolfcdaaaoaaVwCg
namespace Go.Proofs.Ytalaolfcdaaaoaa.W
open Go.ChangeShapes Go.WideShapes Go.ChangeAt Go.RowKit
open Go.Proofs.Ytalaolfcdaaaoaa.M

theorem grownN {a b c : World} {g : Nat} {row : Option Nat} (h : a.grownBy b (some g)) (k : b.grownBy c row) (hr : ∀ x, row = some x → a.heap.size ≤ x) : a.grownBy c (some g) :=
  ⟨k.os.trans h.os, k.tape.trans h.tape, k.output.trans h.output, Nat.le_trans h.size k.size, fun i hi hne => (k.block i (Nat.lt_of_lt_of_le hi h.size) (fun e => by have := hr i e.symm; omega)).trans (h.block i hi hne)⟩
theorem OwC.keepG {w w' : World} {base g : Nat} {v : Value} {cs : List Clm} (h : OwC w base v cs) (hG : w.grownBy w' (some g)) (hg : g < base) : OwC w' base v cs :=
  h.kept hG (by
    cases e : v.ownBlock with
    | none => exact .inl rfl
    | some b => exact .inr (fun q => by have := (h.lt b e).1; have := Option.some.inj q; omega))
set_option maxHeartbeats 4000000 in
set_option maxRecDepth 100000 in
theorem l8d (w0 w : World) (g : Nat) (v : Value) (l : List Nat) (t : Nat) (h : Src w0 w g v l t) (ht : t ≤ 800000) (hl : l.length ≤ 1048576) :
    Calls Try.prog 115 #[.pointer (some ⟨g, 0, none⟩)] w fun e w' => ∃ (u : Value) (cs : List Clm) (t' : Nat), e = .returned u ∧ OwC w' w.heap.size u cs ∧ cs.length ≤ 4 ∧ t' ≤ t + 20 ∧ Src w0 w' g v l t' ∧ w.grownBy w' (some g) := by
  have GV := hid (show g < w.heap.size from var_lt h.cells)
  have NV := hid (show w0.heap.size ≤ w.heap.size from h.bel.size)
  have S0 := hid (h.later (below_alloc1 w (.cells #[] 38)))
  have G0 := hid (grown_of_below (below_alloc1 w (.cells #[] 38)) (some g))
  have V0 := heap_alloc_new w (.cells #[] 38)
  have O0 := hid (owC_lit V0 (Nat.le_refl _))
  clear h V0
  go_enter Try.func115, Try.ntmps115
  go_wp2_with fail
  generalize w.alloc (.cells #[] 38) = x0 at *
  go_loopw [3, 4, 5] (fun s3 i s5 wr => ∃ k : Nat, ∃ u u5 : Value, ∃ cs : List Clm, ∃ t' : Nat, k ≤ 4 ∧ i = .int .i64 k ∧ s3 = u ∧ s5 = u5 ∧ cs.length ≤ k ∧ t' ≤ t + k * 5 ∧ Hid (OwC wr w.heap.size u cs) ∧ Hid (Src w0 wr g v l t') ∧ Hid (w.grownBy wr (some g))) (fun _ i _ _ => 4 - (intOf i).toNat)
  case atStart => exact ⟨0, _, _, [], t, by omega, rfl, rfl, rfl, by simp, by omega, O0, S0, G0⟩
  case round =>
    clear S0 G0 O0
    obtain ⟨k, u, u5, cs, t', hk, rfl, rfl, rfl, hc, htt, OL, S, G⟩ := hrel
    obtain ⟨pu, cu, rfl, -, -, -⟩ := OL.out.rd.parts
    by_cases hlt : k < 4
    · go_wp2_with fail
      refine (chance w0 wr g v l t' 4 S.out (by omega) (by omega) hl).mono ?_
      rintro e w1 ⟨r, rfl, hS, hG⟩
      replace S := hid hS
      replace OL := hid (OL.out.keepG hG GV.out)
      replace G := hid (grown_trans G.out hG)
      clear hS hG
      cases r
      · go_wp2_with fail
        refine (l7c w0 w1 g v l _ S.out (by omega) hl).mono ?_
        rintro e w2 ⟨c, rfl, hS, hG⟩
        replace S := hid hS
        replace OL := hid (OL.out.keepG hG GV.out)
        replace G := hid (grown_trans G.out hG)
        clear hS hG
        have SX := hid (show w.heap.size ≤ w2.heap.size from G.out.size)
        have B4 := below_alloc2 w2 (.cells #[.int .i64 (k : Int), .int .i64 c.i, .int .i64 c.s, .int .i64 c.m] 38) (.cells #[.int .i64 (k : Int), .int .i64 c.i, .int .i64 c.s, .int .i64 c.m] 38)
        have R4 := one_row (c := (⟨(k : Int), c.i, c.s, c.m⟩ : Clm)) (heap_alloc_new (w2.alloc (.cells #[.int .i64 (k : Int), .int .i64 c.i, .int .i64 c.s, .int .i64 c.m] 38)) (.cells #[.int .i64 (k : Int), .int .i64 c.i, .int .i64 c.s, .int .i64 c.m] 38))
        simp only [World.size_alloc] at R4
        replace R4 := hid R4
        have O4 := hid (OL.out.below B4)
        have S4 := hid (S.out.later B4)
        have G4 := hid (grown_trans G.out (grown_of_below B4 (some g)))
        have Z4 := hid (show w.heap.size ≤ ((w2.alloc (.cells #[.int .i64 (k : Int), .int .i64 c.i, .int .i64 c.s, .int .i64 c.m] 38)).alloc (.cells #[.int .i64 (k : Int), .int .i64 c.i, .int .i64 c.s, .int .i64 c.m] 38)).heap.size from G4.out.size)
        clear B4 OL S G
        go_wp2_with (at_builtin; refine list_appC rfl _ _ rfl _ cs [(⟨(k : Int), c.i, c.s, c.m⟩ : Clm)] w.heap.size (w2.heap.size + 1) 0 1 rfl rfl O4.out R4.out (by simp) (by simp; omega) Z4.out ?_; intro g5 cap5 w5 hO hG; have S5 := hid (S4.out.grown hG (fun e => by have := O4.out.lt g e.symm; have := GV.out; omega) (fun b e => by have := O4.out.lt b e; have := NV.out; omega)); have G5 := hid (grownN G4.out hG (fun b e => (O4.out.lt b e).1)); have O5 := hid hO)
        clear hO hG
        go_roundw
        case rel => exact ⟨k + 1, _, _, cs ++ [(⟨(k : Int), c.i, c.s, c.m⟩ : Clm)], _, hlt, by go_num, rfl, rfl, by simp; omega, by omega, O5, S5, G5⟩
        case measure => simp [intOf]; omega
      · go_wp2
        go_roundw
        case rel => exact ⟨k + 1, _, _, cs, _, hlt, by go_num, rfl, rfl, by omega, by omega, OL, S, G⟩
        case measure => simp [intOf]; omega
    · obtain rfl : k = 4 := by omega
      go_wp2
      go_ret
      exact ⟨_, cs, t', rfl, OL.out, hc, by omega, S.out, G.out⟩
theorem OwC.setS {w : World} {base g cap n : Nat} {cs : List Clm} (hn : cs.length = n) (h : OwC w base (.slice (some ⟨g, 0, none⟩) n cap) cs) (h0 : 0 < cs.length) (x : Int) :
    OwC (w.setCell ⟨g, 2, none⟩ (.int .i64 x)) base (.slice (some ⟨g, 0, none⟩) n cap) (cs.set 0 ⟨cs[0].n, cs[0].i, x, cs[0].m⟩) := by
  subst hn
  have h1 := (World.ownsRow.stored h 2 (.int .i64 x)).1
  unfold OwC
  rw [List.length_set]
  cases cs with
  | nil => simp at h0
  | cons c r => exact h1
set_option maxHeartbeats 4000000 in
set_option maxRecDepth 100000 in
theorem l8b (w0 w : World) (g : Nat) (v : Value) (l : List Nat) (t : Nat) (h : Src w0 w g v l t) (ht : t ≤ 700000) (hl : l.length ≤ 1048576) :
    Calls Try.prog 64 #[.pointer (some ⟨g, 0, none⟩)] w fun e w' => ∃ (u : Value) (cs : List Clm) (t' : Nat), e = .returned u ∧ OwC w' w.heap.size u cs ∧ cs.length ≤ 8 ∧ t' ≤ t + 40 ∧ Src w0 w' g v l t' ∧ w.grownBy w' (some g) := by
  have GV := hid (show g < w.heap.size from var_lt h.cells)
  have NV := hid (show w0.heap.size ≤ w.heap.size from h.bel.size)
  have S0 := hid h
  clear h
  go_enter Try.func64, Try.ntmps64
  go_wp2_with fail
  refine (l8d w0 w g v l t S0.out (by omega) hl).mono ?_
  rintro e w1 ⟨u, cs, t', rfl, hO, hc, htt, hS, hG⟩
  obtain ⟨pu, cu, rfl, -, -, -⟩ := hO.rd.parts
  have OL := hid hO
  have S := hid hS
  have G := hid hG
  clear hO hS hG S0
  go_wp2_with fail
  refine (next w0 w1 g v l t' 14 S.out (by omega) (by omega) hl).mono ?_
  rintro e w2 ⟨r, rfl, -, hS, hG⟩
  replace S := hid hS
  replace OL := hid (OL.out.keepG hG GV.out)
  replace G := hid (grown_trans G.out hG)
  have SX := hid (show w.heap.size ≤ w2.heap.size from G.out.size)
  clear hS hG
  by_cases r0 : r = 0
  · subst r0
    go_wp2_with fail
    refine (l7c w0 w2 g v l _ S.out (by omega) hl).mono ?_
    rintro e w3 ⟨c, rfl, hS, hG⟩
    have B4 := below_alloc1 w3 (.cells #[.int .i64 c.n, .int .i64 c.i, .int .i64 c.s, .int .i64 c.m] 38)
    have R4 := hid (one_row (c := c) (heap_alloc_new w3 (.cells #[.int .i64 c.n, .int .i64 c.i, .int .i64 c.s, .int .i64 c.m] 38)))
    have O4 := hid ((OL.out.keepG hG GV.out).below B4)
    have S4 := hid (hS.later B4)
    have G4 := hid (grown_trans (grown_trans G.out hG) (grown_of_below B4 (some g)))
    have Z4 := hid (show w.heap.size ≤ (w3.alloc (.cells #[.int .i64 c.n, .int .i64 c.i, .int .i64 c.s, .int .i64 c.m] 38)).heap.size from G4.out.size)
    clear hS hG B4 OL S G
    go_wp2_with (at_builtin; refine list_appC rfl _ _ rfl _ cs [c] w.heap.size w3.heap.size 0 1 rfl rfl O4.out R4.out (by simp) (by simp; omega) Z4.out ?_; intro g5 cap5 w5 hO hG; have S5 := hid (S4.out.grown hG (fun e => by have := O4.out.lt g e.symm; have := GV.out; omega) (fun b e => by have := O4.out.lt b e; have := NV.out; omega)); have G5 := hid (grownN G4.out hG (fun b e => (O4.out.lt b e).1)); have O5 := hid hO)
    go_ret
    exact ⟨_, cs ++ [c], _, rfl, O5.out, by simp; omega, by omega, S5.out, G5.out⟩
  by_cases r1 : r = 1
  · subst r1
    have VL := hid (show Lst (w2.alloc (.cells #[.int .i64 3, .int .i64 4] 2)) w2.heap.size [3, 4] from heap_alloc_new w2 (.cells #[.int .i64 3, .int .i64 4] 2))
    have BA := below_alloc1 w2 (.cells #[.int .i64 3, .int .i64 4] 2)
    have NG := hid (show w2.heap.size ≠ g by have := SX.out; have := GV.out; omega)
    replace S := hid (S.out.later BA)
    replace OL := hid (OL.out.below BA)
    replace G := hid (grown_alloc G.out (.cells #[.int .i64 3, .int .i64 4] 2))
    clear BA
    go_wp2_with fail
    refine (pick' w0 _ g w2.heap.size 2 v l _ [3, 4] S.out (by omega) hl VL.out NG.out rfl (by omega) (by omega)).mono ?_
    rintro e w3 ⟨x, -, rfl, hS, hG⟩
    have B4 := below_alloc1 w3 (.cells #[.int .i64 x, .int .i64 0, .int .i64 0, .int .i64 0] 38)
    have R4 := hid (one_row (c := ⟨x, 0, 0, 0⟩) (heap_alloc_new w3 (.cells #[.int .i64 x, .int .i64 0, .int .i64 0, .int .i64 0] 38)))
    have O4 := hid ((OL.out.keepG hG GV.out).below B4)
    have S4 := hid (hS.later B4)
    have G4 := hid (grown_trans (grown_trans G.out hG) (grown_of_below B4 (some g)))
    have Z4 := hid (show w.heap.size ≤ (w3.alloc (.cells #[.int .i64 x, .int .i64 0, .int .i64 0, .int .i64 0] 38)).heap.size from G4.out.size)
    clear hS hG B4 OL S G VL NG
    go_wp2_with (at_builtin; refine list_appC rfl _ _ rfl _ cs [⟨x, 0, 0, 0⟩] w.heap.size w3.heap.size 0 1 rfl rfl O4.out R4.out (by simp) (by simp; omega) Z4.out ?_; intro g5 cap5 w5 hO hG; have S5 := hid (S4.out.grown hG (fun e => by have := O4.out.lt g e.symm; have := GV.out; omega) (fun b e => by have := O4.out.lt b e; have := NV.out; omega)); have G5 := hid (grownN G4.out hG (fun b e => (O4.out.lt b e).1)); have O5 := hid hO)
    go_ret
    exact ⟨.slice (some ⟨g5, 0, none⟩) (cs.length + 1) cap5, cs ++ [⟨x, 0, 0, 0⟩], _, rfl, O5.out, by simp; omega, by omega, S5.out, G5.out⟩
  by_cases r2 : r = 2
  · subst r2
    go_wp2_with (at_builtin; refine list_appCg rfl _ _ rfl _ _ cs cs w.heap.size rfl rfl OL.out OL.out.rd (by omega) SX.out ?_; intro v5 w5 hO hG; obtain ⟨pq, cq, rfl, -, -, -⟩ := hO.rd.parts; rw [List.length_append] at hO; have S5 := hid (S.out.grown hG (fun e => by have := OL.out.lt g e.symm; have := GV.out; omega) (fun b e => by have := OL.out.lt b e; have := NV.out; omega)); have G5 := hid (grownN G.out hG (fun b e => (OL.out.lt b e).1)); have O5 := hid hO)
    go_ret
    exact ⟨.slice pq (cs.length + cs.length) cq, cs ++ cs, _, rfl, O5.out, by simp; omega, by omega, S5.out, G5.out⟩
  by_cases r3 : r = 3
  · subst r3
    by_cases h0 : 0 < cs.length
    · have h0i : (0 : Int) < (cs.length : Int) := by omega
      obtain ⟨gu, eu⟩ : ∃ q, Value.slice pu cs.length cu = .slice (some ⟨q, 0, none⟩) cs.length cu := by
        rcases OL.out.2 with ⟨-, e0⟩ | ⟨q, cp, cur, e0, -⟩
        · omega
        · cases e0; exact ⟨q, rfl⟩
      cases eu
      have VL := hid (show Lst (w2.alloc (.cells #[.int .i64 3, .int .i64 (-1), .int .i64 2] 2)) w2.heap.size [3, -1, 2] from heap_alloc_new w2 (.cells #[.int .i64 3, .int .i64 (-1), .int .i64 2] 2))
      have BA := below_alloc1 w2 (.cells #[.int .i64 3, .int .i64 (-1), .int .i64 2] 2)
      have NG := hid (show w2.heap.size ≠ g by have := SX.out; have := GV.out; omega)
      replace S := hid (S.out.later BA)
      replace OL := hid (OL.out.below BA)
      replace G := hid (grown_alloc G.out (.cells #[.int .i64 3, .int .i64 (-1), .int .i64 2] 2))
      clear BA
      go_wp2_with fail
      refine (pick' w0 _ g w2.heap.size 3 v l _ [3, -1, 2] S.out (by omega) hl VL.out NG.out rfl (by omega) (by omega)).mono ?_
      rintro e w3 ⟨x, -, rfl, hS, hG⟩
      replace OL := hid (OL.out.keepG hG GV.out)
      replace G := hid (grown_trans G.out hG)
      have GU := hid (OL.out.lt gu rfl)
      obtain ⟨dd, fz⟩ := OL.out.open rfl 0 h0
      obtain ⟨d0, d1, d2, d3⟩ := c_cells dd
      have z2 := fz 2
      have I2 := idx_ci gu 0 cs.length cu 0 h0
      simp only [Nat.zero_mul, Nat.zero_add, Int.cast_ofNat_Int] at d0 d1 d2 d3 I2
      have O5 := hid (OL.out.setS rfl h0 x)
      have S5 := hid (src_set (i := 2) (V := gu) hS (by have := GU.out; have := GV.out; omega) (by have := GU.out; have := NV.out; omega) (.int .i64 x))
      have G5 := hid (grown_set (i := 2) (V := gu) G.out GU.out.1 (.int .i64 x))
      clear dd fz hS hG OL S G VL NG
      go_wp2
      go_ret
      exact ⟨_, _, _, rfl, O5.out, by simp; omega, by omega, S5.out, G5.out⟩
    · have h0i : ¬ (0 : Int) < (cs.length : Int) := by omega
      go_wp2
      go_ret
      exact ⟨_, cs, _, rfl, OL.out, by omega, by omega, S.out, G.out⟩
  have e0 : (r == 0) = false := by simpa using r0
  have e1 : (r == 1) = false := by simpa using r1
  have e2 : (r == 2) = false := by simpa using r2
  have e3 : (r == 3) = false := by simpa using r3
  clear r0 r1 r2 r3
  go_wp2
  go_ret
  exact ⟨_, cs, _, rfl, OL.out, by omega, by omega, S.out, G.out⟩
end Go.Proofs.Ytalaolfcdaaaoaa.W
