/-
  How waits are drawn. Generated text.
-/
import Derived.Deep.Cut
import Derived.Test.YtalaolfcdaaaoaaDrawWt
namespace Go.Proofs.Ytalaolfcdaaaoaa.W
open Go.ChangeShapes Go.WideShapes Go.ChangeAt Go.RowKit
open Go.Proofs.Ytalaolfcdaaaoaa.M

theorem grownNj {a b c : World} {g : Nat} {row : Option Nat} (h : a.grownBy b (some g)) (k : b.grownBy c row) (hr : ∀ x, row = some x → a.heap.size ≤ x) : a.grownBy c (some g) :=
  ⟨k.os.trans h.os, k.tape.trans h.tape, k.output.trans h.output, Nat.le_trans h.size k.size, fun i hi hne => (k.block i (Nat.lt_of_lt_of_le hi h.size) (fun e => by have := hr i e.symm; omega)).trans (h.block i hi hne)⟩
theorem OwJ.keepG {w w' : World} {base g : Nat} {v : Value} {cs : List Wai} (h : OwJ w base v cs) (hG : w.grownBy w' (some g)) (hg : g < base) : OwJ w' base v cs :=
  h.kept hG (by
    cases e : v.ownBlock with
    | none => exact .inl rfl
    | some b => exact .inr (fun q => by have := (h.lt b e).1; have := Option.some.inj q; omega))
theorem OwJ.setNj {w : World} {base g i : Nat} {v x : Value} {cs : List Wai} (h : OwJ w base v cs) (hg : ∀ b, v.ownBlock = some b → b ≠ g) : OwJ (w.setCell ⟨g, i, none⟩ x) base v cs :=
  h.kept (setJ_grown w g i x) (by
    cases e : v.ownBlock with
    | none => exact .inl rfl
    | some b => exact .inr (fun q => hg b e (Option.some.inj q)))
theorem lies_ne {w : World} {v : Value} {g5 gw : Nat} {o : Obj} (hL : v.ownBlock = some g5 ∨ g5 = w.heap.size) (hU : ∀ b, v.ownBlock = some b → b ≠ gw) (hV : w.heap[gw]? = some o) : g5 ≠ gw := by
  rcases hL with q | q
  · exact hU _ q
  · have := var_lt hV
    omega
def lenV : Value → Nat
  | .slice _ n _ => n
  | _ => 0
set_option maxHeartbeats 8000000 in
set_option maxRecDepth 100000 in
theorem l9b (w0 w : World) (g : Nat) (v : Value) (l : List Nat) (t : Nat) (h : Src w0 w g v l t) (ht : t ≤ 700000) (hl : l.length ≤ 1048576) :
    Calls Try.prog 78 #[.pointer (some ⟨g, 0, none⟩)] w fun e w' => ∃ (u : Value) (cs : List Wai) (t' : Nat), e = .returned u ∧ OwJ w' w.heap.size u cs ∧ (0 < cs.length ∧ cs.length ≤ 48) ∧ t' ≤ t + 700 ∧ Src w0 w' g v l t' ∧ w.grownBy w' (some g) := by
  have GV := hid (show g < w.heap.size from var_lt h.cells)
  have NV := hid (show w0.heap.size ≤ w.heap.size from h.bel.size)
  have B2 := below_alloc2 w (.cells #[] 63) (.cells #[.int .i64 0, .int .i64 1, .int .i64 3, .int .i64 6] 2)
  have S := hid (h.later B2)
  have G := hid (grown_of_below B2 (some g))
  have VL := hid (show Lst ((w.alloc (.cells #[] 63)).alloc (.cells #[.int .i64 0, .int .i64 1, .int .i64 3, .int .i64 6] 2)) (w.heap.size + 1) [0, 1, 3, 6] from by have e := heap_alloc_new (w.alloc (.cells #[] 63)) (.cells #[.int .i64 0, .int .i64 1, .int .i64 3, .int .i64 6] 2); simp only [World.size_alloc] at e; exact e)
  have OL := hid ((owJ_lit (base := w.heap.size) (heap_alloc_new w (.cells #[] 63)) (Nat.le_refl _)).below (below_alloc1 (w.alloc (.cells #[] 63)) (.cells #[.int .i64 0, .int .i64 1, .int .i64 3, .int .i64 6] 2)))
  have NG := hid (show w.heap.size + 1 ≠ g by have := GV.out; omega)
  clear h B2
  go_enter Try.func78, Try.ntmps78
  go_wp2_with fail
  refine (pick' w0 _ g (w.heap.size + 1) 4 v l _ [0, 1, 3, 6] S.out (by omega) hl VL.out NG.out rfl (by omega) (by omega)).mono ?_
  rintro e x1 ⟨n, hn, rfl, hS, hG⟩
  replace S := hid hS
  replace OL := hid (OL.out.keepG hG GV.out)
  replace G := hid (grown_trans G.out hG)
  clear hS hG
  obtain ⟨m, rfl, hm⟩ : ∃ m : Nat, n = (m : Int) ∧ m ≤ 6 := ⟨n.toNat, by simp at hn; omega, by simp at hn; omega⟩
  clear hn VL NG
  go_wp2_with fail
  go_loopw [3, 4] (fun s3 n wr => ∃ m : Nat, ∃ u : Value, ∃ cs : List Wai, ∃ t' : Nat, n = .int .i64 m ∧ s3 = u ∧ cs.length + m ≤ 6 ∧ t' + m * 7 ≤ t + 50 ∧ Hid (OwJ wr w.heap.size u cs) ∧ Hid (Src w0 wr g v l t') ∧ Hid (w.grownBy wr (some g))) (fun _ n _ => (intOf n).toNat)
  case atStart => exact ⟨m, _, [], _, rfl, rfl, by simp; omega, by omega, OL, S, G⟩
  case round =>
    clear S G OL hm
    obtain ⟨m, u, cs, t', rfl, rfl, hc, htt, OL, S, G⟩ := hrel
    obtain ⟨pu, cu, rfl, -, -, -⟩ := OL.out.rd.parts
    by_cases hlt : 0 < m
    · have hli : (0 : Int) < (m : Int) := by omega
      go_wp2_with fail
      refine (l9d w0 wr g v l _ S.out (by omega) hl).mono ?_
      rintro e w1 ⟨X, rfl, ⟨t9, ht9, hS⟩, hG⟩
      replace S := hid hS
      replace OL := hid (OL.out.keepG hG GV.out)
      replace G := hid (grown_trans G.out hG)
      clear hS hG
      have B4 := below_alloc1 w1 (.cells #[.int .i64 X.a, .int .i64 X.b, .int .i64 X.c, .int .i64 X.d, .int .i64 X.e, .int .i64 X.f, .int .i64 X.g] 63)
      have R4 := hid (j_at (c := X) (heap_alloc_new w1 (.cells #[.int .i64 X.a, .int .i64 X.b, .int .i64 X.c, .int .i64 X.d, .int .i64 X.e, .int .i64 X.f, .int .i64 X.g] 63)))
      have O4 := hid (OL.out.below B4)
      have S4 := hid (S.out.later B4)
      have G4 := hid (grown_trans G.out (grown_of_below B4 (some g)))
      have Z4 := hid (show w.heap.size ≤ (w1.alloc (.cells #[.int .i64 X.a, .int .i64 X.b, .int .i64 X.c, .int .i64 X.d, .int .i64 X.e, .int .i64 X.f, .int .i64 X.g] 63)).heap.size from G4.out.size)
      have L4 := hid (show cs.length ≤ 4194304 by omega)
      clear B4 OL S G
      go_wp2_with (at_builtin; refine list_appJ rfl _ _ rfl _ cs X w.heap.size w1.heap.size 1 rfl rfl O4.out R4.out L4.out Z4.out ?_; intro g5 cap5 w5 hO hG hL; have S5 := hid (S4.out.grown hG (fun e => by have := O4.out.lt g e.symm; have := GV.out; omega) (fun b e => by have := O4.out.lt b e; have := NV.out; omega)); have G5 := hid (grownNj G4.out hG (fun b e => (O4.out.lt b e).1)); have O5 := hid hO)
      clear hO hG O4 S4 G4 R4 L4 hL
      go_roundw
      case rel => exact ⟨m - 1, _, cs ++ [X], _, by go_num, rfl, by simp; omega, by omega, O5, S5, G5⟩
      case measure => simp [intOf]; omega
    · obtain rfl : m = 0 := by omega
      clear hlt
      go_wp2_with fail
      refine (l9d w0 wr g v l _ S.out (by omega) hl).mono ?_
      rintro e w1 ⟨X, rfl, ⟨t9, ht9, hS⟩, hG⟩
      replace S := hid hS
      replace OL := hid (OL.out.keepG hG GV.out)
      replace G := hid (grown_trans G.out hG)
      clear hS hG
      have OLx := OL
      have GSZ := hid (show w.heap.size ≤ w1.heap.size from G.out.size)
      have VW := hid (heap_alloc_new w1 (.cells #[.int .i64 X.a, .int .i64 X.b, .int .i64 X.c, .int .i64 X.d, .int .i64 X.e, .int .i64 X.f, .int .i64 X.g] 63))
      have hA := below_alloc1 w1 (.cells #[.int .i64 X.a, .int .i64 X.b, .int .i64 X.c, .int .i64 X.d, .int .i64 X.e, .int .i64 X.f, .int .i64 X.g] 63)
      replace OL := hid (OL.out.below hA)
      replace S := hid (S.out.later hA)
      have GU := hid (show ∀ b, (Value.slice pu cs.length cu).ownBlock = some b → b ≠ w1.heap.size from fun b e => by have := (OLx.out.lt b e).2; omega)
      replace G := hid (grown_alloc G.out (.cells #[.int .i64 X.a, .int .i64 X.b, .int .i64 X.c, .int .i64 X.d, .int .i64 X.e, .int .i64 X.f, .int .i64 X.g] 63))
      clear hA OLx
      obtain ⟨⟨z0, z1, z2, z3, z4, z5, z6⟩, f0, f1, f2, f3, f4, f5, f6⟩ := v7_facts VW.out
      go_wp2_with fail
      clear z0 z1 z2 z3 z4 z5 z6 f0 f1 f2 f3 f4 f5 f6
      have SX := hid (show w.heap.size ≤ w1.heap.size by have := G.out.size; have := GSZ.out; omega)
      generalize w1.alloc (.cells #[.int .i64 X.a, .int .i64 X.b, .int .i64 X.c, .int .i64 X.d, .int .i64 X.e, .int .i64 X.f, .int .i64 X.g] 63) = w2 at *
      obtain ⟨gw, hg⟩ : ∃ g, g = w1.heap.size := ⟨_, rfl⟩
      rw [← hg] at VW GU SX ⊢
      have GW := hid (show gw ≠ g by have := SX.out; have := GV.out; omega)
      clear hg GSZ
      refine (next w0 w2 g v l _ 14 S.out (by omega) (by omega) hl).mono ?_
      rintro e w3 ⟨r, rfl, -, hS, hG⟩
      replace S := hid hS
      replace OL := hid (OL.out.keepG hG GV.out)
      replace VW := hid (var_grown hG VW.out (fun e => by have := Option.some.inj e; have := GW.out; omega))
      replace G := hid (grown_trans G.out hG)
      clear hS hG
      by_cases r0 : r = 0
      · subst r0
        have VL := hid (show Lst (w3.alloc (.cells #[.int .i64 0, .int .i64 5] 2)) w3.heap.size [0, 5] from heap_alloc_new w3 (.cells #[.int .i64 0, .int .i64 5] 2))
        have BA := below_alloc1 w3 (.cells #[.int .i64 0, .int .i64 5] 2)
        have NG := hid (show w3.heap.size ≠ g by have := var_lt S.out.cells; omega)
        replace S := hid (S.out.later BA)
        replace OL := hid (OL.out.below BA)
        replace VW := hid (var_below BA VW.out)
        replace G := hid (grown_alloc G.out (.cells #[.int .i64 0, .int .i64 5] 2))
        clear BA
        go_wp2_with fail
        refine (pick' w0 _ g w3.heap.size 2 v l _ [0, 5] S.out (by omega) hl VL.out NG.out rfl (by omega) (by omega)).mono ?_
        rintro e w4 ⟨x, -, rfl, hS, hG⟩
        replace S := hid hS
        replace OL := hid (OL.out.keepG hG GV.out)
        replace VW := hid (var_grown hG VW.out (fun e => by have := Option.some.inj e; have := GW.out; omega))
        replace G := hid (grown_trans G.out hG)
        clear hS hG
        clear VL NG
        obtain ⟨⟨z0, z1, z2, z3, z4, z5, z6⟩, f0, f1, f2, f3, f4, f5, f6⟩ := v7_facts VW.out
        go_upto_region 20 with fail
        clear z0 z1 z2 z3 z4 z5 z6 f0 f1 f2 f3 f4 f5 f6
        have e1 := heap_setCell_same w4 gw 0 _ _ (.int .i64 x) VW.out
        obtain ⟨Y, hY⟩ : ∃ Y, Y = (⟨x, X.b, X.c, X.d, X.e, X.f, X.g⟩ : Wai) := ⟨_, rfl⟩
        have VY := hid (show (w4.setCell ⟨gw, 0, none⟩ (.int .i64 x)).heap[gw]? = some (.cells #[.int .i64 Y.a, .int .i64 Y.b, .int .i64 Y.c, .int .i64 Y.d, .int .i64 Y.e, .int .i64 Y.f, .int .i64 Y.g] 63) by rw [hY]; simpa using e1)
        replace OL := hid (OL.out.setNj (i := 0) (x := .int .i64 x) GU.out)
        replace S := hid (src_set (i := 0) (V := gw) S.out (fun e => GW.out e.symm) (by have := SX.out; have := NV.out; omega) (.int .i64 x))
        replace G := hid (grown_set (i := 0) (V := gw) G.out SX.out (.int .i64 x))
        clear VW e1 hY
        have VW := VY
        clear VY
        generalize w4.setCell ⟨gw, 0, none⟩ (.int .i64 x) = w5a at *
        obtain ⟨⟨z0, z1, z2, z3, z4, z5, z6⟩, -⟩ := v7_facts VW.out
        have B4 := below_alloc1 w5a (.cells #[.int .i64 Y.a, .int .i64 Y.b, .int .i64 Y.c, .int .i64 Y.d, .int .i64 Y.e, .int .i64 Y.f, .int .i64 Y.g] 63)
        have R4 := hid (j_at (c := Y) (heap_alloc_new w5a (.cells #[.int .i64 Y.a, .int .i64 Y.b, .int .i64 Y.c, .int .i64 Y.d, .int .i64 Y.e, .int .i64 Y.f, .int .i64 Y.g] 63)))
        have O4 := hid (OL.out.below B4)
        have S4 := hid (S.out.later B4)
        have G4 := hid (grown_trans G.out (grown_of_below B4 (some g)))
        have Z4 := hid (show w.heap.size ≤ (w5a.alloc (.cells #[.int .i64 Y.a, .int .i64 Y.b, .int .i64 Y.c, .int .i64 Y.d, .int .i64 Y.e, .int .i64 Y.f, .int .i64 Y.g] 63)).heap.size from G4.out.size)
        have L4 := hid (show cs.length ≤ 4194304 by omega)
        clear B4 OL S G
        go_wp2_with (at_builtin; refine list_appJ rfl _ _ rfl _ cs Y w.heap.size w5a.heap.size 1 rfl rfl O4.out R4.out L4.out Z4.out ?_; intro g5 cap5 w5 hO hG hL; have S5 := hid (S4.out.grown hG (fun e => by have := O4.out.lt g e.symm; have := GV.out; omega) (fun b e => by have := O4.out.lt b e; have := NV.out; omega)); have G5 := hid (grownNj G4.out hG (fun b e => (O4.out.lt b e).1)); have O5 := hid hO)
        clear hO hG O4 S4 G4 R4 L4 hL
        go_ret
        first | exact ⟨_, cs ++ [Y], _, rfl, O5.out, by simp; omega, by omega, S5.out, G5.out⟩ | exact ⟨_, rfl, cs ++ [Y], O5.out, by simp; omega, _, by omega, S5.out, G5.out⟩
      by_cases r1 : r = 1
      · subst r1
        clear r0
        have VL := hid (show Lst (w3.alloc (.cells #[.int .i64 (-1), .int .i64 1000001] 2)) w3.heap.size [-1, 1000001] from heap_alloc_new w3 (.cells #[.int .i64 (-1), .int .i64 1000001] 2))
        have BA := below_alloc1 w3 (.cells #[.int .i64 (-1), .int .i64 1000001] 2)
        have NG := hid (show w3.heap.size ≠ g by have := var_lt S.out.cells; omega)
        replace S := hid (S.out.later BA)
        replace OL := hid (OL.out.below BA)
        replace VW := hid (var_below BA VW.out)
        replace G := hid (grown_alloc G.out (.cells #[.int .i64 (-1), .int .i64 1000001] 2))
        clear BA
        go_wp2_with fail
        refine (pick' w0 _ g w3.heap.size 2 v l _ [-1, 1000001] S.out (by omega) hl VL.out NG.out rfl (by omega) (by omega)).mono ?_
        rintro e w4 ⟨x, -, rfl, hS, hG⟩
        replace S := hid hS
        replace OL := hid (OL.out.keepG hG GV.out)
        replace VW := hid (var_grown hG VW.out (fun e => by have := Option.some.inj e; have := GW.out; omega))
        replace G := hid (grown_trans G.out hG)
        clear hS hG
        clear VL NG
        obtain ⟨⟨z0, z1, z2, z3, z4, z5, z6⟩, f0, f1, f2, f3, f4, f5, f6⟩ := v7_facts VW.out
        go_upto_region 20 with fail
        clear z0 z1 z2 z3 z4 z5 z6 f0 f1 f2 f3 f4 f5 f6
        have e1 := heap_setCell_same w4 gw 1 _ _ (.int .i64 x) VW.out
        obtain ⟨Y, hY⟩ : ∃ Y, Y = (⟨X.a, x, X.c, X.d, X.e, X.f, X.g⟩ : Wai) := ⟨_, rfl⟩
        have VY := hid (show (w4.setCell ⟨gw, 1, none⟩ (.int .i64 x)).heap[gw]? = some (.cells #[.int .i64 Y.a, .int .i64 Y.b, .int .i64 Y.c, .int .i64 Y.d, .int .i64 Y.e, .int .i64 Y.f, .int .i64 Y.g] 63) by rw [hY]; simpa using e1)
        replace OL := hid (OL.out.setNj (i := 1) (x := .int .i64 x) GU.out)
        replace S := hid (src_set (i := 1) (V := gw) S.out (fun e => GW.out e.symm) (by have := SX.out; have := NV.out; omega) (.int .i64 x))
        replace G := hid (grown_set (i := 1) (V := gw) G.out SX.out (.int .i64 x))
        clear VW e1 hY
        have VW := VY
        clear VY
        generalize w4.setCell ⟨gw, 1, none⟩ (.int .i64 x) = w5a at *
        obtain ⟨⟨z0, z1, z2, z3, z4, z5, z6⟩, -⟩ := v7_facts VW.out
        have B4 := below_alloc1 w5a (.cells #[.int .i64 Y.a, .int .i64 Y.b, .int .i64 Y.c, .int .i64 Y.d, .int .i64 Y.e, .int .i64 Y.f, .int .i64 Y.g] 63)
        have R4 := hid (j_at (c := Y) (heap_alloc_new w5a (.cells #[.int .i64 Y.a, .int .i64 Y.b, .int .i64 Y.c, .int .i64 Y.d, .int .i64 Y.e, .int .i64 Y.f, .int .i64 Y.g] 63)))
        have O4 := hid (OL.out.below B4)
        have S4 := hid (S.out.later B4)
        have G4 := hid (grown_trans G.out (grown_of_below B4 (some g)))
        have Z4 := hid (show w.heap.size ≤ (w5a.alloc (.cells #[.int .i64 Y.a, .int .i64 Y.b, .int .i64 Y.c, .int .i64 Y.d, .int .i64 Y.e, .int .i64 Y.f, .int .i64 Y.g] 63)).heap.size from G4.out.size)
        have L4 := hid (show cs.length ≤ 4194304 by omega)
        clear B4 OL S G
        go_wp2_with (at_builtin; refine list_appJ rfl _ _ rfl _ cs Y w.heap.size w5a.heap.size 1 rfl rfl O4.out R4.out L4.out Z4.out ?_; intro g5 cap5 w5 hO hG hL; have S5 := hid (S4.out.grown hG (fun e => by have := O4.out.lt g e.symm; have := GV.out; omega) (fun b e => by have := O4.out.lt b e; have := NV.out; omega)); have G5 := hid (grownNj G4.out hG (fun b e => (O4.out.lt b e).1)); have O5 := hid hO)
        clear hO hG O4 S4 G4 R4 L4 hL
        go_ret
        first | exact ⟨_, cs ++ [Y], _, rfl, O5.out, by simp; omega, by omega, S5.out, G5.out⟩ | exact ⟨_, rfl, cs ++ [Y], O5.out, by simp; omega, _, by omega, S5.out, G5.out⟩
      by_cases r2 : r = 2
      · subst r2
        clear r0 r1
        have VL := hid (show Lst (w3.alloc (.cells #[.int .i64 0, .int .i64 10] 2)) w3.heap.size [0, 10] from heap_alloc_new w3 (.cells #[.int .i64 0, .int .i64 10] 2))
        have BA := below_alloc1 w3 (.cells #[.int .i64 0, .int .i64 10] 2)
        have NG := hid (show w3.heap.size ≠ g by have := var_lt S.out.cells; omega)
        replace S := hid (S.out.later BA)
        replace OL := hid (OL.out.below BA)
        replace VW := hid (var_below BA VW.out)
        replace G := hid (grown_alloc G.out (.cells #[.int .i64 0, .int .i64 10] 2))
        clear BA
        go_wp2_with fail
        refine (pick' w0 _ g w3.heap.size 2 v l _ [0, 10] S.out (by omega) hl VL.out NG.out rfl (by omega) (by omega)).mono ?_
        rintro e w4 ⟨x, -, rfl, hS, hG⟩
        replace S := hid hS
        replace OL := hid (OL.out.keepG hG GV.out)
        replace VW := hid (var_grown hG VW.out (fun e => by have := Option.some.inj e; have := GW.out; omega))
        replace G := hid (grown_trans G.out hG)
        clear hS hG
        clear VL NG
        obtain ⟨⟨z0, z1, z2, z3, z4, z5, z6⟩, f0, f1, f2, f3, f4, f5, f6⟩ := v7_facts VW.out
        go_upto_region 20 with fail
        clear z0 z1 z2 z3 z4 z5 z6 f0 f1 f2 f3 f4 f5 f6
        have e1 := heap_setCell_same w4 gw 4 _ _ (.int .i64 x) VW.out
        obtain ⟨Y, hY⟩ : ∃ Y, Y = (⟨X.a, X.b, X.c, X.d, x, X.f, X.g⟩ : Wai) := ⟨_, rfl⟩
        have VY := hid (show (w4.setCell ⟨gw, 4, none⟩ (.int .i64 x)).heap[gw]? = some (.cells #[.int .i64 Y.a, .int .i64 Y.b, .int .i64 Y.c, .int .i64 Y.d, .int .i64 Y.e, .int .i64 Y.f, .int .i64 Y.g] 63) by rw [hY]; simpa using e1)
        replace OL := hid (OL.out.setNj (i := 4) (x := .int .i64 x) GU.out)
        replace S := hid (src_set (i := 4) (V := gw) S.out (fun e => GW.out e.symm) (by have := SX.out; have := NV.out; omega) (.int .i64 x))
        replace G := hid (grown_set (i := 4) (V := gw) G.out SX.out (.int .i64 x))
        clear VW e1 hY
        have VW := VY
        clear VY
        generalize w4.setCell ⟨gw, 4, none⟩ (.int .i64 x) = w5a at *
        obtain ⟨⟨z0, z1, z2, z3, z4, z5, z6⟩, -⟩ := v7_facts VW.out
        have B4 := below_alloc1 w5a (.cells #[.int .i64 Y.a, .int .i64 Y.b, .int .i64 Y.c, .int .i64 Y.d, .int .i64 Y.e, .int .i64 Y.f, .int .i64 Y.g] 63)
        have R4 := hid (j_at (c := Y) (heap_alloc_new w5a (.cells #[.int .i64 Y.a, .int .i64 Y.b, .int .i64 Y.c, .int .i64 Y.d, .int .i64 Y.e, .int .i64 Y.f, .int .i64 Y.g] 63)))
        have O4 := hid (OL.out.below B4)
        have S4 := hid (S.out.later B4)
        have G4 := hid (grown_trans G.out (grown_of_below B4 (some g)))
        have Z4 := hid (show w.heap.size ≤ (w5a.alloc (.cells #[.int .i64 Y.a, .int .i64 Y.b, .int .i64 Y.c, .int .i64 Y.d, .int .i64 Y.e, .int .i64 Y.f, .int .i64 Y.g] 63)).heap.size from G4.out.size)
        have L4 := hid (show cs.length ≤ 4194304 by omega)
        clear B4 OL S G
        go_wp2_with (at_builtin; refine list_appJ rfl _ _ rfl _ cs Y w.heap.size w5a.heap.size 1 rfl rfl O4.out R4.out L4.out Z4.out ?_; intro g5 cap5 w5 hO hG hL; have S5 := hid (S4.out.grown hG (fun e => by have := O4.out.lt g e.symm; have := GV.out; omega) (fun b e => by have := O4.out.lt b e; have := NV.out; omega)); have G5 := hid (grownNj G4.out hG (fun b e => (O4.out.lt b e).1)); have O5 := hid hO)
        clear hO hG O4 S4 G4 R4 L4 hL
        go_ret
        first | exact ⟨_, cs ++ [Y], _, rfl, O5.out, by simp; omega, by omega, S5.out, G5.out⟩ | exact ⟨_, rfl, cs ++ [Y], O5.out, by simp; omega, _, by omega, S5.out, G5.out⟩
      by_cases r3 : r = 3
      · subst r3
        clear r0 r1 r2
        have VL := hid (show Lst (w3.alloc (.cells #[.int .i64 1, .int .i64 4, .int .i64 (-1)] 2)) w3.heap.size [1, 4, -1] from heap_alloc_new w3 (.cells #[.int .i64 1, .int .i64 4, .int .i64 (-1)] 2))
        have BA := below_alloc1 w3 (.cells #[.int .i64 1, .int .i64 4, .int .i64 (-1)] 2)
        have NG := hid (show w3.heap.size ≠ g by have := var_lt S.out.cells; omega)
        replace S := hid (S.out.later BA)
        replace OL := hid (OL.out.below BA)
        replace VW := hid (var_below BA VW.out)
        replace G := hid (grown_alloc G.out (.cells #[.int .i64 1, .int .i64 4, .int .i64 (-1)] 2))
        clear BA
        go_wp2_with fail
        refine (pick' w0 _ g w3.heap.size 3 v l _ [1, 4, -1] S.out (by omega) hl VL.out NG.out rfl (by omega) (by omega)).mono ?_
        rintro e w4 ⟨x, -, rfl, hS, hG⟩
        replace S := hid hS
        replace OL := hid (OL.out.keepG hG GV.out)
        replace VW := hid (var_grown hG VW.out (fun e => by have := Option.some.inj e; have := GW.out; omega))
        replace G := hid (grown_trans G.out hG)
        clear hS hG
        clear VL NG
        obtain ⟨⟨z0, z1, z2, z3, z4, z5, z6⟩, f0, f1, f2, f3, f4, f5, f6⟩ := v7_facts VW.out
        go_upto_region 20 with fail
        clear z0 z1 z2 z3 z4 z5 z6 f0 f1 f2 f3 f4 f5 f6
        have e1 := heap_setCell_same w4 gw 5 _ _ (.int .i64 x) VW.out
        obtain ⟨Y, hY⟩ : ∃ Y, Y = (⟨X.a, X.b, X.c, X.d, X.e, x, X.g⟩ : Wai) := ⟨_, rfl⟩
        have VY := hid (show (w4.setCell ⟨gw, 5, none⟩ (.int .i64 x)).heap[gw]? = some (.cells #[.int .i64 Y.a, .int .i64 Y.b, .int .i64 Y.c, .int .i64 Y.d, .int .i64 Y.e, .int .i64 Y.f, .int .i64 Y.g] 63) by rw [hY]; simpa using e1)
        replace OL := hid (OL.out.setNj (i := 5) (x := .int .i64 x) GU.out)
        replace S := hid (src_set (i := 5) (V := gw) S.out (fun e => GW.out e.symm) (by have := SX.out; have := NV.out; omega) (.int .i64 x))
        replace G := hid (grown_set (i := 5) (V := gw) G.out SX.out (.int .i64 x))
        clear VW e1 hY
        have VW := VY
        clear VY
        generalize w4.setCell ⟨gw, 5, none⟩ (.int .i64 x) = w5a at *
        obtain ⟨⟨z0, z1, z2, z3, z4, z5, z6⟩, -⟩ := v7_facts VW.out
        have B4 := below_alloc1 w5a (.cells #[.int .i64 Y.a, .int .i64 Y.b, .int .i64 Y.c, .int .i64 Y.d, .int .i64 Y.e, .int .i64 Y.f, .int .i64 Y.g] 63)
        have R4 := hid (j_at (c := Y) (heap_alloc_new w5a (.cells #[.int .i64 Y.a, .int .i64 Y.b, .int .i64 Y.c, .int .i64 Y.d, .int .i64 Y.e, .int .i64 Y.f, .int .i64 Y.g] 63)))
        have O4 := hid (OL.out.below B4)
        have S4 := hid (S.out.later B4)
        have G4 := hid (grown_trans G.out (grown_of_below B4 (some g)))
        have Z4 := hid (show w.heap.size ≤ (w5a.alloc (.cells #[.int .i64 Y.a, .int .i64 Y.b, .int .i64 Y.c, .int .i64 Y.d, .int .i64 Y.e, .int .i64 Y.f, .int .i64 Y.g] 63)).heap.size from G4.out.size)
        have L4 := hid (show cs.length ≤ 4194304 by omega)
        clear B4 OL S G
        go_wp2_with (at_builtin; refine list_appJ rfl _ _ rfl _ cs Y w.heap.size w5a.heap.size 1 rfl rfl O4.out R4.out L4.out Z4.out ?_; intro g5 cap5 w5 hO hG hL; have S5 := hid (S4.out.grown hG (fun e => by have := O4.out.lt g e.symm; have := GV.out; omega) (fun b e => by have := O4.out.lt b e; have := NV.out; omega)); have G5 := hid (grownNj G4.out hG (fun b e => (O4.out.lt b e).1)); have O5 := hid hO)
        clear hO hG O4 S4 G4 R4 L4 hL
        go_ret
        first | exact ⟨_, cs ++ [Y], _, rfl, O5.out, by simp; omega, by omega, S5.out, G5.out⟩ | exact ⟨_, rfl, cs ++ [Y], O5.out, by simp; omega, _, by omega, S5.out, G5.out⟩
      by_cases r4 : r = 4
      · subst r4
        clear r0 r1 r2 r3
        have VL := hid (show Lst (w3.alloc (.cells #[.int .i64 39, .int .i64 40] 2)) w3.heap.size [39, 40] from heap_alloc_new w3 (.cells #[.int .i64 39, .int .i64 40] 2))
        have BA := below_alloc1 w3 (.cells #[.int .i64 39, .int .i64 40] 2)
        have NG := hid (show w3.heap.size ≠ g by have := var_lt S.out.cells; omega)
        replace S := hid (S.out.later BA)
        replace OL := hid (OL.out.below BA)
        replace VW := hid (var_below BA VW.out)
        replace G := hid (grown_alloc G.out (.cells #[.int .i64 39, .int .i64 40] 2))
        clear BA
        go_wp2_with fail
        refine (pick' w0 _ g w3.heap.size 2 v l _ [39, 40] S.out (by omega) hl VL.out NG.out rfl (by omega) (by omega)).mono ?_
        rintro e w4 ⟨n, hn, rfl, hS, hG⟩
        replace S := hid hS
        replace OL := hid (OL.out.keepG hG GV.out)
        replace VW := hid (var_grown hG VW.out (fun e => by have := Option.some.inj e; have := GW.out; omega))
        replace G := hid (grown_trans G.out hG)
        clear hS hG
        obtain ⟨q, rfl, hq1, hq2⟩ : ∃ q : Nat, n = (q : Int) ∧ q ≤ 40 ∧ 39 ≤ q := ⟨n.toNat, by simp at hn; omega, by simp at hn; omega, by simp at hn; omega⟩
        clear hn VL NG
        go_wp2_with fail
        go_loopw [3] (fun s3 wr => ∃ u : Value, ∃ cs : List Wai, ∃ t' : Nat, s3 = u ∧ cs.length ≤ 40 ∧ t' ≤ t + 60 + cs.length * 7 ∧ Hid (OwJ wr w.heap.size u cs) ∧ Hid (Src w0 wr g v l t') ∧ Hid (w.grownBy wr (some g)) ∧ Hid (wr.heap[gw]? = some (.cells #[.int .i64 X.a, .int .i64 X.b, .int .i64 X.c, .int .i64 X.d, .int .i64 X.e, .int .i64 X.f, .int .i64 X.g] 63)) ∧ Hid (∀ b, u.ownBlock = some b → b ≠ gw)) (fun s3 _ => 40 - lenV s3)
        case atStart => exact ⟨_, cs, _, rfl, by omega, by omega, OL, S, G, VW, GU⟩
        case round =>
          clear S G OL VW GU hc htt
          obtain ⟨u, cs, t', rfl, hc, htt, OL, S, G, VW, GU⟩ := hrel
          obtain ⟨pu, cu, rfl, -, -, -⟩ := OL.out.rd.parts
          by_cases hlt : cs.length < q
          · have hli : (cs.length : Int) < (q : Int) := by omega
            go_wp2_with fail
            refine (l9d w0 wr g v l _ S.out (by omega) hl).mono ?_
            rintro e w5x ⟨Z, rfl, ⟨t9, ht9, hS⟩, hG⟩
            replace S := hid hS
            replace OL := hid (OL.out.keepG hG GV.out)
            replace VW := hid (var_grown hG VW.out (fun e => by have := Option.some.inj e; have := GW.out; omega))
            replace G := hid (grown_trans G.out hG)
            clear hS hG
            have B4 := below_alloc1 w5x (.cells #[.int .i64 Z.a, .int .i64 Z.b, .int .i64 Z.c, .int .i64 Z.d, .int .i64 Z.e, .int .i64 Z.f, .int .i64 Z.g] 63)
            have R4 := hid (j_at (c := Z) (heap_alloc_new w5x (.cells #[.int .i64 Z.a, .int .i64 Z.b, .int .i64 Z.c, .int .i64 Z.d, .int .i64 Z.e, .int .i64 Z.f, .int .i64 Z.g] 63)))
            have O4 := hid (OL.out.below B4)
            have S4 := hid (S.out.later B4)
            have G4 := hid (grown_trans G.out (grown_of_below B4 (some g)))
            have Z4 := hid (show w.heap.size ≤ (w5x.alloc (.cells #[.int .i64 Z.a, .int .i64 Z.b, .int .i64 Z.c, .int .i64 Z.d, .int .i64 Z.e, .int .i64 Z.f, .int .i64 Z.g] 63)).heap.size from G4.out.size)
            have V4 := hid (var_below B4 VW.out)
            have L4 := hid (show cs.length ≤ 4194304 by omega)
            clear B4 OL S G VW
            go_wp2_with (at_builtin; refine list_appJ rfl _ _ rfl _ cs Z w.heap.size w5x.heap.size 1 rfl rfl O4.out R4.out L4.out Z4.out ?_; intro g5 cap5 w5 hO hG hL; have S5 := hid (S4.out.grown hG (fun e => by have := O4.out.lt g e.symm; have := GV.out; omega) (fun b e => by have := O4.out.lt b e; have := NV.out; omega)); have G5 := hid (grownNj G4.out hG (fun b e => (O4.out.lt b e).1)); have O5 := hid hO; have V5 := hid (var_grown hG V4.out (fun e => GU.out _ e.symm rfl)); have U5 := hid (show ∀ b, (Value.slice (some ⟨g5, 0, none⟩) (cs.length + 1) cap5).ownBlock = some b → b ≠ gw from fun b e => by cases e; exact lies_ne hL GU.out V4.out))
            clear hO hG O4 S4 G4 R4 L4 hL
            go_roundw
            case rel => exact ⟨_, cs ++ [Z], _, rfl, by simp; omega, by simp; omega, O5, S5, G5, V5, U5⟩
            case measure => simp [lenV]; omega
          · have hli : ¬ (cs.length : Int) < (q : Int) := by omega
            obtain ⟨⟨z0, z1, z2, z3, z4, z5, z6⟩, -⟩ := v7_facts VW.out
            have B4 := below_alloc1 wr (.cells #[.int .i64 X.a, .int .i64 X.b, .int .i64 X.c, .int .i64 X.d, .int .i64 X.e, .int .i64 X.f, .int .i64 X.g] 63)
            have R4 := hid (j_at (c := X) (heap_alloc_new wr (.cells #[.int .i64 X.a, .int .i64 X.b, .int .i64 X.c, .int .i64 X.d, .int .i64 X.e, .int .i64 X.f, .int .i64 X.g] 63)))
            have O4 := hid (OL.out.below B4)
            have S4 := hid (S.out.later B4)
            have G4 := hid (grown_trans G.out (grown_of_below B4 (some g)))
            have Z4 := hid (show w.heap.size ≤ (wr.alloc (.cells #[.int .i64 X.a, .int .i64 X.b, .int .i64 X.c, .int .i64 X.d, .int .i64 X.e, .int .i64 X.f, .int .i64 X.g] 63)).heap.size from G4.out.size)
            have L4 := hid (show cs.length ≤ 4194304 by omega)
            clear B4 OL S G
            go_wp2_with (at_builtin; refine list_appJ rfl _ _ rfl _ cs X w.heap.size wr.heap.size 1 rfl rfl O4.out R4.out L4.out Z4.out ?_; intro g5 cap5 w5 hO hG hL; have S5 := hid (S4.out.grown hG (fun e => by have := O4.out.lt g e.symm; have := GV.out; omega) (fun b e => by have := O4.out.lt b e; have := NV.out; omega)); have G5 := hid (grownNj G4.out hG (fun b e => (O4.out.lt b e).1)); have O5 := hid hO)
            clear hO hG O4 S4 G4 R4 L4 hL
            go_ret
            first | exact ⟨_, cs ++ [X], _, rfl, O5.out, by simp; omega, by omega, S5.out, G5.out⟩ | exact ⟨_, rfl, cs ++ [X], O5.out, by simp; omega, _, by omega, S5.out, G5.out⟩
      have e0 : (r == 0) = false := by simpa using r0
      have e1 : (r == 1) = false := by simpa using r1
      have e2 : (r == 2) = false := by simpa using r2
      have e3 : (r == 3) = false := by simpa using r3
      have e4 : (r == 4) = false := by simpa using r4
      clear r0 r1 r2 r3 r4
      obtain ⟨⟨z0, z1, z2, z3, z4, z5, z6⟩, -⟩ := v7_facts VW.out
      have B4 := below_alloc1 w3 (.cells #[.int .i64 X.a, .int .i64 X.b, .int .i64 X.c, .int .i64 X.d, .int .i64 X.e, .int .i64 X.f, .int .i64 X.g] 63)
      have R4 := hid (j_at (c := X) (heap_alloc_new w3 (.cells #[.int .i64 X.a, .int .i64 X.b, .int .i64 X.c, .int .i64 X.d, .int .i64 X.e, .int .i64 X.f, .int .i64 X.g] 63)))
      have O4 := hid (OL.out.below B4)
      have S4 := hid (S.out.later B4)
      have G4 := hid (grown_trans G.out (grown_of_below B4 (some g)))
      have Z4 := hid (show w.heap.size ≤ (w3.alloc (.cells #[.int .i64 X.a, .int .i64 X.b, .int .i64 X.c, .int .i64 X.d, .int .i64 X.e, .int .i64 X.f, .int .i64 X.g] 63)).heap.size from G4.out.size)
      have L4 := hid (show cs.length ≤ 4194304 by omega)
      clear B4 OL S G
      go_wp2_with (at_builtin; refine list_appJ rfl _ _ rfl _ cs X w.heap.size w3.heap.size 1 rfl rfl O4.out R4.out L4.out Z4.out ?_; intro g5 cap5 w5 hO hG hL; have S5 := hid (S4.out.grown hG (fun e => by have := O4.out.lt g e.symm; have := GV.out; omega) (fun b e => by have := O4.out.lt b e; have := NV.out; omega)); have G5 := hid (grownNj G4.out hG (fun b e => (O4.out.lt b e).1)); have O5 := hid hO)
      clear hO hG O4 S4 G4 R4 L4 hL
      go_ret
      first | exact ⟨_, cs ++ [X], _, rfl, O5.out, by simp; omega, by omega, S5.out, G5.out⟩ | exact ⟨_, rfl, cs ++ [X], O5.out, by simp; omega, _, by omega, S5.out, G5.out⟩
set_option maxHeartbeats 8000000 in
set_option maxRecDepth 100000 in
theorem drAw (v : Value) (l : List Nat) (w : World) (h : Rd w v l) (y : Byt l) (hl : l.length ≤ 1048576) :
    Calls Try.prog 18 #[v] w fun e w' => ∃ (u : Value) (cs : List Wai), e = .returned u ∧ RdJ w' u cs ∧ cs.length ≤ 48 ∧ Below w.heap.size w w' := by
  have RC := hid h
  obtain ⟨q, cap, rfl, -, -, -⟩ := h.parts
  clear h
  go_enter Try.func18, Try.ntmps18
  go_wp2_with fail
  refine (source _ l w RC.out y).mono ?_
  rintro e w1 ⟨rfl, hS⟩
  have S := hid hS
  clear hS
  obtain ⟨gs, hgs⟩ : ∃ q, q = w.heap.size := ⟨_, rfl⟩
  rw [← hgs] at S ⊢
  clear hgs
  go_wp2_with fail
  refine (l9b w w1 gs _ l 0 S.out (by omega) hl).mono ?_
  rintro e w2 ⟨u, cs, t', rfl, hO, hc, htt, hS, hG⟩
  obtain ⟨pu, cu, rfl, -, -, -⟩ := hO.rd.parts
  have GS := hid (show gs < w1.heap.size from var_lt S.out.cells)
  have OL := hid hO
  replace S := hid hS
  clear hO hS hG
  go_wp2
  go_ret
  exact ⟨.slice pu cs.length cu, cs, rfl, OL.out.rd, hc.2, S.out.bel⟩
set_option maxHeartbeats 8000000 in
set_option maxRecDepth 100000 in
theorem drCw (v : Value) (l : List Nat) (w : World) (h : Rd w v l) (y : Byt l) (hl : l.length ≤ 1048576) :
    Calls Try.prog 20 #[v] w fun e w' => ∃ (u : Value) (cs : List Wai) (n : Int), e = .returned (.tuple #[u, .int .i64 n]) ∧ RdJ w' u cs ∧ cs.length ≤ 48 ∧ Below w.heap.size w w' := by
  have RC := hid h
  obtain ⟨q, cap, rfl, -, -, -⟩ := h.parts
  clear h
  go_enter Try.func20, Try.ntmps20
  go_wp2_with fail
  refine (source _ l w RC.out y).mono ?_
  rintro e w1 ⟨rfl, hS⟩
  have S := hid hS
  clear hS
  obtain ⟨gs, hgs⟩ : ∃ q, q = w.heap.size := ⟨_, rfl⟩
  rw [← hgs] at S ⊢
  clear hgs
  go_wp2_with fail
  refine (l9b w w1 gs _ l 0 S.out (by omega) hl).mono ?_
  rintro e w2 ⟨u, cs, t', rfl, hO, hc, htt, hS, hG⟩
  obtain ⟨pu, cu, rfl, -, -, -⟩ := hO.rd.parts
  have GS := hid (show gs < w1.heap.size from var_lt S.out.cells)
  have OL := hid hO
  replace S := hid hS
  clear hO hS hG
  have VL := hid (show Lst (w2.alloc (.cells #[.int .i64 0, .int .i64 1, .int .i64 2, .int .i64 3, .int .i64 (-1), .int .i64 1000001] 2)) w2.heap.size [0, 1, 2, 3, -1, 1000001] from heap_alloc_new w2 (.cells #[.int .i64 0, .int .i64 1, .int .i64 2, .int .i64 3, .int .i64 (-1), .int .i64 1000001] 2))
  have BA := below_alloc1 w2 (.cells #[.int .i64 0, .int .i64 1, .int .i64 2, .int .i64 3, .int .i64 (-1), .int .i64 1000001] 2)
  have NG := hid (show w2.heap.size ≠ gs by have := var_lt S.out.cells; omega)
  replace S := hid (S.out.later BA)
  replace OL := hid (OL.out.below BA)
  clear BA
  go_wp2_with fail
  refine (pick' w _ gs w2.heap.size 6 _ l _ [0, 1, 2, 3, -1, 1000001] S.out (by omega) hl VL.out NG.out rfl (by omega) (by omega)).mono ?_
  rintro e w3 ⟨x, -, rfl, hS, hG⟩
  replace OL := hid (OL.out.keepG hG GS.out)
  replace S := hid hS
  clear hS hG VL NG
  go_wp2
  go_ret2
  exact ⟨.slice pu cs.length cu, cs, x, rfl, OL.out.rd, hc.2, S.out.bel⟩
end Go.Proofs.Ytalaolfcdaaaoaa.W
