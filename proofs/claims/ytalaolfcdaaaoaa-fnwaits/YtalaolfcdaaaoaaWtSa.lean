/-
  Waits that are parted by the model: l9Age, l9Clear, AgeWaits, ClearWaits.
-/
import Derived.Test.YtalaolfcdaaaoaaWtP
import Derived.Test.YtalaolfcdaaaoaaWtA
namespace Go.Proofs.Ytalaolfcdaaaoaa.W
open Go.ChangeShapes Go.WideShapes Go.ChangeAt Go.RowKit
open Go.Proofs.Ytalaolfcdaaaoaa.M
theorem var3_facts2 {w' : World} {g : Nat} {x y z : Value} {T : TypeId} (h : w'.heap[g]? = some (.cells #[x, y, z] T)) :
    (w'.cell? ⟨g, 0, none⟩ = some x ∧ w'.cell? ⟨g, 1, none⟩ = some y ∧ w'.cell? ⟨g, 2, none⟩ = some z) ∧ w'.frozen? ⟨g, 0, none⟩ = false ∧ w'.frozen? ⟨g, 1, none⟩ = false ∧ w'.frozen? ⟨g, 2, none⟩ = false :=
  ⟨⟨by rw [cell_of_row w' g 0 _ _ _ h]; rfl, by rw [cell_of_row w' g 1 _ _ _ h]; rfl, by rw [cell_of_row w' g 2 _ _ _ h]; rfl⟩, frozen_of_row w' g 0 _ T h, frozen_of_row w' g 1 _ T h, frozen_of_row w' g 2 _ T h⟩
theorem var3_set2 {w' : World} {g : Nat} {x y z x' y' z' : Value} {T : TypeId} (h : w'.heap[g]? = some (.cells #[x, y, z] T)) :
    (((w'.setCell ⟨g, 0, none⟩ x').setCell ⟨g, 1, none⟩ y').setCell ⟨g, 2, none⟩ z').heap[g]? = some (.cells #[x', y', z'] T) := by
  have h1 := heap_setCell_same w' g 0 _ T x' h
  have h2 := heap_setCell_same _ g 1 _ T y' h1
  have h3 := heap_setCell_same _ g 2 _ T z' h2
  simpa using h3
theorem below_set3 {w w' : World} {g : Nat} {x y z : Value} (hB : Below w.heap.size w w') (hg : w.heap.size ≤ g) : Below w.heap.size w (((w'.setCell ⟨g, 0, none⟩ x).setCell ⟨g, 1, none⟩ y).setCell ⟨g, 2, none⟩ z) :=
  ((hB.setCell (p := ⟨g, 0, none⟩) hg x).setCell (p := ⟨g, 1, none⟩) hg y).setCell (p := ⟨g, 2, none⟩) hg z
theorem OwJ.set3 {w : World} {lo g : Nat} {v x y z : Value} {cs : List Wai} (h : OwJ w lo v cs) (hg : g < lo) : OwJ (((w.setCell ⟨g, 0, none⟩ x).setCell ⟨g, 1, none⟩ y).setCell ⟨g, 2, none⟩ z) lo v cs :=
  ownsRow_setCell_below (ownsRow_setCell_below (ownsRow_setCell_below h (a := ⟨g, 0, none⟩) hg x) (a := ⟨g, 1, none⟩) hg y) (a := ⟨g, 2, none⟩) hg z
theorem vlt {w : World} {g : Nat} {o : Obj} (h : w.heap[g]? = some o) : g < w.heap.size := (Array.getElem?_eq_some_iff.1 h).1
set_option maxHeartbeats 2000000 in
set_option maxRecDepth 100000 in
theorem l9age (v : Value) (cs : List Wai) (w : World) (h : RdJ w v cs) (hf : ∀ k (hk : k < cs.length), 1 ≤ cs[k].e ∧ cs[k].e ≤ 9) (hl : cs.length ≤ 40) :
    Calls Try.prog 84 #[v] w fun e w' => ∃ x y, e = .returned (.tuple #[x, y]) ∧ OwJ w' w.heap.size x (ptL fAge cs) ∧ OwJ w' w.heap.size y (ptE fAge cs) ∧ Below w.heap.size w w' := by
  have H := hid h
  obtain ⟨a, cap, rfl, -, -, -⟩ := h.parts
  replace hf := hid hf
  clear h
  have E4 := hid (var_alloc (.cells #[] 63) (heap_alloc_new w (.cells #[] 63)))
  have E5 := hid (heap_alloc_new (w.alloc (.cells #[] 63)) (.cells #[] 63))
  have BB := hid (below_alloc2 w (.cells #[] 63) (.cells #[] 63))
  simp only [World.size_alloc] at E5
  have TT := hid (show Two ((w.alloc (.cells #[] 63)).alloc (.cells #[] 63)) w.heap.size (.slice (some ⟨w.heap.size, 0, none⟩) 0 0) (ptL fAge (cs.take 0)) (.slice (some ⟨w.heap.size + 1, 0, none⟩) 0 0) (ptE fAge (cs.take 0)) from ⟨owJ_lit E4.out (Nat.le_refl _), owJ_lit E5.out (Nat.le_succ _), fun g e e' => by simp [Value.ownBlock] at e e'; omega⟩)
  clear E4 E5
  go_enter Try.func84, Try.ntmps84
  go_wp2_with fail
  generalize (w.alloc (.cells #[] 63)).alloc (.cells #[] 63) = w0 at *
  obtain ⟨base0, hb0⟩ : ∃ b, b = w.heap.size := ⟨_, rfl⟩
  rw [← hb0] at TT ⊢
  replace hb0 := hid hb0
  go_loopw [4, 5, 6, 7] (fun s4 s5 i s7 wr => ∃ k : Nat, ∃ u4 u5 u7 : Value, k ≤ cs.length ∧ i = .int .i64 k ∧ s4 = u4 ∧ s5 = u5 ∧ s7 = u7 ∧ Hid (Two wr base0 u4 (ptL fAge (cs.take k)) u5 (ptE fAge (cs.take k))) ∧ Hid (Below w.heap.size w wr)) (fun _ _ i _ _ => cs.length - (intOf i).toNat)
  case atStart => exact ⟨0, _, _, _, by omega, rfl, rfl, rfl, rfl, TT, BB⟩
  case round =>
    obtain ⟨k, u4, u5, u7, hk, rfl, rfl, rfl, rfl, T0, BL⟩ := hrel
    clear TT BB
    by_cases hlt : k < cs.length
    · have BW := BL
      obtain ⟨a', cap', e, -, -, hcs⟩ := (H.out.below BW.out).parts
      cases e
      obtain ⟨b, o, rfl, q1⟩ := hcs k hlt
      obtain ⟨c0, c1, c2, c3, c4, c5, c6⟩ := j_cells q1
      have I1 := idx_ji b o cs.length cap k hlt
      obtain ⟨e1, e2⟩ := hf.out k hlt
      have LXl := hid (Nat.le_trans (ptL_tl fAge cs k) (Nat.le_trans hl (by decide : 40 ≤ 4194304)))
      have LXe := hid (Nat.le_trans (ptE_tl fAge cs k) (Nat.le_trans hl (by decide : 40 ≤ 4194304)))
      obtain ⟨xl, hxl⟩ : ∃ x, x = ptL fAge (cs.take k) := ⟨_, rfl⟩
      obtain ⟨xe, hxe⟩ : ∃ x, x = ptE fAge (cs.take k) := ⟨_, rfl⟩
      rw [← hxl] at T0 LXl
      rw [← hxe] at T0 LXe
      obtain ⟨p4, k4, rfl, -, -, -⟩ := T0.out.1.rd.parts
      obtain ⟨p5, k5, rfl, -, -, -⟩ := T0.out.2.1.rd.parts
      obtain ⟨M, hM⟩ : ∃ M, M = cs[k] := ⟨_, rfl⟩
      rw [← hM] at c0 c1 c2 c3 c4 c5 c6 e1 e2
      clear q1 hcs BW
      obtain ⟨X, hX⟩ : ∃ X : Wai, X = ⟨M.a, M.b, M.c, M.d, M.e - 1, M.f, M.g⟩ := ⟨_, rfl⟩
      have B1 := hid (below_alloc2 wr (.cells #[.int .i64 M.a, .int .i64 M.b, .int .i64 M.c, .int .i64 M.d, .int .i64 (M.e - 1), .int .i64 M.f, .int .i64 M.g] 63) (.cells #[.int .i64 M.a, .int .i64 M.b, .int .i64 M.c, .int .i64 M.d, .int .i64 (M.e - 1), .int .i64 M.f, .int .i64 M.g] 63))
      have R1 := hid (j_at (c := X) (heap_alloc_new (wr.alloc (.cells #[.int .i64 M.a, .int .i64 M.b, .int .i64 M.c, .int .i64 M.d, .int .i64 (M.e - 1), .int .i64 M.f, .int .i64 M.g] 63)) (.cells #[.int .i64 X.a, .int .i64 X.b, .int .i64 X.c, .int .i64 X.d, .int .i64 X.e, .int .i64 X.f, .int .i64 X.g] 63)))
      rw [hX] at R1
      simp only [World.size_alloc] at R1
      have S2 := hid (show base0 ≤ ((wr.alloc (.cells #[.int .i64 M.a, .int .i64 M.b, .int .i64 M.c, .int .i64 M.d, .int .i64 (M.e - 1), .int .i64 M.f, .int .i64 M.g] 63)).alloc (.cells #[.int .i64 M.a, .int .i64 M.b, .int .i64 M.c, .int .i64 M.d, .int .i64 (M.e - 1), .int .i64 M.f, .int .i64 M.g] 63)).heap.size by have := hb0.out; have := BL.out.size; simp; omega)
      replace T0 := hid (T0.out.below B1.out)
      have B2 := hid (BL.out.trans (B1.out.mono BL.out.size))
      clear B1 BL
      by_cases q : 1 < M.e
      · have Q : (fAge cs[k]).2 = false := by rw [← hM]; simp [fAge]; omega
        have T1 := hid (ptL_stay (f := fAge) hlt Q)
        have T2 := hid (ptE_stay (f := fAge) hlt Q)
        rw [← hM, ← hxl] at T1
        rw [← hxe] at T2
        rw [show (fAge M).1 = X from hX.symm] at T1
        replace hX := hid hX
        clear Q hM hxl hxe
        go_wp2_with (at_builtin; refine list_appJ rfl _ _ rfl _ xl X base0 (wr.heap.size + 1) 1 rfl rfl T0.out.1 (by rw [hX.out]; exact R1.out) LXl.out S2.out ?_; intro g3 cap3 w3 hO hG hL; have T3 := hid (Two.app T0.out hO hG (fun g e => by cases e; exact hL)); have B3 := hid (B2.out.grown hG (by have := hb0.out; have := S2.out; omega) (fun b e => by have := T0.out.1.lt b e; have := hb0.out; omega)))
        clear hO hG hL T0 B2 R1 S2 c0 c1 c2 c3 c4 c5 c6
        go_roundw
        case rel => exact ⟨k + 1, _, _, _, hlt, by go_num, rfl, rfl, rfl, hid (by rw [T1.out, T2.out]; exact T3.out), B3⟩
        case measure => simp [intOf]; omega
      · have Q : (fAge cs[k]).2 = true := by rw [← hM]; simp [fAge]; omega
        have T1 := hid (ptE_over (f := fAge) hlt Q)
        have T2 := hid (ptL_over (f := fAge) hlt Q)
        rw [← hM, ← hxe] at T1
        rw [← hxl] at T2
        rw [show (fAge M).1 = X from hX.symm] at T1
        replace hX := hid hX
        clear Q hM hxl hxe
        go_wp2_with (at_builtin; refine list_appJ rfl _ _ rfl _ xe X base0 (wr.heap.size + 1) 1 rfl rfl T0.out.swap.1 (by rw [hX.out]; exact R1.out) LXe.out S2.out ?_; intro g3 cap3 w3 hO hG hL; have T3 := hid (Two.app T0.out.swap hO hG (fun g e => by cases e; exact hL)); have B3 := hid (B2.out.grown hG (by have := hb0.out; have := S2.out; omega) (fun b e => by have := T0.out.swap.1.lt b e; have := hb0.out; omega)))
        clear hO hG hL T0 B2 R1 S2 c0 c1 c2 c3 c4 c5 c6
        go_roundw
        case rel => exact ⟨k + 1, _, _, _, hlt, by go_num, rfl, rfl, rfl, hid (by rw [T1.out, T2.out]; exact T3.out.swap), B3⟩
        case measure => simp [intOf]; omega
    · have hke : k = cs.length := by omega
      subst hke
      rw [List.take_length] at T0
      obtain ⟨p4, k4, rfl, -, -, -⟩ := T0.out.1.rd.parts
      obtain ⟨p5, k5, rfl, -, -, -⟩ := T0.out.2.1.rd.parts
      go_wp2
      go_ret2
      exact ⟨_, _, rfl, by rw [← hb0.out]; exact T0.out.1, by rw [← hb0.out]; exact T0.out.2.1, BL.out⟩
set_option maxHeartbeats 2000000 in
set_option maxRecDepth 100000 in
theorem l9clr (v : Value) (cs : List Wai) (s : Int) (w : World) (h : RdJ w v cs) (hl : cs.length ≤ 40) :
    Calls Try.prog 85 #[v, .int .i64 s] w fun e w' => ∃ x y, e = .returned (.tuple #[x, y]) ∧ OwJ w' w.heap.size x (ptL (fClr s) cs) ∧ OwJ w' w.heap.size y (ptE (fClr s) cs) ∧ Below w.heap.size w w' := by
  have H := hid h
  obtain ⟨a, cap, rfl, -, -, -⟩ := h.parts
  clear h
  have E4 := hid (var_alloc (.cells #[] 63) (heap_alloc_new w (.cells #[] 63)))
  have E5 := hid (heap_alloc_new (w.alloc (.cells #[] 63)) (.cells #[] 63))
  have BB := hid (below_alloc2 w (.cells #[] 63) (.cells #[] 63))
  simp only [World.size_alloc] at E5
  have TT := hid (show Two ((w.alloc (.cells #[] 63)).alloc (.cells #[] 63)) w.heap.size (.slice (some ⟨w.heap.size, 0, none⟩) 0 0) (ptL (fClr s) (cs.take 0)) (.slice (some ⟨w.heap.size + 1, 0, none⟩) 0 0) (ptE (fClr s) (cs.take 0)) from ⟨owJ_lit E4.out (Nat.le_refl _), owJ_lit E5.out (Nat.le_succ _), fun g e e' => by simp [Value.ownBlock] at e e'; omega⟩)
  clear E4 E5
  go_enter Try.func85, Try.ntmps85
  go_wp2_with fail
  generalize (w.alloc (.cells #[] 63)).alloc (.cells #[] 63) = w0 at *
  obtain ⟨base0, hb0⟩ : ∃ b, b = w.heap.size := ⟨_, rfl⟩
  rw [← hb0] at TT ⊢
  replace hb0 := hid hb0
  go_loopw [6, 7, 8] (fun s4 s5 i wr => ∃ k : Nat, ∃ u4 u5 : Value, k ≤ cs.length ∧ i = .int .i64 k ∧ s4 = u4 ∧ s5 = u5 ∧ Hid (Two wr base0 u4 (ptL (fClr s) (cs.take k)) u5 (ptE (fClr s) (cs.take k))) ∧ Hid (Below w.heap.size w wr)) (fun _ _ i _ => cs.length - (intOf i).toNat)
  case atStart => exact ⟨0, _, _, by omega, rfl, rfl, rfl, TT, BB⟩
  case round =>
    obtain ⟨k, u4, u5, hk, rfl, rfl, rfl, T0, BL⟩ := hrel
    clear TT BB
    by_cases hlt : k < cs.length
    · obtain ⟨a', cap', e, -, -, hcs⟩ := (H.out.below BL.out).parts
      cases e
      obtain ⟨b, o, rfl, q1⟩ := hcs k hlt
      obtain ⟨c0, c1, c2, c3, c4, c5, c6⟩ := j_cells q1
      have I1 := idx_ji b o cs.length cap k hlt
      have LXl := hid (Nat.le_trans (ptL_tl (fClr s) cs k) (Nat.le_trans hl (by decide : 40 ≤ 4194304)))
      have LXe := hid (Nat.le_trans (ptE_tl (fClr s) cs k) (Nat.le_trans hl (by decide : 40 ≤ 4194304)))
      obtain ⟨xl, hxl⟩ : ∃ x, x = ptL (fClr s) (cs.take k) := ⟨_, rfl⟩
      obtain ⟨xe, hxe⟩ : ∃ x, x = ptE (fClr s) (cs.take k) := ⟨_, rfl⟩
      rw [← hxl] at T0 LXl
      rw [← hxe] at T0 LXe
      obtain ⟨p4, k4, rfl, -, -, -⟩ := T0.out.1.rd.parts
      obtain ⟨p5, k5, rfl, -, -, -⟩ := T0.out.2.1.rd.parts
      obtain ⟨M, hM⟩ : ∃ M, M = cs[k] := ⟨_, rfl⟩
      rw [← hM] at c0 c1 c2 c3 c4 c5 c6
      clear q1 hcs
      have B1 := hid (below_alloc1 wr (.cells #[.int .i64 M.a, .int .i64 M.b, .int .i64 M.c, .int .i64 M.d, .int .i64 M.e, .int .i64 M.f, .int .i64 M.g] 63))
      have R1 := hid (j_at (c := M) (heap_alloc_new wr (.cells #[.int .i64 M.a, .int .i64 M.b, .int .i64 M.c, .int .i64 M.d, .int .i64 M.e, .int .i64 M.f, .int .i64 M.g] 63)))
      have S2 := hid (show base0 ≤ (wr.alloc (.cells #[.int .i64 M.a, .int .i64 M.b, .int .i64 M.c, .int .i64 M.d, .int .i64 M.e, .int .i64 M.f, .int .i64 M.g] 63)).heap.size by have := hb0.out; have := BL.out.size; simp; omega)
      replace T0 := hid (T0.out.below B1.out)
      have B2 := hid (BL.out.trans (B1.out.mono BL.out.size))
      clear B1 BL
      by_cases qa : M.a = 3
      · have Q : (fClr s cs[k]).2 = false := by rw [← hM]; simp [fClr, qa]
        have T1 := hid (ptL_stay (f := fClr s) hlt Q)
        have T2 := hid (ptE_stay (f := fClr s) hlt Q)
        rw [← hM, ← hxl] at T1
        rw [← hxe] at T2
        rw [show (fClr s M).1 = M from rfl] at T1
        clear Q hM hxl hxe
        have na : (M.a != 3) = false := by simp [qa]
        replace qa := hid qa
        go_wp2_with (at_builtin; refine list_appJ rfl _ _ rfl _ xl M base0 wr.heap.size 1 rfl rfl T0.out.1 R1.out LXl.out S2.out ?_; intro g3 cap3 w3 hO hG hL; have T3 := hid (Two.app T0.out hO hG (fun g e => by cases e; exact hL)); have B3 := hid (B2.out.grown hG (by have := hb0.out; have := S2.out; omega) (fun b e => by have := T0.out.1.lt b e; have := hb0.out; omega)))
        clear hO hG hL T0 B2 R1 S2 c0 c1 c2 c3 c4 c5 c6
        go_roundw
        case rel => exact ⟨k + 1, _, _, hlt, by go_num, rfl, rfl, hid (by rw [T1.out, T2.out]; exact T3.out), B3⟩
        case measure => simp [intOf]; omega
      · by_cases qb : M.b = s
        · have Q : (fClr s cs[k]).2 = true := by rw [← hM]; simp [fClr, qa, qb]
          have T1 := hid (ptE_over (f := fClr s) hlt Q)
          have T2 := hid (ptL_over (f := fClr s) hlt Q)
          rw [← hM, ← hxe] at T1
          rw [← hxl] at T2
          rw [show (fClr s M).1 = M from rfl] at T1
          clear Q hM hxl hxe
          have na : (M.a != 3) = true := by simp [qa]
          have nb : (M.b == s) = true := by simp [qb]
          replace qa := hid qa
          replace qb := hid qb
          go_wp2_with (at_builtin; refine list_appJ rfl _ _ rfl _ xe M base0 wr.heap.size 1 rfl rfl T0.out.swap.1 R1.out LXe.out S2.out ?_; intro g3 cap3 w3 hO hG hL; have T3 := hid (Two.app T0.out.swap hO hG (fun g e => by cases e; exact hL)); have B3 := hid (B2.out.grown hG (by have := hb0.out; have := S2.out; omega) (fun b e => by have := T0.out.swap.1.lt b e; have := hb0.out; omega)))
          clear hO hG hL T0 B2 R1 S2 c0 c1 c2 c3 c4 c5 c6
          go_roundw
          case rel => exact ⟨k + 1, _, _, hlt, by go_num, rfl, rfl, hid (by rw [T1.out, T2.out]; exact T3.out.swap), B3⟩
          case measure => simp [intOf]; omega
        · have Q : (fClr s cs[k]).2 = false := by rw [← hM]; simp [fClr, qa, qb]
          have T1 := hid (ptL_stay (f := fClr s) hlt Q)
          have T2 := hid (ptE_stay (f := fClr s) hlt Q)
          rw [← hM, ← hxl] at T1
          rw [← hxe] at T2
          rw [show (fClr s M).1 = M from rfl] at T1
          clear Q hM hxl hxe
          have na : (M.a != 3) = true := by simp [qa]
          have nb : (M.b == s) = false := by simp [qb]
          replace qa := hid qa
          replace qb := hid qb
          go_wp2_with (at_builtin; refine list_appJ rfl _ _ rfl _ xl M base0 wr.heap.size 1 rfl rfl T0.out.1 R1.out LXl.out S2.out ?_; intro g3 cap3 w3 hO hG hL; have T3 := hid (Two.app T0.out hO hG (fun g e => by cases e; exact hL)); have B3 := hid (B2.out.grown hG (by have := hb0.out; have := S2.out; omega) (fun b e => by have := T0.out.1.lt b e; have := hb0.out; omega)))
          clear hO hG hL T0 B2 R1 S2 c0 c1 c2 c3 c4 c5 c6
          go_roundw
          case rel => exact ⟨k + 1, _, _, hlt, by go_num, rfl, rfl, hid (by rw [T1.out, T2.out]; exact T3.out), B3⟩
          case measure => simp [intOf]; omega
    · have hke : k = cs.length := by omega
      subst hke
      rw [List.take_length] at T0
      obtain ⟨p4, k4, rfl, -, -, -⟩ := T0.out.1.rd.parts
      obtain ⟨p5, k5, rfl, -, -, -⟩ := T0.out.2.1.rd.parts
      go_wp2
      go_ret2
      exact ⟨_, _, rfl, by rw [← hb0.out]; exact T0.out.1, by rw [← hb0.out]; exact T0.out.2.1, BL.out⟩
set_option maxHeartbeats 2000000 in
set_option maxRecDepth 100000 in
theorem sage (v : Value) (cs : List Wai) (w : World) (h : RdJ w v cs) :
    Calls Try.prog 23 #[v] w fun e w' => ∃ x y, e = .returned (.agg #[.int .i64 (agC cs), x, y]) ∧ RdJ w' x (agL cs) ∧ RdJ w' y (agE cs) ∧ Below w.heap.size w w' := by
  have H := hid (h.below (below_alloc1 w (.cells #[.int .i64 0, .slice none 0 0, .slice none 0 0] 45)))
  obtain ⟨a, cap, rfl, -, -, -⟩ := h.parts
  clear h
  have V := hid (heap_alloc_new w (.cells #[.int .i64 0, .slice none 0 0, .slice none 0 0] 45))
  have BB := hid (below_alloc1 w (.cells #[.int .i64 0, .slice none 0 0, .slice none 0 0] 45))
  obtain ⟨⟨q0, q1, q2⟩, z0, z1, z2⟩ := var3_facts2 V.out
  go_enter Try.func23, Try.ntmps23
  go_wp2_with fail
  generalize w.alloc (.cells #[.int .i64 0, .slice none 0 0, .slice none 0 0] 45) = w0 at *
  clear q0 q1 q2 z0 z1 z2
  obtain ⟨g, hg⟩ : ∃ g, g = w.heap.size := ⟨_, rfl⟩
  rw [← hg] at V ⊢
  replace hg := hid hg
  refine (s9f _ cs _ H.out).mono ?_
  rintro e w1 ⟨rfl, hB⟩
  replace H := hid (H.out.below hB)
  replace V := hid (var_below hB V.out)
  replace BB := hid (BB.out.trans (hB.mono BB.out.size))
  clear hB
  obtain ⟨t, ht⟩ : ∃ t, t = wtF cs := ⟨_, rfl⟩
  rw [← ht]
  replace ht := hid ht
  by_cases h0 : t = 0
  case neg =>
    have F0 : ¬ wtF cs = 0 := by rw [← ht.out]; exact h0
    have E1 := hid (show agC cs = t by unfold agC; rw [ht.out])
    have E2 := hid (show agL cs = [] by unfold agL; rw [if_neg (by first | exact F0 | (rw [E1.out]; exact h0))])
    have E3 := hid (show agE cs = [] by unfold agE; rw [if_neg (by first | exact F0 | (rw [E1.out]; exact h0))])
    clear F0
    obtain ⟨⟨q0, q1, q2⟩, z0, z1, z2⟩ := var3_facts2 V.out
    have V2 := hid (var3_set2 (x' := .int .i64 t) (y' := .slice none 0 0) (z' := .slice none 0 0) V.out)
    have B2 := hid (below_set3 (x := .int .i64 t) (y := .slice none 0 0) (z := .slice none 0 0) BB.out (g := g) (by rw [hg.out]; exact Nat.le_refl _))
    go_wp2
    clear q0 q1 q2 z0 z1 z2
    exact bodyPost_ret (v := .agg #[.int .i64 t, .slice none 0 0, .slice none 0 0]) (results_cell_row rfl _ _ g 45 _ _ _ rfl V2.out Try.underlying45 rfl (by kernel_rfl)) rfl ⟨_, _, by rw [E1.out], by rw [E2.out]; exact RdJ.nil _, by rw [E3.out]; exact RdJ.nil _, B2.out⟩
  subst h0
  have E1 := hid (show agC cs = 0 from ht.out.symm)
  have E2 := hid (show agL cs = ptL fAge cs by unfold agL; rw [if_pos (by first | exact ht.out.symm | exact E1.out)])
  have E3 := hid (show agE cs = ptE fAge cs by unfold agE; rw [if_pos (by first | exact ht.out.symm | exact E1.out)])
  have WL := hid (wtF_len ht.out.symm)
  have WE := hid fun k hk => wt1_e (wtF_get ht.out.symm k hk)
  have GV := hid (vlt V.out)
  go_wp2_with fail
  refine (l9age _ cs _ H.out WE.out WL.out).mono ?_
  rintro e w3 ⟨x, y, rfl, hx, hy, hB⟩
  obtain ⟨px, kx, rfl, -, -, -⟩ := hx.rd.parts
  obtain ⟨py, ky, rfl, -, -, -⟩ := hy.rd.parts
  have RX := hid hx
  have RY := hid hy
  replace V := hid (var_below hB V.out)
  replace BB := hid (BB.out.trans (hB.mono BB.out.size))
  clear hB hx hy H
  rw [← E2.out] at RX ⊢
  rw [← E3.out] at RY ⊢
  obtain ⟨xs, hxs⟩ : ∃ z, z = agL cs := ⟨_, rfl⟩
  obtain ⟨ys, hys⟩ : ∃ z, z = agE cs := ⟨_, rfl⟩
  rw [← hxs] at RX ⊢
  rw [← hys] at RY ⊢
  clear E2 E3
  replace hxs := hid hxs
  replace hys := hid hys
  obtain ⟨⟨q0, q1, q2⟩, z0, z1, z2⟩ := var3_facts2 V.out
  have V2 := hid (var3_set2 (x' := .int .i64 0) (y' := .slice px xs.length kx) (z' := .slice py ys.length ky) V.out)
  have B2 := hid (below_set3 (x := .int .i64 0) (y := .slice px xs.length kx) (z := .slice py ys.length ky) BB.out (g := g) (by rw [hg.out]; exact Nat.le_refl _))
  go_wp2
  clear q0 q1 q2 z0 z1 z2
  exact bodyPost_ret (v := .agg #[.int .i64 0, .slice px xs.length kx, .slice py ys.length ky]) (results_cell_row rfl _ _ g 45 _ _ _ rfl V2.out Try.underlying45 rfl (by kernel_rfl)) rfl ⟨_, _, by rw [E1.out], by rw [← hxs.out]; exact (RX.out.set3 GV.out).rd, by rw [← hys.out]; exact (RY.out.set3 GV.out).rd, B2.out⟩
set_option maxHeartbeats 2000000 in
set_option maxRecDepth 100000 in
theorem sclr (v : Value) (cs : List Wai) (s : Int) (w : World) (h : RdJ w v cs) :
    Calls Try.prog 24 #[v, .int .i64 s] w fun e w' => ∃ x y, e = .returned (.agg #[.int .i64 (crC cs s), x, y]) ∧ RdJ w' x (crL cs s) ∧ RdJ w' y (crE cs s) ∧ Below w.heap.size w w' := by
  have H := hid (h.below (below_alloc1 w (.cells #[.int .i64 0, .slice none 0 0, .slice none 0 0] 45)))
  obtain ⟨a, cap, rfl, -, -, -⟩ := h.parts
  clear h
  have V := hid (heap_alloc_new w (.cells #[.int .i64 0, .slice none 0 0, .slice none 0 0] 45))
  have BB := hid (below_alloc1 w (.cells #[.int .i64 0, .slice none 0 0, .slice none 0 0] 45))
  obtain ⟨⟨q0, q1, q2⟩, z0, z1, z2⟩ := var3_facts2 V.out
  go_enter Try.func24, Try.ntmps24
  go_wp2_with fail
  generalize w.alloc (.cells #[.int .i64 0, .slice none 0 0, .slice none 0 0] 45) = w0 at *
  clear q0 q1 q2 z0 z1 z2
  obtain ⟨g, hg⟩ : ∃ g, g = w.heap.size := ⟨_, rfl⟩
  rw [← hg] at V ⊢
  replace hg := hid hg
  refine (s9f _ cs _ H.out).mono ?_
  rintro e w1 ⟨rfl, hB⟩
  replace H := hid (H.out.below hB)
  replace V := hid (var_below hB V.out)
  replace BB := hid (BB.out.trans (hB.mono BB.out.size))
  clear hB
  obtain ⟨t, ht⟩ : ∃ t, t = wtF cs := ⟨_, rfl⟩
  rw [← ht]
  replace ht := hid ht
  by_cases h0 : t = 0
  case neg =>
    have F0 : ¬ wtF cs = 0 := by rw [← ht.out]; exact h0
    have E1 := hid (show crC cs s = t by unfold crC; rw [if_neg F0]; rw [ht.out])
    have E2 := hid (show crL cs s = [] by unfold crL; rw [if_neg (by first | exact F0 | (rw [E1.out]; exact h0))])
    have E3 := hid (show crE cs s = [] by unfold crE; rw [if_neg (by first | exact F0 | (rw [E1.out]; exact h0))])
    clear F0
    obtain ⟨⟨q0, q1, q2⟩, z0, z1, z2⟩ := var3_facts2 V.out
    have V2 := hid (var3_set2 (x' := .int .i64 t) (y' := .slice none 0 0) (z' := .slice none 0 0) V.out)
    have B2 := hid (below_set3 (x := .int .i64 t) (y := .slice none 0 0) (z := .slice none 0 0) BB.out (g := g) (by rw [hg.out]; exact Nat.le_refl _))
    go_wp2
    clear q0 q1 q2 z0 z1 z2
    exact bodyPost_ret (v := .agg #[.int .i64 t, .slice none 0 0, .slice none 0 0]) (results_cell_row rfl _ _ g 45 _ _ _ rfl V2.out Try.underlying45 rfl (by kernel_rfl)) rfl ⟨_, _, by rw [E1.out], by rw [E2.out]; exact RdJ.nil _, by rw [E3.out]; exact RdJ.nil _, B2.out⟩
  subst h0
  go_wp2_with fail
  refine (l1in _ _ _ _).mono ?_
  rintro e w2 ⟨rfl, hw⟩
  subst hw
  obtain ⟨r, hr⟩ : ∃ r, r = inB s 0 1000000 := ⟨_, rfl⟩
  rw [← hr]
  cases r
  case false =>
    have E1 := hid (show crC cs s = 3 by unfold crC; rw [if_pos ht.out.symm, ← hr]; rfl)
    have E2 := hid (show crL cs s = [] by unfold crL; rw [if_neg (by rw [E1.out]; decide)])
    have E3 := hid (show crE cs s = [] by unfold crE; rw [if_neg (by rw [E1.out]; decide)])
    replace hr := hid hr
    obtain ⟨⟨q0, q1, q2⟩, z0, z1, z2⟩ := var3_facts2 V.out
    have V2 := hid (var3_set2 (x' := .int .i64 3) (y' := .slice none 0 0) (z' := .slice none 0 0) V.out)
    have B2 := hid (below_set3 (x := .int .i64 3) (y := .slice none 0 0) (z := .slice none 0 0) BB.out (g := g) (by rw [hg.out]; exact Nat.le_refl _))
    go_wp2
    clear q0 q1 q2 z0 z1 z2
    exact bodyPost_ret (v := .agg #[.int .i64 3, .slice none 0 0, .slice none 0 0]) (results_cell_row rfl _ _ g 45 _ _ _ rfl V2.out Try.underlying45 rfl (by kernel_rfl)) rfl ⟨_, _, by rw [E1.out], by rw [E2.out]; exact RdJ.nil _, by rw [E3.out]; exact RdJ.nil _, B2.out⟩
  have E1 := hid (show crC cs s = 0 by unfold crC; rw [if_pos ht.out.symm, ← hr]; rfl)
  replace hr := hid hr
  have E2 := hid (show crL cs s = ptL (fClr s) cs by unfold crL; rw [if_pos (by first | exact ht.out.symm | exact E1.out)])
  have E3 := hid (show crE cs s = ptE (fClr s) cs by unfold crE; rw [if_pos (by first | exact ht.out.symm | exact E1.out)])
  have WL := hid (wtF_len ht.out.symm)
  have WE := hid fun k hk => wt1_e (wtF_get ht.out.symm k hk)
  have GV := hid (vlt V.out)
  go_wp2_with fail
  refine (l9clr _ cs s _ H.out WL.out).mono ?_
  rintro e w3 ⟨x, y, rfl, hx, hy, hB⟩
  obtain ⟨px, kx, rfl, -, -, -⟩ := hx.rd.parts
  obtain ⟨py, ky, rfl, -, -, -⟩ := hy.rd.parts
  have RX := hid hx
  have RY := hid hy
  replace V := hid (var_below hB V.out)
  replace BB := hid (BB.out.trans (hB.mono BB.out.size))
  clear hB hx hy H
  rw [← E2.out] at RX ⊢
  rw [← E3.out] at RY ⊢
  obtain ⟨xs, hxs⟩ : ∃ z, z = crL cs s := ⟨_, rfl⟩
  obtain ⟨ys, hys⟩ : ∃ z, z = crE cs s := ⟨_, rfl⟩
  rw [← hxs] at RX ⊢
  rw [← hys] at RY ⊢
  clear E2 E3
  replace hxs := hid hxs
  replace hys := hid hys
  obtain ⟨⟨q0, q1, q2⟩, z0, z1, z2⟩ := var3_facts2 V.out
  have V2 := hid (var3_set2 (x' := .int .i64 0) (y' := .slice px xs.length kx) (z' := .slice py ys.length ky) V.out)
  have B2 := hid (below_set3 (x := .int .i64 0) (y := .slice px xs.length kx) (z := .slice py ys.length ky) BB.out (g := g) (by rw [hg.out]; exact Nat.le_refl _))
  go_wp2
  clear q0 q1 q2 z0 z1 z2
  exact bodyPost_ret (v := .agg #[.int .i64 0, .slice px xs.length kx, .slice py ys.length ky]) (results_cell_row rfl _ _ g 45 _ _ _ rfl V2.out Try.underlying45 rfl (by kernel_rfl)) rfl ⟨_, _, by rw [E1.out], by rw [← hxs.out]; exact (RX.out.set3 GV.out).rd, by rw [← hys.out]; exact (RY.out.set3 GV.out).rd, B2.out⟩
end Go.Proofs.Ytalaolfcdaaaoaa.W
