/-
  The law of the field: bytes are a field, and the box is what it is said to be, at whatever bytes are drawn.
-/
import Derived.Test.YtaopocjagikacaaDrawF
import Derived.Test.YtaopocjagikacaaInvWalks
namespace Go.Proofs.Ytaopocjagikacaa.W
open Go.ChangeShapes Go.WideShapes Go.ChangeAt Go.RowKit
open Go.Proofs.Ytaopocjagikacaa.M

theorem iftB (a b : Nat) (ha : a < 256) (hb : b < 256) (w : World) :
    Calls Try.prog 13 #[.int .u8 (a : Int), .int .u8 (b : Int)] w fun e w' => e = .returned (.int .u8 (ft a b : Nat)) ∧ Below w.heap.size w w' :=
  (ift a b ha hb w).mono fun e w' ⟨he, hw⟩ => ⟨he, by subst hw; exact below_alloc1 w _⟩
theorem ift1 (a : Nat) (ha : a < 256) (w : World) :
    Calls Try.prog 13 #[.int .u8 (a : Int), .int .u8 1] w fun e w' => e = .returned (.int .u8 (a : Nat)) ∧ Below w.heap.size w w' := by
  have h := iftB a 1 ha (by omega) w
  rw [show ((1 : Nat) : Int) = 1 from rfl, ft_one a ha] at h
  exact h
theorem xor_swap (a b c d e f : Nat) : ((((a ^^^ b) ^^^ f) ^^^ e) ^^^ d) ^^^ c = ((((a ^^^ b) ^^^ c) ^^^ d) ^^^ e) ^^^ f := by
  apply Nat.eq_of_testBit_eq
  intro i
  simp only [Nat.testBit_xor]
  cases a.testBit i <;> cases b.testBit i <;> cases c.testBit i <;> cases d.testBit i <;> cases e.testBit i <;> cases f.testBit i <;> rfl
theorem rot_zero (x : Nat) (hx : x < 256) : rot x 0 = x := by
  have h : x / 2 ^ (8 - (8 - 0) % 8) = 0 := Nat.div_eq_of_lt hx
  unfold rot
  rw [h, Nat.or_zero]
  show x * 1 % 256 = x
  omega
theorem box_other (d x : Nat) (hx : x < 256) (e : sbx d = ((((99 ^^^ rot x 0) ^^^ rot x 4) ^^^ rot x 5) ^^^ rot x 6) ^^^ rot x 7) :
    bits .xor .u8 (bits .xor .u8 (bits .xor .u8 (bits .xor .u8 (bits .xor .u8 99 (x : Nat)) (rot x 7 : Nat)) (rot x 6 : Nat)) (rot x 5 : Nat)) (rot x 4 : Nat) = (sbx d : Nat) := by
  have l := fun t => rot_lt x t hx
  have p : ∀ a b : Nat, a < 256 → b < 256 → a ^^^ b < 256 := fun a b ha hb => Nat.xor_lt_two_pow (n := 8) ha hb
  have e0 := xor8 99 x (by omega) hx
  rw [show ((99 : Nat) : Int) = (99 : Int) from rfl] at e0
  rw [e0, xor8 _ _ (p _ _ (by omega) hx) (l 7), xor8 _ _ (p _ _ (p _ _ (by omega) hx) (l 7)) (l 6), xor8 _ _ (p _ _ (p _ _ (p _ _ (by omega) hx) (l 7)) (l 6)) (l 5), xor8 _ _ (p _ _ (p _ _ (p _ _ (p _ _ (by omega) hx) (l 7)) (l 6)) (l 5)) (l 4)]
  rw [e, rot_zero x hx, xor_swap]

set_option maxHeartbeats 4000000 in
set_option maxRecDepth 100000 in
theorem law_fields (v : Value) (l : List Nat) (w : World) (h : Rd w v l) (y : Byt l) :
    Calls Try.prog 3 #[v] w fun e w' => e = .returned (.bool true) ∧ Below w.heap.size w w' := by
  have H := hid h
  obtain ⟨q, cap, rfl, _, _, _⟩ := h.parts
  clear h
  by_cases hl : l.length ≤ 1048576
  · go_enter Try.func3, Try.ntmps3
    go_wp2_with (go_at_call 8; go_in)
    refine (drawFT _ l _ H.out y hl).mono ?_
    rintro e w1 ⟨a, b, ha, hb, rfl, hB1⟩
    go_wp2_with fail
    refine (drawInv _ l _ (H.out.below hB1) y hl).mono ?_
    rintro e w2 ⟨c, hc, rfl, hB2⟩
    have hBel := hB1.trans (hB2.mono hB1.size)
    clear hB1 hB2
    go_wp2_with fail
    refine (drawSub _ l _ (H.out.below hBel) y hl).mono ?_
    rintro e w3 ⟨d, hd, rfl, hB3⟩
    have hBel := hBel.trans (hB3.mono hBel.size)
    clear hB3
    go_wp2_with fail
    refine (iinv c hc _).mono ?_
    rintro e w4 ⟨rfl, hB4⟩
    have hBel := hBel.trans (hB4.mono hBel.size)
    clear hB4
    go_wp2_with fail
    refine (iftB a b ha hb _).mono ?_
    rintro e w5 ⟨rfl, hB⟩
    have hBel := hBel.trans (hB.mono hBel.size)
    clear hB
    go_wp2_with fail
    refine (sft a b ha hb _).mono ?_
    rintro e w' ⟨rfl, rfl⟩
    go_wp2_with fail
    refine (sinv c hc _).mono ?_
    rintro e w' ⟨rfl, rfl⟩
    have t1 : (((ft a b : Nat) : Int) != ((ft b a : Nat) : Int)) = false := by rw [ft_comm a b ha hb]; simp
    have x1 : bits .xor .u8 (b : Int) (c : Int) = ((b ^^^ c : Nat) : Int) := xor8 b c hb hc
    have hbc : b ^^^ c < 256 := Nat.xor_lt_two_pow (n := 8) hb hc
    have x2 : bits .xor .u8 ((ft a b : Nat) : Int) ((ft a c : Nat) : Int) = ((ft a b ^^^ ft a c : Nat) : Int) := xor8 _ _ (ft_lt a b ha) (ft_lt a c ha)
    have t2 : (((ft a (b ^^^ c) : Nat) : Int) != ((ft a b ^^^ ft a c : Nat) : Int)) = false := by rw [ft_xor]; simp
    go_wp2_with fail
    refine (iftB a b ha hb _).mono ?_
    rintro e w6 ⟨rfl, hB⟩
    have hBel := hBel.trans (hB.mono hBel.size)
    clear hB
    go_wp2_with fail
    refine (iftB b a hb ha _).mono ?_
    rintro e w7 ⟨rfl, hB⟩
    have hBel := hBel.trans (hB.mono hBel.size)
    clear hB
    go_wp2_with fail
    refine (iftB a (b ^^^ c) ha hbc _).mono ?_
    rintro e w8 ⟨rfl, hB⟩
    have hBel := hBel.trans (hB.mono hBel.size)
    clear hB
    go_wp2_with fail
    refine (iftB a b ha hb _).mono ?_
    rintro e w9 ⟨rfl, hB⟩
    have hBel := hBel.trans (hB.mono hBel.size)
    clear hB
    go_wp2_with fail
    refine (iftB a c ha hc _).mono ?_
    rintro e w10 ⟨rfl, hB⟩
    have hBel := hBel.trans (hB.mono hBel.size)
    clear hB
    go_wp2_with fail
    refine (ift1 a ha _).mono ?_
    rintro e w11 ⟨rfl, hB⟩
    have hBel := hBel.trans (hB.mono hBel.size)
    clear hB
    clear t1 x1 x2 t2 hbc
    have hi := finv_lt c hc
    have hx := finv_lt d hd
    have ED := hid (show sbx d = ((((99 ^^^ rot (finv d) 0) ^^^ rot (finv d) 4) ^^^ rot (finv d) 5) ^^^ rot (finv d) 6) ^^^ rot (finv d) 7 from rfl)
    have TB : Hid ((((sbx d : Nat) : Int) == bits .xor .u8 (bits .xor .u8 (bits .xor .u8 (bits .xor .u8 (bits .xor .u8 99 ((finv d : Nat) : Int)) (rot (finv d) 7 : Nat)) (rot (finv d) 6 : Nat)) (rot (finv d) 5 : Nat)) (rot (finv d) 4 : Nat)) = true) := by
      unfold Hid
      rw [box_other d (finv d) hx ED.out]; simp
    have TA : Hid ((((ft (ft a b) c : Nat) : Int) == ((ft a (ft b c) : Nat) : Int)) = true) := by
      unfold Hid
      rw [ft_assoc a b c ha hb hc]; simp
    clear ED
    by_cases c0 : c = 0
    · have u1 : ((c : Int) != 0) = false := by simp; omega
      have u2 : ((c : Int) == 0) = true := by simp; omega
      have u3 : (((finv c : Nat) : Int) != 0) = false := by rw [c0, finv_zero]; rfl
      clear c0
      go_wp2_with fail
      refine (sinv d hd _).mono ?_
      rintro e w' ⟨rfl, rfl⟩
      generalize finv d = x at *
      have r7 := rot_7 x hx
      have r6 := rot_6 x hx
      have r5 := rot_5 x hx
      have r4 := rot_4 x hx
      clear u1 u2 u3
      go_wp2_with fail
      refine wp_loop_rounds 6 ?_
      iterate 6
        rw [rounds_succ]
        go_wp2_with fail
      refine (isub d hd _).mono ?_
      rintro e w13 ⟨rfl, hB⟩
      have hBel := hBel.trans (hB.mono hBel.size)
      have tb := TB.out
      clear hB r7 r6 r5 r4
      go_wp2_with fail
      refine (iftB a b ha hb _).mono ?_
      rintro e w14 ⟨rfl, hB⟩
      have hBel := hBel.trans (hB.mono hBel.size)
      clear hB tb
      go_wp2_with fail
      refine (iftB (ft a b) c (ft_lt a b ha) hc _).mono ?_
      rintro e w15 ⟨rfl, hB⟩
      have hBel := hBel.trans (hB.mono hBel.size)
      clear hB
      go_wp2_with fail
      refine (iftB b c hb hc _).mono ?_
      rintro e w16 ⟨rfl, hB⟩
      have hBel := hBel.trans (hB.mono hBel.size)
      clear hB
      go_wp2_with fail
      refine (iftB a (ft b c) ha (ft_lt b c hb) _).mono ?_
      rintro e w17 ⟨rfl, hB⟩
      have hBel := hBel.trans (hB.mono hBel.size)
      have ta := TA.out
      clear hB
      go_wp2
      go_ret
      exact ⟨rfl, hBel⟩
    · have u1 : ((c : Int) != 0) = true := by rw [bne_iff_ne]; omega
      have u2 : ((c : Int) == 0) = false := by simp; omega
      have u3 : (((ft c (finv c) : Nat) : Int) != 1) = false := by rw [finv_ok c hc c0]; rfl
      clear c0
      go_wp2_with fail
      refine (iftB c (finv c) hc hi _).mono ?_
      rintro e w12 ⟨rfl, hB⟩
      have hBel := hBel.trans (hB.mono hBel.size)
      clear hB
      go_wp2_with fail
      refine (sinv d hd _).mono ?_
      rintro e w' ⟨rfl, rfl⟩
      generalize finv d = x at *
      have r7 := rot_7 x hx
      have r6 := rot_6 x hx
      have r5 := rot_5 x hx
      have r4 := rot_4 x hx
      clear u1 u2 u3
      go_wp2_with fail
      refine wp_loop_rounds 6 ?_
      iterate 6
        rw [rounds_succ]
        go_wp2_with fail
      refine (isub d hd _).mono ?_
      rintro e w13 ⟨rfl, hB⟩
      have hBel := hBel.trans (hB.mono hBel.size)
      have tb := TB.out
      clear hB r7 r6 r5 r4
      go_wp2_with fail
      refine (iftB a b ha hb _).mono ?_
      rintro e w14 ⟨rfl, hB⟩
      have hBel := hBel.trans (hB.mono hBel.size)
      clear hB tb
      go_wp2_with fail
      refine (iftB (ft a b) c (ft_lt a b ha) hc _).mono ?_
      rintro e w15 ⟨rfl, hB⟩
      have hBel := hBel.trans (hB.mono hBel.size)
      clear hB
      go_wp2_with fail
      refine (iftB b c hb hc _).mono ?_
      rintro e w16 ⟨rfl, hB⟩
      have hBel := hBel.trans (hB.mono hBel.size)
      clear hB
      go_wp2_with fail
      refine (iftB a (ft b c) ha (ft_lt b c hb) _).mono ?_
      rintro e w17 ⟨rfl, hB⟩
      have hBel := hBel.trans (hB.mono hBel.size)
      have ta := TA.out
      clear hB
      go_wp2
      go_ret
      exact ⟨rfl, hBel⟩
  · go_enter Try.func3, Try.ntmps3
    go_wp2_with (go_at_call 8; go_in)
    go_ret
    exact ⟨rfl, Below.refl _ _⟩
end Go.Proofs.Ytaopocjagikacaa.W
