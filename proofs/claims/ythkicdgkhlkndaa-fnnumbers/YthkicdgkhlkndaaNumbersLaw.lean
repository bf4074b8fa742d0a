/-
  The law of numbers: numbers are read back from their bytes, and xor twice is nothing, at whatever is drawn.
-/
import Derived.Test.YthkicdgkhlkndaaNumbers
import Derived.Test.YthkicdgkhlkndaaIpwWalks
import Derived.Test.YthkicdgkhlkndaaIrwWalks
import Derived.Test.YthkicdgkhlkndaaLwWalks
import Derived.Test.YthkicdgkhlkndaaDrawS
import Derived.Deep.RegionHeld3
namespace Go.Proofs.Ythkicdgkhlkndaa.W
open Go.ChangeShapes Go.WideShapes Go.ChangeAt Go.RowKit
open Go.Proofs.Ythkicdgkhlkndaa.M

theorem same_self (l : List Nat) : sameS l l = true := by simp [sameS]
/-- A part of what a slice reads. -/
theorem rd_cut {w : World} {g n c b t : Nat} {d : List Nat} (h : Rd w (.slice (some ⟨g, 0, none⟩) n c) d) (hd : d.length = n) (hb : b + t ≤ n) (ht : 1 ≤ t) :
    Rd w (.slice (some ⟨g, b, none⟩) t (c - b)) ((d.drop b).take t) := by
  obtain ⟨a, cap, e, h1, h2, hc⟩ := h
  simp only [Value.slice.injEq] at e
  obtain ⟨rfl, -, rfl⟩ := e
  have hl : ((d.drop b).take t).length = t := by simp; omega
  refine ⟨_, _, by rw [hl], by omega, by omega, fun i hi => ⟨g, b, rfl, ?_⟩⟩
  obtain ⟨b', o', e, hc⟩ := hc (b + i) (by omega)
  cases e
  rw [Nat.zero_add] at hc
  rw [hc]
  congr 1
  rw [List.getElem_take, List.getElem_drop]

/-- Cutting a slice of bytes. -/
theorem run_cut (g n c b t : Nat) (hb : b + t ≤ c) (ht : b < c) (w : World) :
    (Instr.slice 22 (.slice (some ⟨g, 0, none⟩) n c) (some (.int .i64 (b : Int))) (some (.int .i64 ((b : Int) + (t : Int)))) none).run Try.prog w = .ok (.slice (some ⟨g, b, none⟩) t (c - b)) w := by
  have hs : ∀ w : World, (sizeOf (Try.prog.elem 22)).run Try.prog w = .ok 1 w := fun _ => by kernel_rfl
  have e1 : ((b : Int) + (t : Int)).toNat = b + t := by omega
  have h := run_slice_lh (P := Try.prog) (t := 22) (a := some ⟨g, 0, none⟩) (len := n) (cap := c) (w := w) (by kernel_rfl) .i64 .i64 (b : Int) ((b : Int) + (t : Int)) (by omega) (by omega) (by omega)
  rw [h, hs]
  simp [Result.andThen, sliced, e1, Addr.add_lit, show ¬ c = b by omega]

theorem run_cutAt (g n c b t : Nat) (hb : b + t ≤ c) (ht : b < c) (w : World) :
    (Instr.sliceAt 22 (.slice (some ⟨g, 0, none⟩) n c) (some (.int .i64 (b : Int))) (some (.int .i64 ((b : Int) + (t : Int)))) none).run Try.prog w = .ok (.slice (some ⟨g, b, none⟩) t (c - b)) w := by
  rw [run_sliceAt_slice (P := Try.prog) w 22 _ _ _ _ (by kernel_rfl)]
  exact run_cut g n c b t hb ht w
theorem wrap_small (b t : Nat) (hb : b ≤ 12) (ht : t ≤ 8) : IntKind.i64.wrap ((b : Int) + (t : Int)) = (b : Int) + (t : Int) := by
  rw [IntKind.wrap_i64]; omega

/-- What a region that draws its order holds on to: the world of its start, and the cells that it reads. -/
theorem keepC {W a b : World} {p q r t : Nat} {x1 x2 x3 x4 : Value}
    (h : Below W.heap.size W a ∧ a.cell? ⟨p, 0, none⟩ = some x1 ∧ a.cell? ⟨q, 0, none⟩ = some x2 ∧ a.cell? ⟨r, 1, none⟩ = some x3 ∧ a.cell? ⟨t, 0, none⟩ = some x4) (hB : Below a.heap.size a b) :
    Below W.heap.size W b ∧ b.cell? ⟨p, 0, none⟩ = some x1 ∧ b.cell? ⟨q, 0, none⟩ = some x2 ∧ b.cell? ⟨r, 1, none⟩ = some x3 ∧ b.cell? ⟨t, 0, none⟩ = some x4 :=
  ⟨h.1.trans (hB.mono h.1.size), cell_kept hB h.2.1, cell_kept hB h.2.2.1, cell_kept hB h.2.2.2.1, cell_kept hB h.2.2.2.2⟩

theorem keepD {W a b : World} {q r : Nat} {x2 x3 : Value}
    (h : Below W.heap.size W a ∧ a.cell? ⟨q, 0, none⟩ = some x2 ∧ a.cell? ⟨r, 1, none⟩ = some x3) (hB : Below a.heap.size a b) :
    Below W.heap.size W b ∧ b.cell? ⟨q, 0, none⟩ = some x2 ∧ b.cell? ⟨r, 1, none⟩ = some x3 :=
  ⟨h.1.trans (hB.mono h.1.size), cell_kept hB h.2.1, cell_kept hB h.2.2⟩

set_option maxHeartbeats 4000000 in
set_option maxRecDepth 100000 in
theorem law_numbers (v : Value) (l : List Nat) (w : World) (h : Rd w v l) (y : Byt l) :
    Calls Try.prog 4 #[v] w fun e w' => e = .returned (.bool true) ∧ Below w.heap.size w w' := by
  have H := hid h
  obtain ⟨q, cap, rfl, _, _, _⟩ := h.parts
  clear h
  by_cases hl : l.length ≤ 1048576
  · go_enter Try.func4, Try.ntmps4
    go_wp2_with (go_at_call 5; go_in)
    refine (drawPW _ l _ H.out y hl).mono ?_
    rintro e w1 ⟨n, s, HN, rfl, hBel⟩
    go_wp2_with fail
    refine (ipw n s _ HN.out.1).mono ?_
    rintro e w2 ⟨vp, rfl, OP, hB⟩
    obtain ⟨pP, cP, rfl, -, -, -⟩ := OP.rd.parts
    replace OP := OP.mono hBel.size
    replace hBel := hBel.trans (hB.mono hBel.size)
    clear hB
    go_wp2_with fail
    refine (drawRW _ l _ ((H.out.below hBel).below (below_alloc1 w2 _)) y hl).mono ?_
    rintro e w3 ⟨gd, nd, cd, d, a, k, HA, HD, yd, rfl, OD, hB⟩
    simp only [World.size_alloc] at OD
    have VP := var_below hB (heap_alloc_new w2 (.cells #[.int .i64 (packC n s), .slice pP (packB n s).length cP] 33))
    replace hB := (below_alloc1 w2 _).trans (hB.mono (by simp))
    replace OP := OP.below hB
    replace OD := OD.mono (base' := w.heap.size) (by have := hBel.size; omega)
    replace hBel := hBel.trans (hB.mono hBel.size)
    have HDL := hid HD
    clear hB HD
    go_wp2_with fail
    refine (irw _ d a k _ OD.rd yd (by have := HDL.out; have := HA.out.2.2.2.2; omega)).mono ?_
    rintro e w4 ⟨rfl, hB⟩
    replace VP := var_below hB VP
    replace OP := OP.below hB
    replace OD := OD.below hB
    replace hBel := hBel.trans (hB.mono hBel.size)
    clear hB
    go_wp2_with fail
    refine (drawXB _ l _ ((H.out.below hBel).below (below_alloc1 w4 _)) y hl).mono ?_
    rintro e w5 ⟨g1, n1, c1, g2, n2, c2, d1, d2, m1, m2, e1, e2, y1, y2, rfl, O1, O2, hB⟩
    have VR := var_below hB (heap_alloc_new w4 (.cells #[.int .i64 (rdC d a k), .int .i64 (rdV d a k)] 38))
    replace hB := (below_alloc1 w4 _).trans (hB.mono (by simp))
    replace VP := var_below hB VP
    replace OP := OP.below hB
    replace OD := OD.below hB
    replace O1 := O1.mono (base' := w.heap.size) (by have := hBel.size; simp; omega)
    replace O2 := O2.mono (base' := w.heap.size) (by have := hBel.size; simp; omega)
    replace hBel := hBel.trans (hB.mono hBel.size)
    have E1 := hid e1
    have E2 := hid e2
    clear hB e1 e2
    go_wp2_with fail
    refine (ixb _ _ d1 d2 _ O1.rd O2.rd y1 y2).mono ?_
    rintro e w6 ⟨vx, rfl, OX, hB⟩
    obtain ⟨pX, cX, rfl, -, -, -⟩ := OX.rd.parts
    replace OX := OX.mono (base' := w.heap.size) hBel.size
    replace VP := var_below hB VP
    replace VR := var_below hB VR
    replace OP := OP.below hB
    replace OD := OD.below hB
    replace O1 := O1.below hB
    replace O2 := O2.below hB
    replace hBel := hBel.trans (hB.mono hBel.size)
    clear hB
    go_wp2_with fail
    refine (drawSB _ l _ ((H.out.below hBel).below (below_alloc1 w6 _)) y hl).mono ?_
    rintro e w7 ⟨va, vb, la, lb, rfl, OU, OV, hB⟩
    obtain ⟨pU, cU, rfl, -, -, -⟩ := OU.rd.parts
    obtain ⟨pV, cV, rfl, -, -, -⟩ := OV.rd.parts
    have VX := var_below hB (heap_alloc_new w6 (.cells #[.int .i64 (xorC d1 d2), .slice pX (xorB d1 d2).length cX] 33))
    replace hB := (below_alloc1 w6 _).trans (hB.mono (by simp))
    replace VP := var_below hB VP
    replace VR := var_below hB VR
    replace OP := OP.below hB
    replace OD := OD.below hB
    replace O1 := O1.below hB
    replace O2 := O2.below hB
    replace OX := OX.below hB
    replace hBel := hBel.trans (hB.mono hBel.size)
    clear hB
    obtain ⟨p0, p1, -, -⟩ := var2_facts VP
    obtain ⟨r0, r1, -, -⟩ := var2_facts VR
    obtain ⟨x0, x1, -, -⟩ := var2_facts VX
    have C1 : Hid (∀ wz : World, Calls Try.prog 21 #[.int .i64 n, .int .i64 s] wz fun e w' => ∃ (p : Option Addr) (m cc : Nat), e = .returned (.agg #[.int .i64 (packC n s), .slice p m cc]) ∧ Below wz.heap.size wz w') := fun wz => (spw n s wz HN.out.1).mono fun e w' ⟨v, he, ho, hb⟩ => by
      obtain ⟨p, cc, rfl, -, -, -⟩ := ho.rd.parts
      exact ⟨p, _, cc, he, hb⟩
    have C2 : Hid (∀ wz : World, Below w7.heap.size w7 wz → Calls Try.prog 22 #[.slice (some ⟨gd, 0, none⟩) nd cd, .int .i64 a, .int .i64 k] wz fun e w' => e = .returned (.agg #[.int .i64 (rdC d a k), .int .i64 (rdV d a k)]) ∧ Below wz.heap.size wz w') :=
      fun wz hb => srw _ d a k wz (OD.rd.below hb) yd (by have := HDL.out; have := HA.out.2.2.2.2; omega) (by have := HA.out; omega) (by have := HA.out; omega)
    have C3 : Hid (∀ wz : World, Below w7.heap.size w7 wz → Calls Try.prog 23 #[.slice (some ⟨g1, 0, none⟩) n1 c1, .slice (some ⟨g2, 0, none⟩) n2 c2] wz fun e w' => ∃ (p : Option Addr) (m cc : Nat), e = .returned (.agg #[.int .i64 (xorC d1 d2), .slice p m cc]) ∧ Below wz.heap.size wz w') :=
      fun wz hb => (sxb _ _ d1 d2 wz (O1.rd.below hb) (O2.rd.below hb) y1 y2).mono fun e w' ⟨v, he, ho, hb⟩ => by
        obtain ⟨p, cc, rfl, -, -, -⟩ := ho.rd.parts
        exact ⟨p, _, cc, he, hb⟩
    have C4 : Hid (∀ wz : World, Below w7.heap.size w7 wz → Calls Try.prog 24 #[.slice pU la.length cU, .slice pV lb.length cV] wz fun e w' => e = .returned (.bool (sameS la lb)) ∧ Below wz.heap.size wz w') :=
      fun wz hb => (samei _ _ la lb wz (OU.rd.below hb) (OV.rd.below hb)).mono fun e w' ⟨he, hw⟩ => ⟨he, by subst hw; exact Below.refl _ _⟩
    have C5 : Hid (∀ wz : World, Below w7.heap.size w7 wz → Calls Try.prog 25 #[.slice pU la.length cU, .slice pV lb.length cV] wz fun e w' => e = .returned (.bool (sameS la lb)) ∧ Below wz.heap.size wz w') :=
      fun wz hb => (lwsame _ _ la lb wz (OU.rd.below hb) (OV.rd.below hb)).mono fun e w' ⟨he, hw⟩ => ⟨he, by subst hw; exact Below.refl _ _⟩
    have F0 : ∀ (c : Int) (p : Option Addr) (m cc : Nat) (w : World), (Instr.field 33 (.agg #[.int .i64 c, .slice p m cc]) 0).run Try.prog w = .ok (.int .i64 c) w := fun _ _ _ _ _ => by kernel_rfl
    go_wp2_with fail
    go_region_held3 (fun w' => Below w7.heap.size w7 w' ∧ w'.cell? ⟨w2.heap.size, 0, none⟩ = some (.int .i64 (packC n s)) ∧ w'.cell? ⟨w4.heap.size, 0, none⟩ = some (.int .i64 (rdC d a k)) ∧ w'.cell? ⟨w4.heap.size, 1, none⟩ = some (.int .i64 (rdV d a k)) ∧ w'.cell? ⟨w6.heap.size, 0, none⟩ = some (.int .i64 (xorC d1 d2)))
      (first | exact ⟨(Below.refl _ _).drew, p0, r0, r1, x0⟩ | exact ⟨Below.refl _ _, p0, r0, r1, x0⟩ | exact keepC ‹_ ∧ _ ∧ _ ∧ _ ∧ _› hz)
      (first | (go_at_call 21; refine (C1.out _).mono ?_; rintro e wz ⟨pz, mz, cz, rfl, hz⟩) | (go_at_call 22; refine (C2.out _ ?_).mono ?_; exact (‹Below w7.heap.size w7 _ ∧ _›).1; rintro e wz ⟨rfl, hz⟩) | (go_at_call 23; refine (C3.out _ ?_).mono ?_; exact (‹Below w7.heap.size w7 _ ∧ _›).1; rintro e wz ⟨pz, mz, cz, rfl, hz⟩) | (go_at_call 24; refine (C4.out _ ?_).mono ?_; exact (‹Below w7.heap.size w7 _ ∧ _›).1; rintro e wz ⟨rfl, hz⟩) | (go_at_call 25; refine (C5.out _ ?_).mono ?_; exact (‹Below w7.heap.size w7 _ ∧ _›).1; rintro e wz ⟨rfl, hz⟩))
    have hS := ‹Below w7.heap.size w7 _ ∧ _›
    obtain ⟨hb7, q0, q1, q2, q3⟩ := hS
    replace hBel := hBel.trans (hb7.mono hBel.size)
    replace VP := var_below hb7 VP
    replace VR := var_below hb7 VR
    replace VX := var_below hb7 VX
    replace OP := OP.below hb7
    replace OD := OD.below hb7
    replace O1 := O1.below hb7
    replace O2 := O2.below hb7
    replace OX := OX.below hb7
    clear C1 C2 C3 C4 C5 hb7 OU OV p0 p1 r0 r1 x0 x1 q0 q1 q2 q3
    have F1 : ∀ (c : Int) (p : Option Addr) (m cc : Nat) (w : World), (Instr.field 33 (.agg #[.int .i64 c, .slice p m cc]) 1).run Try.prog w = .ok (.slice p m cc) w := fun _ _ _ _ _ => by kernel_rfl
    obtain ⟨p0, p1, -, -⟩ := var2_facts VP
    by_cases cp : packC n s = 0
    case' pos =>
      have t1 : (packC n s == 0) = true := beq_iff_eq.2 cp
      obtain ⟨hL, hC, hV⟩ := pack_read n s HN.out.1 cp
      have t2 : (((packB n s).length : Int) != s) = false := by rw [hL]; simp
      have I := irw (.slice pP (packB n s).length cP) (packB n s) 0 s _ OP.rd (packB_byt n s) (by have := packB_len n s; omega)
      rw [hC, hV] at I
      have HI := hid I
      clear hL hC hV I cp
      go_wp2_with fail
      refine HI.out.mono ?_
      rintro e wz ⟨rfl, hB⟩
      replace VR := var_below hB VR
      replace VX := var_below hB VX
      replace OD := OD.below hB
      replace O1 := O1.below hB
      replace O2 := O2.below hB
      replace OX := OX.below hB
      replace hBel := hBel.trans (hB.mono hBel.size)
      clear hB HI t1 t2 p0 p1 VP OP
    case' neg =>
      have t1 : (packC n s == 0) = false := beq_eq_false_iff_ne.2 cp
      go_wp2_with fail
      clear t1 p0 p1 VP OP cp
    all_goals
      obtain ⟨r0, r1, -, -⟩ := var2_facts VR
      by_cases cr : rdC d a k = 0
      · have t3 : (rdC d a k == 0) = true := beq_iff_eq.2 cr
        obtain ⟨a0, k1, k8, hak, v0, v1, pc, pb⟩ := read_pack d yd a k cr
        have hnd := HDL.out
        obtain ⟨_, cd', ecd, hcd, _, _⟩ := OD.rd.parts
        simp only [Value.slice.injEq] at ecd
        obtain ⟨-, -, rfl⟩ := ecd
        have CQ := hid (fun wq => ipw (rdV d a k) k wq v1)
        rw [pc, pb] at CQ
        have ZA : Hid (a.toNat + k.toNat ≤ nd ∧ 1 ≤ k.toNat) := ⟨by omega, by omega⟩
        generalize rdV d a k = V at *
        generalize rdC d a k = RC at *
        obtain ⟨b, rfl⟩ : ∃ j : Nat, a = j := ⟨a.toNat, by omega⟩
        obtain ⟨t, rfl⟩ : ∃ j : Nat, k = j := ⟨k.toNat, by omega⟩
        rw [Int.toNat_natCast, Int.toNat_natCast] at *
        have b1 : b + t ≤ cd := by have := ZA.out; omega
        have b2 : (b : Int) + (t : Int) ≤ (cd : Int) := by omega
        have b3 : (b : Int) < (cd : Int) := by have := ZA.out; omega
        have b4 : (b : Int) ≤ (b : Int) + (t : Int) := by omega
        have b5 : b ≤ 12 := by have := ZA.out; have := HA.out.2.2.2.2; omega
        have t8 : t ≤ 8 := by omega
        have t4 := same_self ((d.drop b).take t)
        have HSL := run_cut gd nd cd b t b1 (by omega)
        have HSA := run_cutAt gd nd cd b t b1 (by omega)
        have HWR := wrap_small b t b5 t8
        have C6 : Hid (∀ wq : World, Calls Try.prog 15 #[.int .i64 V, .int .i64 (t : Int)] wq fun e w' => ∃ (p : Option Addr) (m cc : Nat), e = .returned (.agg #[.int .i64 0, .slice p m cc]) ∧ Rd w' (.slice p m cc) ((d.drop b).take t) ∧ Below wq.heap.size wq w') := fun wq => (CQ.out wq).mono fun e w' ⟨v, he, ho, hb⟩ => by
          obtain ⟨p, cc, rfl, -, -, -⟩ := ho.rd.parts
          exact ⟨p, _, cc, he, ho.rd, hb⟩
        have DC : Hid (∀ wq : World, Below wz.heap.size wz wq → Rd wq (.slice (some ⟨gd, b, none⟩) t (cd - b)) ((d.drop b).take t)) := fun wq hb => rd_cut (OD.rd.below hb) HDL.out ZA.out.1 ZA.out.2
        have C7 : Hid (∀ wq : World, Below wz.heap.size wz wq → ∀ (p : Option Addr) (m cc : Nat), Rd wq (.slice p m cc) ((d.drop b).take t) → Calls Try.prog 25 #[.slice p m cc, .slice (some ⟨gd, b, none⟩) t (cd - b)] wq fun e w' => e = .returned (.bool (sameS ((d.drop b).take t) ((d.drop b).take t))) ∧ Below wq.heap.size wq w') :=
          fun wq hb p m cc hr => (lwsame _ _ _ _ wq hr (DC.out wq hb)).mono fun e w' ⟨he, hw⟩ => ⟨he, by subst hw; exact Below.refl _ _⟩
        clear CQ pc pb v0 v1 a0 k1 k8 hak cr hnd DC
        go_wp2_with fail
        go_region_held3 (fun w' => Below wz.heap.size wz w' ∧ w'.cell? ⟨w4.heap.size, 0, none⟩ = some (.int .i64 RC) ∧ w'.cell? ⟨w4.heap.size, 1, none⟩ = some (.int .i64 V))
          (first | exact ⟨(Below.refl _ _).drew, r0, r1⟩ | exact ⟨Below.refl _ _, r0, r1⟩ | exact keepD ‹_ ∧ _ ∧ _› hz)
          (first | (go_at_call 15; refine (C6.out _).mono ?_; rintro e wq ⟨pq, mq, cq, rfl, hq, hz⟩) | (go_at_call 25; refine (C7.out _ ?_ _ _ _ hq).mono ?_; exact (‹Below wz.heap.size wz _ ∧ _›).1; rintro e wy ⟨rfl, hz⟩))
        have hS := ‹Below wz.heap.size wz _ ∧ _›
        have hB := hS.1
        replace VX := var_below hB VX
        replace O1 := O1.below hB
        replace O2 := O2.below hB
        replace OX := OX.below hB
        replace hBel := hBel.trans (hB.mono hBel.size)
        clear hS hB r0 r1 VR t3 C6 C7 ZA b1 b2 b3 b4 b5 t8 HSL HSA HWR t4
        by_cases cx : xorC d1 d2 = 0
        · have t5 : (xorC d1 d2 != 0) = false := by rw [cx]; rfl
          obtain ⟨yX, lX, eX⟩ := xor_twice d1 d2 y1 y2 cx
          have I := ixb (.slice pX (xorB d1 d2).length cX) (.slice (some ⟨g2, 0, none⟩) n2 c2) (xorB d1 d2) d2 _ OX.rd O2.rd yX y2
          rw [eX] at I
          have HI := hid I
          have t6 : (((xorB d1 d2).length : Int) == (n1 : Int)) = true := by rw [lX, E1.out]; simp
          have LX := hid lX
          clear eX I lX
          obtain ⟨x0, x1, -, -⟩ := var2_facts VX
          go_wp2_with fail
          refine HI.out.mono ?_
          rintro e wx ⟨vx, rfl, OY, hB⟩
          obtain ⟨pY, cY, rfl, -, -, -⟩ := OY.rd.parts
          replace VX := var_below hB VX
          replace O1 := O1.below hB
          replace hBel := hBel.trans (hB.mono hBel.size)
          clear x0 x1 HI
          obtain ⟨x0, x1, -, -⟩ := var2_facts VX
          go_wp2_with fail
          refine (lwsame _ _ d1 d1 _ OY.rd O1.rd).mono ?_
          rintro e w' ⟨rfl, rfl⟩
          have t7 := same_self d1
          go_wp2
          go_ret
          exact ⟨rfl, hBel⟩
        · have t5 : (xorC d1 d2 != 0) = true := by rw [bne_iff_ne]; exact cx
          obtain ⟨x0, x1, -, -⟩ := var2_facts VX
          go_wp2
          go_ret
          exact ⟨rfl, hBel⟩
      · have t3 : (rdC d a k == 0) = false := beq_eq_false_iff_ne.2 cr
        go_wp2_with fail
        go_quiet (fail)
        have hB := below_drewN (Below.refl wz.heap.size wz) nq
        replace VX := var_below hB VX
        replace O1 := O1.below hB
        replace O2 := O2.below hB
        replace OX := OX.below hB
        replace hBel := hBel.trans (hB.mono hBel.size)
        clear hB r0 r1 VR t3 cr
        by_cases cx : xorC d1 d2 = 0
        · have t5 : (xorC d1 d2 != 0) = false := by rw [cx]; rfl
          obtain ⟨yX, lX, eX⟩ := xor_twice d1 d2 y1 y2 cx
          have I := ixb (.slice pX (xorB d1 d2).length cX) (.slice (some ⟨g2, 0, none⟩) n2 c2) (xorB d1 d2) d2 _ OX.rd O2.rd yX y2
          rw [eX] at I
          have HI := hid I
          have t6 : (((xorB d1 d2).length : Int) == (n1 : Int)) = true := by rw [lX, E1.out]; simp
          have LX := hid lX
          clear eX I lX
          obtain ⟨x0, x1, -, -⟩ := var2_facts VX
          go_wp2_with fail
          refine HI.out.mono ?_
          rintro e wx ⟨vx, rfl, OY, hB⟩
          obtain ⟨pY, cY, rfl, -, -, -⟩ := OY.rd.parts
          replace VX := var_below hB VX
          replace O1 := O1.below hB
          replace hBel := hBel.trans (hB.mono hBel.size)
          clear x0 x1 HI
          obtain ⟨x0, x1, -, -⟩ := var2_facts VX
          go_wp2_with fail
          refine (lwsame _ _ d1 d1 _ OY.rd O1.rd).mono ?_
          rintro e w' ⟨rfl, rfl⟩
          have t7 := same_self d1
          go_wp2
          go_ret
          exact ⟨rfl, hBel⟩
        · have t5 : (xorC d1 d2 != 0) = true := by rw [bne_iff_ne]; exact cx
          obtain ⟨x0, x1, -, -⟩ := var2_facts VX
          go_wp2
          go_ret
          exact ⟨rfl, hBel⟩
  · go_enter Try.func4, Try.ntmps4
    go_wp2_with (go_at_call 5; go_in)
    go_ret
    exact ⟨rfl, Below.refl _ _⟩
end Go.Proofs.Ythkicdgkhlkndaa.W
