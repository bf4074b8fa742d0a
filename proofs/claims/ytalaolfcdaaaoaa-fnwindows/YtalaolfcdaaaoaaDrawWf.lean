/-
  How a window and numbers are drawn. Generated text.
-/
import Derived.Deep.Cut
import Derived.Test.YtalaolfcdaaaoaaDrawWe
import Derived.Test.YtalaolfcdaaaoaaL6kW
import Derived.Test.YtalaolfcdaaaoaaL6W
import Derived.Test.YtalaolfcdaaaoaaNwW
import Derived.Test.YtalaolfcdaaaoaaAppZ
namespace Go.Proofs.Ytalaolfcdaaaoaa.W
open Go.ChangeShapes Go.WideShapes Go.ChangeAt Go.RowKit
open Go.Proofs.Ytalaolfcdaaaoaa.M

theorem owZ_litW {w : World} {base g : Nat} (h : w.heap[g]? = some (.cells #[] 2)) (hb : base ≤ g) : OwZ w base (.slice (some ⟨g, 0, none⟩) 0 0) [] :=
  ⟨rfl, .inr ⟨g, 0, #[], rfl, hb, h, Nat.le_refl _, Nat.zero_le _, rfl, rfl⟩⟩
theorem ne_ownZ {w : World} {v u : Value} {n m : Nat} {zs : List Int} (h1 : ∀ b, v.ownBlock = some b → b < n) (h2 : OwZ w m u zs) (h3 : n < m) : v.ownBlock = none ∨ v.ownBlock ≠ u.ownBlock := by
  cases e : v.ownBlock with
  | none => exact .inl rfl
  | some b => exact .inr (fun q => by have := h1 b e; have := (h2.lt b q.symm).1; omega)
set_option maxHeartbeats 8000000 in
set_option maxRecDepth 100000 in
theorem drTa (v : Value) (l : List Nat) (w : World) (h : Rd w v l) (y : Byt l) (hl : l.length ≤ 1048576) :
    Calls Try.prog 42 #[v] w fun e w' => ∃ (top : Int) (u uz : Value) (xs zs : List Int), e = .returned (.tuple #[.agg #[.int .i64 top, u], uz]) ∧ RdZ w' u xs ∧ (WfZ xs ∧ xs.length ≤ 20) ∧ RdZ w' uz zs ∧ zs.length ≤ 201 ∧ Below w.heap.size w w' := by
  have RC := hid h
  obtain ⟨q, cap, rfl, -, -, -⟩ := h.parts
  clear h
  have VR := hid (heap_alloc_new w (.cells #[.int .i64 0, .slice none 0 0] 69))
  have B0 := hid (below_alloc1 w (.cells #[.int .i64 0, .slice none 0 0] 69))
  go_enter Try.func42, Try.ntmps42
  go_wp2_with fail
  generalize w.alloc (.cells #[.int .i64 0, .slice none 0 0] 69) = x0 at *
  obtain ⟨gr, hg⟩ : ∃ g, g = w.heap.size := ⟨_, rfl⟩
  rw [← hg] at VR ⊢
  have GR := hid (show w.heap.size ≤ gr by omega)
  clear hg
  refine (source _ l x0 (RC.out.below B0.out) y).mono ?_
  rintro e x1 ⟨rfl, hS⟩
  have S := hid hS
  have LX := hid (var_lt VR.out)
  replace VR := hid (var_below hS.bel VR.out)
  clear hS
  obtain ⟨gs, hgs⟩ : ∃ q, q = x0.heap.size := ⟨_, rfl⟩
  rw [← hgs] at S LX ⊢
  have NVR := hid (show gr ≠ gs by have := LX.out; omega)
  have GS0 := hid hgs
  clear hgs
  go_wp2_with fail
  refine (l6b x0 x1 gs _ l 0 S.out (by omega) hl).mono ?_
  rintro e x2 ⟨top, u, xs, t', rfl, hO, WF, htt, hS, hG⟩
  obtain ⟨pu, cu, rfl, -, -, -⟩ := hO.rd.parts
  have GV := hid (show gs < x1.heap.size from var_lt S.out.cells)
  have OL := hid hO
  have WX := hid WF
  replace VR := hid (var_grown hG VR.out (fun e => by have := Option.some.inj e; have := NVR.out; omega))
  have G := hid hG
  replace S := hid hS
  clear hO WF hS hG
  have LXR := hid (show gr < x1.heap.size by have := LX.out; have := GV.out; omega)
  have AR := hid (show ∀ b, (Value.slice pu xs.length cu).ownBlock = some b → b ≠ gr from fun b e => by have := (OL.out.lt b e).1; have := LXR.out; omega)
  clear G
  have VW := hid (heap_alloc_new x2 (.cells #[.int .i64 top, .slice pu xs.length cu] 69))
  have hA := below_alloc1 x2 (.cells #[.int .i64 top, .slice pu xs.length cu] 69)
  have LQ := hid (show gs < x2.heap.size ∧ gr < x2.heap.size from ⟨var_lt S.out.cells, var_lt VR.out⟩)
  have LO := hid (fun b e => (OL.out.lt b e).2)
  replace S := hid (S.out.later hA)
  replace OL := hid (OL.out.below hA)
  replace VR := hid (var_below hA VR.out)
  clear hA
  go_upto_region 3 with fail
  have SZ := hid (show x2.heap.size < (x2.alloc (.cells #[.int .i64 top, .slice pu xs.length cu] 69)).heap.size by simp)
  generalize x2.alloc (.cells #[.int .i64 top, .slice pu xs.length cu] 69) = x3 at *
  obtain ⟨gw, hg⟩ : ∃ g, g = x2.heap.size := ⟨_, rfl⟩
  rw [← hg] at VW LQ LO SZ ⊢
  clear hg
  have NVW := hid (show gw ≠ gs by have := LQ.out.1; omega)
  have NRW := hid (show gr ≠ gw by have := LQ.out.2; omega)
  have OZ0 := hid (owZ_litW (base := x3.heap.size) (heap_alloc_new x3 (.cells #[] 2)) (Nat.le_refl _))
  have hA := below_alloc1 x3 (.cells #[] 2)
  have S3 := hid (show x3.heap.size ≤ (x3.alloc (.cells #[] 2)).heap.size by simp)
  replace S := hid (S.out.later hA)
  replace OL := hid (OL.out.below hA)
  replace VW := hid (var_below hA VW.out)
  replace VR := hid (var_below hA VR.out)
  clear hA
  go_wp2_with fail
  generalize x3.alloc (.cells #[] 2) = x4 at *
  obtain ⟨N3, hN3⟩ : ∃ n, n = x3.heap.size := ⟨_, rfl⟩
  rw [← hN3] at OZ0 S3 SZ ⊢
  clear hN3
  have L3 := hid (show gs < N3 ∧ gw < N3 ∧ gr < N3 ∧ x0.heap.size ≤ N3 by have := LQ.out; have := SZ.out; have := GS0.out; omega)
  refine (next x0 x4 gs _ l _ 12 S.out (by omega) (by omega) hl).mono ?_
  rintro e x5 ⟨r, rfl, hr, hS, hG⟩
  replace S := hid hS
  replace OL := hid (OL.out.keepGz hG GV.out)
  replace OZ0 := hid (OZ0.out.keepGz hG L3.out.1)
  replace VW := hid (var_grown hG VW.out (fun e => by have := Option.some.inj e; have := NVW.out; omega))
  replace VR := hid (var_grown hG VR.out (fun e => by have := Option.some.inj e; have := NVR.out; omega))
  replace S3 := hid (Nat.le_trans S3.out hG.size)
  clear hS hG
  obtain ⟨m, rfl, hm⟩ : ∃ m : Nat, r = (m : Int) ∧ m ≤ 201 := ⟨r.toNat, by have := hr (by omega); omega, by have := hr (by omega); omega⟩
  clear hr
  go_wp2_with fail
  refine (chance x0 x5 gs _ l _ 40 S.out (by omega) (by omega) hl).mono ?_
  rintro e x6 ⟨r, rfl, hS, hG⟩
  replace S := hid hS
  replace OL := hid (OL.out.keepGz hG GV.out)
  replace OZ0 := hid (OZ0.out.keepGz hG L3.out.1)
  replace VW := hid (var_grown hG VW.out (fun e => by have := Option.some.inj e; have := NVW.out; omega))
  replace VR := hid (var_grown hG VR.out (fun e => by have := Option.some.inj e; have := NVR.out; omega))
  replace S3 := hid (Nat.le_trans S3.out hG.size)
  clear hS hG
  cases r
  · skip
    go_wp2_with fail
    go_loopw [6, 7] (fun s6 c wr => ∃ m : Nat, ∃ u6 : Value, ∃ zs : List Int, ∃ t' : Nat, c = .int .i64 m ∧ s6 = u6 ∧ zs.length + m ≤ 201 ∧ t' + m * 3 ≤ 700 ∧ Hid (OwZ wr N3 u6 zs) ∧ Hid (Src x0 wr gs (.slice q l.length cap) l t') ∧ Hid (OwZ wr x1.heap.size (.slice pu xs.length cu) xs) ∧ Hid (wr.heap[gw]? = some (.cells #[.int .i64 top, .slice pu xs.length cu] 69)) ∧ Hid (wr.heap[gr]? = some (.cells #[.int .i64 0, .slice none 0 0] 69)) ∧ Hid (N3 ≤ wr.heap.size)) (fun _ c _ => (intOf c).toNat)
    case atStart => exact ⟨m, _, [], _, rfl, rfl, by simp; omega, by omega, OZ0, S, OL, VW, VR, S3⟩
    case round =>
      clear S OL VW VR S3 OZ0 hm htt
      obtain ⟨m, u6, zs, t', rfl, rfl, hm, htt, OZ0, S, OL, VW, VR, S3⟩ := hrel
      obtain ⟨pz, cz, rfl, -, -, -⟩ := OZ0.out.rd.parts
      by_cases hlt : 0 < m
      · have hli : (0 : Int) < (m : Int) := by omega
        go_wp2_with fail
        refine (next x0 wr gs _ l _ 40 S.out (by omega) (by omega) hl).mono ?_
        rintro e w1 ⟨r1, rfl, -, hS, hG⟩
        replace S := hid hS
        replace OL := hid (OL.out.keepGz hG GV.out)
        replace OZ0 := hid (OZ0.out.keepGz hG L3.out.1)
        replace VW := hid (var_grown hG VW.out (fun e => by have := Option.some.inj e; have := NVW.out; omega))
        replace VR := hid (var_grown hG VR.out (fun e => by have := Option.some.inj e; have := NVR.out; omega))
        replace S3 := hid (Nat.le_trans S3.out hG.size)
        clear hS hG
        go_wp2_with fail
        refine (next x0 w1 gs _ l _ 10 S.out (by omega) (by omega) hl).mono ?_
        rintro e w2 ⟨r2, rfl, -, hS, hG⟩
        replace S := hid hS
        replace OL := hid (OL.out.keepGz hG GV.out)
        replace OZ0 := hid (OZ0.out.keepGz hG L3.out.1)
        replace VW := hid (var_grown hG VW.out (fun e => by have := Option.some.inj e; have := NVW.out; omega))
        replace VR := hid (var_grown hG VR.out (fun e => by have := Option.some.inj e; have := NVR.out; omega))
        replace S3 := hid (Nat.le_trans S3.out hG.size)
        clear hS hG
        have VL := hid (show Lst (w2.alloc (.cells #[.int .i64 r1, .int .i64 r2, .int .i64 (-1)] 2)) w2.heap.size [r1, r2, -1] from heap_alloc_new w2 (.cells #[.int .i64 r1, .int .i64 r2, .int .i64 (-1)] 2))
        have hA := below_alloc1 w2 (.cells #[.int .i64 r1, .int .i64 r2, .int .i64 (-1)] 2)
        have NG := hid (show w2.heap.size ≠ gs by have := var_lt S.out.cells; omega)
        replace S := hid (S.out.later hA)
        replace OL := hid (OL.out.below hA)
        replace OZ0 := hid (OZ0.out.below hA)
        replace VW := hid (var_below hA VW.out)
        replace VR := hid (var_below hA VR.out)
        replace S3 := hid (Nat.le_trans S3.out hA.size)
        clear hA
        go_wp2_with fail
        refine (pick' x0 _ gs w2.heap.size 3 _ l _ [r1, r2, -1] S.out (by omega) hl VL.out NG.out rfl (by omega) (by omega)).mono ?_
        rintro e w3 ⟨d, -, rfl, hS, hG⟩
        replace S := hid hS
        replace OL := hid (OL.out.keepGz hG GV.out)
        replace OZ0 := hid (OZ0.out.keepGz hG L3.out.1)
        replace VW := hid (var_grown hG VW.out (fun e => by have := Option.some.inj e; have := NVW.out; omega))
        replace VR := hid (var_grown hG VR.out (fun e => by have := Option.some.inj e; have := NVR.out; omega))
        replace S3 := hid (Nat.le_trans S3.out hG.size)
        clear hS hG
        clear VL NG
        have RN := hid (rdZ_one w3 d 2)
        have hA := below_alloc1 w3 (.cells #[.int .i64 d] 2)
        replace S := hid (S.out.later hA)
        replace OL := hid (OL.out.below hA)
        replace OZ0 := hid (OZ0.out.below hA)
        replace VW := hid (var_below hA VW.out)
        replace VR := hid (var_below hA VR.out)
        replace S3 := hid (Nat.le_trans S3.out hA.size)
        clear hA
        have LA := hid (show zs.length + [d].length ≤ 4194304 by simp; omega)
        obtain ⟨ys, hys⟩ : ∃ y, y = zs ++ [d] := ⟨_, rfl⟩
        have YE := hid hys
        clear hys
        go_wp2_with (at_builtin; refine list_appZ rfl _ _ rfl _ _ zs [d] N3 rfl rfl OZ0.out RN.out LA.out S3.out ?_; intro v5 w5 hO hG; rw [← YE.out] at hO; obtain ⟨p5, c5, rfl, -, -, -⟩ := hO.rd.parts; have O5 := hid hO; have S5 := hid (S.out.grown hG (fun e => by have := (OZ0.out.lt gs e.symm).1; have := L3.out.1; omega) (fun b e => by have := (OZ0.out.lt b e).1; have := L3.out.2.2.2; omega)); have L5 := hid (OL.out.kept hG (ne_ownZ LO.out OZ0.out SZ.out)); have W5 := hid (var_grown hG VW.out (fun e => by have := (OZ0.out.lt gw e.symm).1; have := L3.out; omega)); have R5 := hid (var_grown hG VR.out (fun e => by have := (OZ0.out.lt gr e.symm).1; have := L3.out; omega)); have T5 := hid (Nat.le_trans S3.out hG.size))
        clear hO hG OZ0 S OL VW VR S3 RN
        go_roundw
        case rel => exact ⟨m - 1, _, ys, _, by go_num, rfl, by rw [YE.out]; simp; omega, by omega, O5, S5, L5, W5, R5, T5⟩
        case measure => simp [intOf]; omega
      · obtain rfl : m = 0 := by omega
        obtain ⟨y0, y1, -, -⟩ := var2_facts VW.out
        obtain ⟨q0, q1, z0, z1⟩ := var2_facts VR.out
        have VE := hid (var2_set (x' := .int .i64 top) (y' := .slice pu xs.length cu) VR.out)
        have OE := hid ((OL.out.setNz (g := gr) (i := 0) (x := .int .i64 top) AR.out).setNz (g := gr) (i := 1) (x := .slice pu xs.length cu) AR.out)
        have ZE := hid ((OZ0.out.setNz (g := gr) (i := 0) (x := .int .i64 top) (fun b e => by have := (OZ0.out.lt b e).1; have := L3.out; omega)).setNz (g := gr) (i := 1) (x := .slice pu xs.length cu) (fun b e => by have := (OZ0.out.lt b e).1; have := L3.out; omega))
        have SE := hid (wbel B0.out S.out.bel GR.out (x := .int .i64 top) (y := .slice pu xs.length cu))
        clear S OL OZ0 VR
        go_wp2
        try simp only [Exit.inBlock, Exit.then]
        exact bodyPost_ret (v := .tuple #[.agg #[.int .i64 top, .slice pu xs.length cu], .slice pz zs.length cz]) (results_ctX rfl _ _ (.slice pz zs.length cz) gr 69 _ _ _ rfl rfl VE.out Try.underlying69 rfl (by kernel_rfl)) rfl ⟨top, .slice pu xs.length cu, .slice pz zs.length cz, xs, zs, rfl, OE.out.rd, WX.out, ZE.out.rd, by omega, SE.out⟩
  · clear hm
    have VL := hid (show Lst (x6.alloc (.cells #[.int .i64 200, .int .i64 201] 2)) x6.heap.size [200, 201] from heap_alloc_new x6 (.cells #[.int .i64 200, .int .i64 201] 2))
    have hA := below_alloc1 x6 (.cells #[.int .i64 200, .int .i64 201] 2)
    have NG := hid (show x6.heap.size ≠ gs by have := var_lt S.out.cells; omega)
    replace S := hid (S.out.later hA)
    replace OL := hid (OL.out.below hA)
    replace OZ0 := hid (OZ0.out.below hA)
    replace VW := hid (var_below hA VW.out)
    replace VR := hid (var_below hA VR.out)
    replace S3 := hid (Nat.le_trans S3.out hA.size)
    clear hA
    go_wp2_with fail
    refine (pick' x0 _ gs x6.heap.size 2 _ l _ [200, 201] S.out (by omega) hl VL.out NG.out rfl (by omega) (by omega)).mono ?_
    rintro e x7 ⟨r, hr, rfl, hS, hG⟩
    replace S := hid hS
    replace OL := hid (OL.out.keepGz hG GV.out)
    replace OZ0 := hid (OZ0.out.keepGz hG L3.out.1)
    replace VW := hid (var_grown hG VW.out (fun e => by have := Option.some.inj e; have := NVW.out; omega))
    replace VR := hid (var_grown hG VR.out (fun e => by have := Option.some.inj e; have := NVR.out; omega))
    replace S3 := hid (Nat.le_trans S3.out hG.size)
    clear hS hG
    clear VL NG
    obtain ⟨m, rfl, hm⟩ : ∃ m : Nat, r = (m : Int) ∧ m ≤ 201 := ⟨r.toNat, by simp at hr; omega, by simp at hr; omega⟩
    clear hr
    go_wp2_with fail
    go_loopw [6, 7] (fun s6 c wr => ∃ m : Nat, ∃ u6 : Value, ∃ zs : List Int, ∃ t' : Nat, c = .int .i64 m ∧ s6 = u6 ∧ zs.length + m ≤ 201 ∧ t' + m * 3 ≤ 700 ∧ Hid (OwZ wr N3 u6 zs) ∧ Hid (Src x0 wr gs (.slice q l.length cap) l t') ∧ Hid (OwZ wr x1.heap.size (.slice pu xs.length cu) xs) ∧ Hid (wr.heap[gw]? = some (.cells #[.int .i64 top, .slice pu xs.length cu] 69)) ∧ Hid (wr.heap[gr]? = some (.cells #[.int .i64 0, .slice none 0 0] 69)) ∧ Hid (N3 ≤ wr.heap.size)) (fun _ c _ => (intOf c).toNat)
    case atStart => exact ⟨m, _, [], _, rfl, rfl, by simp; omega, by omega, OZ0, S, OL, VW, VR, S3⟩
    case round =>
      clear S OL VW VR S3 OZ0 hm htt
      obtain ⟨m, u6, zs, t', rfl, rfl, hm, htt, OZ0, S, OL, VW, VR, S3⟩ := hrel
      obtain ⟨pz, cz, rfl, -, -, -⟩ := OZ0.out.rd.parts
      by_cases hlt : 0 < m
      · have hli : (0 : Int) < (m : Int) := by omega
        go_wp2_with fail
        refine (next x0 wr gs _ l _ 40 S.out (by omega) (by omega) hl).mono ?_
        rintro e w1 ⟨r1, rfl, -, hS, hG⟩
        replace S := hid hS
        replace OL := hid (OL.out.keepGz hG GV.out)
        replace OZ0 := hid (OZ0.out.keepGz hG L3.out.1)
        replace VW := hid (var_grown hG VW.out (fun e => by have := Option.some.inj e; have := NVW.out; omega))
        replace VR := hid (var_grown hG VR.out (fun e => by have := Option.some.inj e; have := NVR.out; omega))
        replace S3 := hid (Nat.le_trans S3.out hG.size)
        clear hS hG
        go_wp2_with fail
        refine (next x0 w1 gs _ l _ 10 S.out (by omega) (by omega) hl).mono ?_
        rintro e w2 ⟨r2, rfl, -, hS, hG⟩
        replace S := hid hS
        replace OL := hid (OL.out.keepGz hG GV.out)
        replace OZ0 := hid (OZ0.out.keepGz hG L3.out.1)
        replace VW := hid (var_grown hG VW.out (fun e => by have := Option.some.inj e; have := NVW.out; omega))
        replace VR := hid (var_grown hG VR.out (fun e => by have := Option.some.inj e; have := NVR.out; omega))
        replace S3 := hid (Nat.le_trans S3.out hG.size)
        clear hS hG
        have VL := hid (show Lst (w2.alloc (.cells #[.int .i64 r1, .int .i64 r2, .int .i64 (-1)] 2)) w2.heap.size [r1, r2, -1] from heap_alloc_new w2 (.cells #[.int .i64 r1, .int .i64 r2, .int .i64 (-1)] 2))
        have hA := below_alloc1 w2 (.cells #[.int .i64 r1, .int .i64 r2, .int .i64 (-1)] 2)
        have NG := hid (show w2.heap.size ≠ gs by have := var_lt S.out.cells; omega)
        replace S := hid (S.out.later hA)
        replace OL := hid (OL.out.below hA)
        replace OZ0 := hid (OZ0.out.below hA)
        replace VW := hid (var_below hA VW.out)
        replace VR := hid (var_below hA VR.out)
        replace S3 := hid (Nat.le_trans S3.out hA.size)
        clear hA
        go_wp2_with fail
        refine (pick' x0 _ gs w2.heap.size 3 _ l _ [r1, r2, -1] S.out (by omega) hl VL.out NG.out rfl (by omega) (by omega)).mono ?_
        rintro e w3 ⟨d, -, rfl, hS, hG⟩
        replace S := hid hS
        replace OL := hid (OL.out.keepGz hG GV.out)
        replace OZ0 := hid (OZ0.out.keepGz hG L3.out.1)
        replace VW := hid (var_grown hG VW.out (fun e => by have := Option.some.inj e; have := NVW.out; omega))
        replace VR := hid (var_grown hG VR.out (fun e => by have := Option.some.inj e; have := NVR.out; omega))
        replace S3 := hid (Nat.le_trans S3.out hG.size)
        clear hS hG
        clear VL NG
        have RN := hid (rdZ_one w3 d 2)
        have hA := below_alloc1 w3 (.cells #[.int .i64 d] 2)
        replace S := hid (S.out.later hA)
        replace OL := hid (OL.out.below hA)
        replace OZ0 := hid (OZ0.out.below hA)
        replace VW := hid (var_below hA VW.out)
        replace VR := hid (var_below hA VR.out)
        replace S3 := hid (Nat.le_trans S3.out hA.size)
        clear hA
        have LA := hid (show zs.length + [d].length ≤ 4194304 by simp; omega)
        obtain ⟨ys, hys⟩ : ∃ y, y = zs ++ [d] := ⟨_, rfl⟩
        have YE := hid hys
        clear hys
        go_wp2_with (at_builtin; refine list_appZ rfl _ _ rfl _ _ zs [d] N3 rfl rfl OZ0.out RN.out LA.out S3.out ?_; intro v5 w5 hO hG; rw [← YE.out] at hO; obtain ⟨p5, c5, rfl, -, -, -⟩ := hO.rd.parts; have O5 := hid hO; have S5 := hid (S.out.grown hG (fun e => by have := (OZ0.out.lt gs e.symm).1; have := L3.out.1; omega) (fun b e => by have := (OZ0.out.lt b e).1; have := L3.out.2.2.2; omega)); have L5 := hid (OL.out.kept hG (ne_ownZ LO.out OZ0.out SZ.out)); have W5 := hid (var_grown hG VW.out (fun e => by have := (OZ0.out.lt gw e.symm).1; have := L3.out; omega)); have R5 := hid (var_grown hG VR.out (fun e => by have := (OZ0.out.lt gr e.symm).1; have := L3.out; omega)); have T5 := hid (Nat.le_trans S3.out hG.size))
        clear hO hG OZ0 S OL VW VR S3 RN
        go_roundw
        case rel => exact ⟨m - 1, _, ys, _, by go_num, rfl, by rw [YE.out]; simp; omega, by omega, O5, S5, L5, W5, R5, T5⟩
        case measure => simp [intOf]; omega
      · obtain rfl : m = 0 := by omega
        obtain ⟨y0, y1, -, -⟩ := var2_facts VW.out
        obtain ⟨q0, q1, z0, z1⟩ := var2_facts VR.out
        have VE := hid (var2_set (x' := .int .i64 top) (y' := .slice pu xs.length cu) VR.out)
        have OE := hid ((OL.out.setNz (g := gr) (i := 0) (x := .int .i64 top) AR.out).setNz (g := gr) (i := 1) (x := .slice pu xs.length cu) AR.out)
        have ZE := hid ((OZ0.out.setNz (g := gr) (i := 0) (x := .int .i64 top) (fun b e => by have := (OZ0.out.lt b e).1; have := L3.out; omega)).setNz (g := gr) (i := 1) (x := .slice pu xs.length cu) (fun b e => by have := (OZ0.out.lt b e).1; have := L3.out; omega))
        have SE := hid (wbel B0.out S.out.bel GR.out (x := .int .i64 top) (y := .slice pu xs.length cu))
        clear S OL OZ0 VR
        go_wp2
        try simp only [Exit.inBlock, Exit.then]
        exact bodyPost_ret (v := .tuple #[.agg #[.int .i64 top, .slice pu xs.length cu], .slice pz zs.length cz]) (results_ctX rfl _ _ (.slice pz zs.length cz) gr 69 _ _ _ rfl rfl VE.out Try.underlying69 rfl (by kernel_rfl)) rfl ⟨top, .slice pu xs.length cu, .slice pz zs.length cz, xs, zs, rfl, OE.out.rd, WX.out, ZE.out.rd, by omega, SE.out⟩
end Go.Proofs.Ytalaolfcdaaaoaa.W
