/-
  What AgeWaits and ClearWaits answer: how the laws compare, mark and hold it.
-/
import Derived.Test.YtbleikbmnkjbeapWtK
import Derived.Test.YtbleikbmnkjbeapWtC
namespace Go.Proofs.Ytbleikbmnkjbeap.W
open Go.ChangeShapes Go.WideShapes Go.ChangeAt Go.RowKit
open Go.Proofs.Ytbleikbmnkjbeap.M

/-- Two slices that are their own, and lie apart: their blocks lie between lo and hi. -/
def TwI (w : World) (lo hi : Nat) (v : Value) (l : List Wai) (u : Value) (m : List Wai) : Prop :=
  OJ w lo hi v l ∧ OJ w lo hi u m ∧ ∀ g, v.ownBlock = some g → u.ownBlock ≠ some g
theorem TwI.of {w : World} {lo : Nat} {v u : Value} {l m : List Wai} (h : Two w lo v l u m) : TwI w lo w.heap.size v l u m := ⟨OJ.of h.1, OJ.of h.2.1, h.2.2⟩
theorem TwI.below {w w' : World} {lo hi : Nat} {v u : Value} {l m : List Wai} (h : TwI w lo hi v l u m) (k : Below w.heap.size w w') : TwI w' lo hi v l u m := ⟨h.1.below k, h.2.1.below k, h.2.2⟩
theorem TwI.agr {w w' : World} {lo hi : Nat} {v u : Value} {l m : List Wai} (h : TwI w lo hi v l u m) (k : Agr lo hi w w') : TwI w' lo hi v l u m := ⟨h.1.agr k, h.2.1.agr k, h.2.2⟩
/-- What is told reads so. -/
def RdP (w : World) (v : Value) (l : List Wai) (u : Value) (m : List Wai) : Prop := RdJ w v l ∧ RdJ w u m
theorem TwI.rd {w : World} {lo hi : Nat} {v u : Value} {l m : List Wai} (h : TwI w lo hi v l u m) : RdP w v l u m := ⟨h.1.rd, h.2.1.rd⟩
theorem RdP.below {w w' : World} {v u : Value} {l m : List Wai} (h : RdP w v l u m) (k : Below w.heap.size w w') : RdP w' v l u m := ⟨h.1.below k, h.2.below k⟩
theorem ne_of_apart {v u : Value} (h : ∀ g, v.ownBlock = some g → u.ownBlock ≠ some g) : u.ownBlock = none ∨ u.ownBlock ≠ v.ownBlock := by
  cases hv : v.ownBlock with
  | none => cases hu : u.ownBlock with
    | none => exact .inl rfl
    | some k => exact .inr (by simp)
  | some k => exact .inr (h k hv)
set_option maxHeartbeats 1000000 in
set_option maxRecDepth 100000 in
theorem eqWaR (c : Int) (va vb ua ub : Value) (cs ds : List Wai) (w : World) (ha : RdP w va cs vb ds) (hb : RdP w ua cs ub ds) (hl : cs.length ≤ 1048576) (hl2 : ds.length ≤ 1048576) :
    Calls Try.prog 16 #[.agg #[.int .i64 c, va, vb], .agg #[.int .i64 c, ua, ub]] w fun e w' => e = .returned (.bool true) ∧ Below w.heap.size w w' := by
  have HA := hid ha
  have HB := hid hb
  obtain ⟨a1, k1, rfl, -, -, -⟩ := ha.1.parts
  obtain ⟨a2, k2, rfl, -, -, -⟩ := ha.2.parts
  obtain ⟨b1, j1, rfl, -, -, -⟩ := hb.1.parts
  obtain ⟨b2, j2, rfl, -, -, -⟩ := hb.2.parts
  clear ha hb
  have V0 := hid (var_alloc (.cells #[.int .i64 c, .slice b1 cs.length j1, .slice b2 ds.length j2] 30) (heap_alloc_new w (.cells #[.int .i64 c, .slice a1 cs.length k1, .slice a2 ds.length k2] 30)))
  have V1 := hid (heap_alloc_new (w.alloc (.cells #[.int .i64 c, .slice a1 cs.length k1, .slice a2 ds.length k2] 30)) (.cells #[.int .i64 c, .slice b1 cs.length j1, .slice b2 ds.length j2] 30))
  have B0 := hid (below_alloc2 w (.cells #[.int .i64 c, .slice a1 cs.length k1, .slice a2 ds.length k2] 30) (.cells #[.int .i64 c, .slice b1 cs.length j1, .slice b2 ds.length j2] 30))
  simp only [World.size_alloc] at V1
  go_enter Try.func16, Try.ntmps16
  go_wp2_with fail
  refine (eqJS _ _ cs _ (HA.out.1.below B0.out) (HB.out.1.below B0.out) hl).mono ?_
  rintro e w' ⟨rfl, hB⟩
  have BB := hid (B0.out.trans (hB.mono B0.out.size))
  replace V0 := hid (var_below hB V0.out)
  replace V1 := hid (var_below hB V1.out)
  have f0 : w'.cell? ⟨w.heap.size, 2, none⟩ = some (.slice a2 ds.length k2) := by rw [cell_of_row w' _ 2 _ _ _ V0.out]; rfl
  have f1 : w'.cell? ⟨w.heap.size + 1, 2, none⟩ = some (.slice b2 ds.length j2) := by rw [cell_of_row w' _ 2 _ _ _ V1.out]; rfl
  clear hB B0 V0 V1
  go_wp2_with fail
  refine (eqJS _ _ ds _ (HA.out.2.below BB.out) (HB.out.2.below BB.out) hl2).mono ?_
  rintro e w2 ⟨rfl, hB⟩
  replace BB := hid (BB.out.trans (hB.mono BB.out.size))
  clear hB f0 f1
  go_wp2
  go_ret
  exact ⟨rfl, BB.out⟩
set_option maxHeartbeats 1000000 in
set_option maxRecDepth 100000 in
theorem markWaR (c : Int) (va vb : Value) (cs ds : List Wai) (k : Nat) (z : Int) (hz : z = (k : Int)) (lo hi : Nat) (w : World) (h : TwI w lo hi va cs vb ds) (hl : cs.length ≤ 1048576) (hl2 : ds.length ≤ 1048576) (hk : k ≤ 4194304) :
    Calls Try.prog 18 #[.agg #[.int .i64 c, va, vb], .int .i64 z] w fun e w' => e = .returned (.int .i64 ((k + (cs.length + ds.length) * 7 : Nat) : Int)) ∧ TwI w' lo hi va (marksJ k cs.length) vb (marksJ (k + cs.length * 7) ds.length) ∧ Ins lo hi w w' := by
  have H := hid h
  have LT := hid fun g e => (h.1.1.lt g e).2
  obtain ⟨a1, k1, rfl, -, -, -⟩ := h.1.rd.parts
  obtain ⟨a2, k2, rfl, -, -, -⟩ := h.2.1.rd.parts
  subst hz
  clear h
  have B0 := hid (below_alloc1 w (.cells #[.int .i64 c, .slice a1 cs.length k1, .slice a2 ds.length k2] 30))
  have V0 := hid (heap_alloc_new w (.cells #[.int .i64 c, .slice a1 cs.length k1, .slice a2 ds.length k2] 30))
  replace H := hid (H.out.below B0.out)
  have I0 := hid (Ins.of_below (lo := lo) (hi := hi) B0.out)
  go_enter Try.func18, Try.ntmps18
  go_wp2_with fail
  refine (markJx _ cs k lo _ H.out.1.1 hl (by omega)).mono ?_
  rintro e w1 ⟨rfl, hO, hG⟩
  have V1 := hid (var_grownN hG V0.out (fun e => by have := LT.out _ e; omega))
  have O1 := hid hO
  have G1 := hid hG
  have O2 := hid (H.out.2.1.1.kept hG (ne_of_apart H.out.2.2))
  have f0 : w1.cell? ⟨w.heap.size, 2, none⟩ = some (.slice a2 ds.length k2) := by rw [cell_of_row w1 _ 2 _ _ _ V1.out]; rfl
  clear hO hG V0 V1
  obtain ⟨m, hm⟩ : ∃ m : Nat, m = k + cs.length * 7 := ⟨_, rfl⟩
  rw [← hm]
  have km : m ≤ 16777216 := by omega
  replace hm := hid hm
  go_wp2_with fail
  refine (markJx _ ds m lo _ O2.out hl2 km).mono ?_
  rintro e w2 ⟨rfl, hO, hG⟩
  have R1 := hid (O1.out.kept hG (ne_of_apart (fun g e e' => H.out.2.2 g e' e)))
  have R2 := hid hO
  have II := hid ((I0.out.trans (Ins.of_grown G1.out fun g e => H.out.1.blk e)).trans (Ins.of_grown hG fun g e => H.out.2.1.blk e))
  have L1 := hid H.out.1.2
  have L2 := hid H.out.2.1.2
  have AP := hid H.out.2.2
  clear hO hG O1 O2 G1 I0 H f0 B0
  obtain ⟨n, hn⟩ : ∃ n : Nat, n = m + ds.length * 7 := ⟨_, rfl⟩
  rw [← hn]
  have hn2 := hid (show n = k + (cs.length + ds.length) * 7 by have := hm.out; omega)
  replace hn := hid hn
  go_wp2
  go_ret
  exact ⟨congrArg (fun z : Nat => Ending.returned (.int .i64 (z : Int))) hn2.out, ⟨⟨R1.out, L1.out⟩, by rw [← hm.out]; exact ⟨R2.out, L2.out⟩, AP.out⟩, II.out⟩
set_option maxHeartbeats 1000000 in
set_option maxRecDepth 100000 in
theorem heldWaR (c : Int) (va vb : Value) (cs ds : List Wai) (k : Nat) (z : Int) (hz : z = (k : Int)) (w : World) (h : RdP w va (marksJ k cs.length) vb (marksJ (k + cs.length * 7) ds.length)) (hl : cs.length ≤ 1048576) (hl2 : ds.length ≤ 1048576) (hk : k ≤ 4194304) :
    Calls Try.prog 19 #[.agg #[.int .i64 c, va, vb], .int .i64 z] w fun e w' => e = .returned (.int .i64 ((k + (cs.length + ds.length) * 7 : Nat) : Int)) ∧ Below w.heap.size w w' := by
  have H := hid h
  obtain ⟨a1, k1, e, -, -, -⟩ := h.1.parts
  rw [marksJ_len] at e
  subst e
  obtain ⟨a2, k2, e, -, -, -⟩ := h.2.parts
  rw [marksJ_len] at e
  subst e
  subst hz
  clear h
  have B0 := hid (below_alloc1 w (.cells #[.int .i64 c, .slice a1 cs.length k1, .slice a2 ds.length k2] 30))
  have V0 := hid (heap_alloc_new w (.cells #[.int .i64 c, .slice a1 cs.length k1, .slice a2 ds.length k2] 30))
  have f0 : (w.alloc (.cells #[.int .i64 c, .slice a1 cs.length k1, .slice a2 ds.length k2] 30)).cell? ⟨w.heap.size, 2, none⟩ = some (.slice a2 ds.length k2) := by rw [cell_of_row _ _ 2 _ _ _ V0.out]; rfl
  clear V0
  go_enter Try.func19, Try.ntmps19
  go_wp2_with fail
  generalize w.alloc (.cells #[.int .i64 c, .slice a1 cs.length k1, .slice a2 ds.length k2] 30) = w0 at *
  refine (heldJ _ cs.length k _ (H.out.1.below B0.out) hl (by omega)).mono ?_
  rintro e w1 ⟨rfl, hw⟩
  subst hw
  obtain ⟨m, hm⟩ : ∃ m : Nat, m = k + cs.length * 7 := ⟨_, rfl⟩
  rw [← hm]
  have km : m ≤ 16777216 := by omega
  have hm0 : decide ((m : Int) < 0) = false := decide_eq_false (by omega)
  replace hm := hid hm
  go_wp2_with fail
  refine (heldJ _ ds.length m _ (by rw [hm.out]; exact H.out.2.below B0.out) hl2 km).mono ?_
  rintro e w2 ⟨rfl, hw⟩
  subst hw
  clear hm0 f0 H
  obtain ⟨n, hn⟩ : ∃ n : Nat, n = m + ds.length * 7 := ⟨_, rfl⟩
  rw [← hn]
  have hn2 := hid (show n = k + (cs.length + ds.length) * 7 by have := hm.out; omega)
  have hn0 : decide ((n : Int) < 0) = false := decide_eq_false (by omega)
  replace hn := hid hn
  go_wp2
  go_ret
  exact ⟨congrArg (fun z : Nat => Ending.returned (.int .i64 (z : Int))) hn2.out, B0.out⟩
end Go.Proofs.Ytbleikbmnkjbeap.W
