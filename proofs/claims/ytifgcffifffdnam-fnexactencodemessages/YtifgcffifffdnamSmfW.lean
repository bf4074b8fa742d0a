/-
  The fault of a message: what the model's l7Form and MessageFault answer. Generated text.
-/
import Derived.Test.YtifgcffifffdnamSmnW
import Derived.Test.YtifgcffifffdnamWofC
namespace Go.Proofs.Ytifgcffifffdnam.W
open Go.ChangeShapes Go.WideShapes Go.ChangeAt Go.RowKit
open Go.Proofs.Ytifgcffifffdnam.M

theorem len_nil {l : List Nat} : l.length = 0 ↔ l = [] := by cases l <;> simp
set_option maxHeartbeats 2000000 in
set_option maxRecDepth 100000 in
theorem sfo1 (g : Nat) (s n cn ci cs cm op id' : Int) (a : Option Addr) (l : List Nat) (c : Nat) (w : World) (hV : w.heap[g]? = some (.cells #[.int .i64 1, .int .i64 s, .int .i64 n, .int .i64 cn, .int .i64 ci, .int .i64 cs, .int .i64 cm, .int .i64 op, .int .i64 id', .slice a l.length c] 45)) :
    Calls Try.prog 51 #[.pointer (some ⟨g, 0, none⟩)] w fun e w' => ∃ t, e = .returned (.bool t) ∧ (t = true ↔ mForm ⟨1, s, n, cn, ci, cs, cm, op, id', l⟩) ∧ Below w.heap.size w w' := by
  have V := hid hV
  obtain ⟨⟨f0, -⟩, -⟩ := v10_facts hV
  clear hV
  go_enter Try.func51, Try.ntmps51
  go_wp2_with fail
  refine (needA _ _ _ _ _ _ _ _ _ _ _ _ _ _ V.out).mono ?_
  rintro e w1 ⟨t, rfl, ht, hB⟩
  have BB := hid hB
  clear hB f0
  have T := hid (show t = true ↔ mForm ⟨1, s, n, cn, ci, cs, cm, op, id', l⟩ from by
    rw [ht]
    constructor
    · rintro ⟨h0, h1, h2, h3, h4, h5, h6⟩
      exact .inl ⟨.inl rfl, h0, h1, h2, h3, h4, h5, len_nil.1 h6⟩
    · intro hf
      have hz : cn = 0 ∧ ci = 0 ∧ cs = 0 ∧ cm = 0 ∧ op = 0 ∧ id' = 0 ∧ l = [] := by
        rcases hf with ⟨q | q, r⟩ | ⟨q, r⟩ | ⟨q, r⟩ | ⟨q, r⟩ <;> first | exact r | (exact absurd (show (1 : Int) = _ from q) (by decide))
      obtain ⟨h0, h1, h2, h3, h4, h5, h6⟩ := hz
      exact ⟨h0, h1, h2, h3, h4, h5, len_nil.2 h6⟩)
  clear ht
  go_wp2
  go_ret
  exact ⟨_, rfl, T.out, BB.out⟩
set_option maxHeartbeats 2000000 in
set_option maxRecDepth 100000 in
theorem sfo2 (g : Nat) (s n cn ci cs cm op id' : Int) (a : Option Addr) (l : List Nat) (c : Nat) (w : World) (hV : w.heap[g]? = some (.cells #[.int .i64 2, .int .i64 s, .int .i64 n, .int .i64 cn, .int .i64 ci, .int .i64 cs, .int .i64 cm, .int .i64 op, .int .i64 id', .slice a l.length c] 45)) :
    Calls Try.prog 51 #[.pointer (some ⟨g, 0, none⟩)] w fun e w' => ∃ t, e = .returned (.bool t) ∧ (t = true ↔ mForm ⟨2, s, n, cn, ci, cs, cm, op, id', l⟩) ∧ Below w.heap.size w w' := by
  have V := hid hV
  obtain ⟨⟨f0, -⟩, -⟩ := v10_facts hV
  clear hV
  go_enter Try.func51, Try.ntmps51
  go_wp2_with fail
  refine (needB _ _ _ _ _ _ _ _ _ _ _ _ _ _ V.out).mono ?_
  rintro e w1 ⟨t, rfl, ht, hB⟩
  have BB := hid hB
  clear hB f0
  have T := hid (show t = true ↔ mForm ⟨2, s, n, cn, ci, cs, cm, op, id', l⟩ from by
    rw [ht]
    constructor
    · rintro ⟨h0, h1, h2, h3, h4, h5, h6, h7⟩
      exact .inr (.inl ⟨rfl, h0, h1, h2, h3, h4, h5, h6, len_nil.1 h7⟩)
    · intro hf
      have hz : n = 0 ∧ cn = 0 ∧ ci = 0 ∧ cs = 0 ∧ cm = 0 ∧ op = 0 ∧ id' = 0 ∧ l = [] := by
        rcases hf with ⟨q | q, r⟩ | ⟨q, r⟩ | ⟨q, r⟩ | ⟨q, r⟩ <;> first | exact r | (exact absurd (show (2 : Int) = _ from q) (by decide))
      obtain ⟨h0, h1, h2, h3, h4, h5, h6, h7⟩ := hz
      exact ⟨h0, h1, h2, h3, h4, h5, h6, len_nil.2 h7⟩)
  clear ht
  go_wp2
  go_ret
  exact ⟨_, rfl, T.out, BB.out⟩
set_option maxHeartbeats 2000000 in
set_option maxRecDepth 100000 in
theorem sfo3 (g : Nat) (s n cn ci cs cm op id' : Int) (a : Option Addr) (l : List Nat) (c : Nat) (w : World) (hV : w.heap[g]? = some (.cells #[.int .i64 3, .int .i64 s, .int .i64 n, .int .i64 cn, .int .i64 ci, .int .i64 cs, .int .i64 cm, .int .i64 op, .int .i64 id', .slice a l.length c] 45)) :
    Calls Try.prog 51 #[.pointer (some ⟨g, 0, none⟩)] w fun e w' => ∃ t, e = .returned (.bool t) ∧ (t = true ↔ mForm ⟨3, s, n, cn, ci, cs, cm, op, id', l⟩) ∧ Below w.heap.size w w' := by
  have V := hid hV
  obtain ⟨⟨f0, -⟩, -⟩ := v10_facts hV
  clear hV
  go_enter Try.func51, Try.ntmps51
  go_wp2_with fail
  refine (needA _ _ _ _ _ _ _ _ _ _ _ _ _ _ V.out).mono ?_
  rintro e w1 ⟨t, rfl, ht, hB⟩
  have BB := hid hB
  clear hB f0
  have T := hid (show t = true ↔ mForm ⟨3, s, n, cn, ci, cs, cm, op, id', l⟩ from by
    rw [ht]
    constructor
    · rintro ⟨h0, h1, h2, h3, h4, h5, h6⟩
      exact .inl ⟨.inr rfl, h0, h1, h2, h3, h4, h5, len_nil.1 h6⟩
    · intro hf
      have hz : cn = 0 ∧ ci = 0 ∧ cs = 0 ∧ cm = 0 ∧ op = 0 ∧ id' = 0 ∧ l = [] := by
        rcases hf with ⟨q | q, r⟩ | ⟨q, r⟩ | ⟨q, r⟩ | ⟨q, r⟩ <;> first | exact r | (exact absurd (show (3 : Int) = _ from q) (by decide))
      obtain ⟨h0, h1, h2, h3, h4, h5, h6⟩ := hz
      exact ⟨h0, h1, h2, h3, h4, h5, len_nil.2 h6⟩)
  clear ht
  go_wp2
  go_ret
  exact ⟨_, rfl, T.out, BB.out⟩
set_option maxHeartbeats 2000000 in
set_option maxRecDepth 100000 in
theorem sfo4 (g : Nat) (s n cn ci cs cm op id' : Int) (a : Option Addr) (l : List Nat) (c : Nat) (w : World) (hV : w.heap[g]? = some (.cells #[.int .i64 4, .int .i64 s, .int .i64 n, .int .i64 cn, .int .i64 ci, .int .i64 cs, .int .i64 cm, .int .i64 op, .int .i64 id', .slice a l.length c] 45)) :
    Calls Try.prog 51 #[.pointer (some ⟨g, 0, none⟩)] w fun e w' => ∃ t, e = .returned (.bool t) ∧ (t = true ↔ mForm ⟨4, s, n, cn, ci, cs, cm, op, id', l⟩) ∧ Below w.heap.size w w' := by
  have V := hid hV
  obtain ⟨⟨f0, -⟩, -⟩ := v10_facts hV
  clear hV
  go_enter Try.func51, Try.ntmps51
  go_wp2_with fail
  refine (needC _ _ _ _ _ _ _ _ _ _ _ _ _ _ V.out).mono ?_
  rintro e w1 ⟨t, rfl, ht, hB⟩
  have BB := hid hB
  clear hB f0
  have T := hid (show t = true ↔ mForm ⟨4, s, n, cn, ci, cs, cm, op, id', l⟩ from by
    rw [ht]
    constructor
    · rintro ⟨h0, h1, h2, h3, h4⟩
      exact .inr (.inr (.inl ⟨rfl, h0, h1, h2, h3, len_nil.1 h4⟩))
    · intro hf
      have hz : s = 0 ∧ n = 0 ∧ op = 0 ∧ id' = 0 ∧ l = [] := by
        rcases hf with ⟨q | q, r⟩ | ⟨q, r⟩ | ⟨q, r⟩ | ⟨q, r⟩ <;> first | exact r | (exact absurd (show (4 : Int) = _ from q) (by decide))
      obtain ⟨h0, h1, h2, h3, h4⟩ := hz
      exact ⟨h0, h1, h2, h3, len_nil.2 h4⟩)
  clear ht
  go_wp2
  go_ret
  exact ⟨_, rfl, T.out, BB.out⟩
set_option maxHeartbeats 2000000 in
set_option maxRecDepth 100000 in
theorem sfo5 (g : Nat) (s n cn ci cs cm op id' : Int) (a : Option Addr) (l : List Nat) (c : Nat) (w : World) (hV : w.heap[g]? = some (.cells #[.int .i64 5, .int .i64 s, .int .i64 n, .int .i64 cn, .int .i64 ci, .int .i64 cs, .int .i64 cm, .int .i64 op, .int .i64 id', .slice a l.length c] 45)) :
    Calls Try.prog 51 #[.pointer (some ⟨g, 0, none⟩)] w fun e w' => ∃ t, e = .returned (.bool t) ∧ (t = true ↔ mForm ⟨5, s, n, cn, ci, cs, cm, op, id', l⟩) ∧ Below w.heap.size w w' := by
  have V := hid hV
  obtain ⟨⟨f0, -⟩, -⟩ := v10_facts hV
  clear hV
  go_enter Try.func51, Try.ntmps51
  go_wp2_with fail
  refine (needD _ _ _ _ _ _ _ _ _ _ _ _ _ _ V.out).mono ?_
  rintro e w1 ⟨t, rfl, ht, hB⟩
  have BB := hid hB
  clear hB f0
  have T := hid (show t = true ↔ mForm ⟨5, s, n, cn, ci, cs, cm, op, id', l⟩ from by
    rw [ht]
    constructor
    · rintro ⟨h0, h1, h2, h3, h4, h5⟩
      exact .inr (.inr (.inr ⟨rfl, h0, h1, h2, h3, h4, h5⟩))
    · intro hf
      have hz : s = 0 ∧ n = 0 ∧ cn = 0 ∧ ci = 0 ∧ cs = 0 ∧ cm = 0 := by
        rcases hf with ⟨q | q, r⟩ | ⟨q, r⟩ | ⟨q, r⟩ | ⟨q, r⟩ <;> first | exact r | (exact absurd (show (5 : Int) = _ from q) (by decide))
      obtain ⟨h0, h1, h2, h3, h4, h5⟩ := hz
      exact ⟨h0, h1, h2, h3, h4, h5⟩)
  clear ht
  go_wp2
  go_ret
  exact ⟨_, rfl, T.out, BB.out⟩
set_option maxHeartbeats 2000000 in
set_option maxRecDepth 100000 in
theorem sfo0 (g : Nat) (k : Int) (x1 x2 x3 x4 x5 x6 x7 x8 x9 : Value) (w : World) (hV : w.heap[g]? = some (.cells #[.int .i64 k, x1, x2, x3, x4, x5, x6, x7, x8, x9] 45)) (h1 : k ≠ 1) (h2 : k ≠ 2) (h3 : k ≠ 3) (h4 : k ≠ 4) (h5 : k ≠ 5) :
    Calls Try.prog 51 #[.pointer (some ⟨g, 0, none⟩)] w fun e w' => e = .returned (.bool false) ∧ Below w.heap.size w w' := by
  obtain ⟨⟨f0, -⟩, -⟩ := v10_facts hV
  clear hV
  have e1 : (k == 1) = false := beq_eq_false_iff_ne.2 h1
  have e2 : (k == 2) = false := beq_eq_false_iff_ne.2 h2
  have e3 : (k == 3) = false := beq_eq_false_iff_ne.2 h3
  have e4 : (k == 4) = false := beq_eq_false_iff_ne.2 h4
  have e5 : (k == 5) = false := beq_eq_false_iff_ne.2 h5
  clear h1 h2 h3 h4 h5
  go_enter Try.func51, Try.ntmps51
  go_wp2
  go_ret
  exact ⟨rfl, Below.refl _ _⟩
set_option maxHeartbeats 2000000 in
set_option maxRecDepth 100000 in
theorem smf1 (s n cn ci cs cm op id' code : Int) (v : Value) (l : List Nat) (w : World) (h : Rd w v l) (hc : mF ⟨1, s, n, cn, ci, cs, cm, op, id', l⟩ code) :
    Calls Try.prog 18 #[.agg #[.int .i64 1, .int .i64 s, .int .i64 n, .int .i64 cn, .int .i64 ci, .int .i64 cs, .int .i64 cm, .int .i64 op, .int .i64 id', v]] w fun e w' => e = .returned (.int .i64 code) ∧ Below w.heap.size w w' := by
  have HC := hid hc
  obtain ⟨a, c, rfl, -, -, -⟩ := h.parts
  clear h hc
  go_enter Try.func18, Try.ntmps18
  go_wp2_with fail
  have V := hid (heap_alloc_new w (.cells #[.int .i64 1, .int .i64 s, .int .i64 n, .int .i64 cn, .int .i64 ci, .int .i64 cs, .int .i64 cm, .int .i64 op, .int .i64 id', .slice a l.length c] 45))
  have BB := hid (below_alloc1 w (.cells #[.int .i64 1, .int .i64 s, .int .i64 n, .int .i64 cn, .int .i64 ci, .int .i64 cs, .int .i64 cm, .int .i64 op, .int .i64 id', .slice a l.length c] 45))
  generalize w.alloc (.cells #[.int .i64 1, .int .i64 s, .int .i64 n, .int .i64 cn, .int .i64 ci, .int .i64 cs, .int .i64 cm, .int .i64 op, .int .i64 id', .slice a l.length c] 45) = w0 at *
  obtain ⟨g, hg⟩ : ∃ g, g = w.heap.size := ⟨_, rfl⟩
  rw [← hg] at V ⊢
  clear hg
  refine (sfo1 _ _ _ _ _ _ _ _ _ _ _ _ _ V.out).mono ?_
  rintro e w1 ⟨t, rfl, ht, hB⟩
  replace BB := hid (BB.out.trans (hB.mono BB.out.size))
  replace V := hid (var_below hB V.out)
  have FO := hid ht
  clear hB ht
  cases t
  case false =>
    obtain rfl := mF_form HC.out (fun q => by have := FO.out.2 q; cases this)
    clear FO HC
    go_wp2
    go_ret
    exact ⟨rfl, BB.out⟩
  replace FO := hid (FO.out.1 rfl)
  obtain ⟨⟨f0, f1, f2, f3, f4, f5, f6, f7, f8, f9⟩, -⟩ := v10_facts V.out
  go_wp2_with fail
  refine (l1in _ _ _ _).mono ?_
  rintro e w2 ⟨rfl, rfl⟩
  obtain ⟨t, q1⟩ : ∃ t, t = inB s 0 1000000 := ⟨_, rfl⟩
  rw [← q1]
  replace q1 := hid q1
  cases t
  case false =>
    obtain rfl := mF_fit HC.out FO.out (fun q => by have := (q.2.2 (show (1 : Int) ≠ 4 by decide) (show (1 : Int) ≠ 5 by decide)).1; rw [← q1.out] at this; cases this)
    clear FO HC
    go_wp2
    go_ret
    exact ⟨rfl, BB.out⟩
  go_wp2_with fail
  refine (l1in _ _ _ _).mono ?_
  rintro e w2 ⟨rfl, rfl⟩
  obtain ⟨t, q2⟩ : ∃ t, t = inB n 0 3 := ⟨_, rfl⟩
  rw [← q2]
  replace q2 := hid q2
  cases t
  case false =>
    obtain rfl := mF_fit HC.out FO.out (fun q => by have := (q.2.2 (show (1 : Int) ≠ 4 by decide) (show (1 : Int) ≠ 5 by decide)).2; rw [← q2.out] at this; cases this)
    clear FO HC
    go_wp2
    go_ret
    exact ⟨rfl, BB.out⟩
  obtain rfl := mF_ok HC.out FO.out ⟨fun e => absurd (show (1 : Int) = 4 from e) (by decide), fun e => absurd (show (1 : Int) = 5 from e) (by decide), fun _ _ => ⟨q1.out.symm, q2.out.symm⟩⟩ (fun e => absurd (show (1 : Int) = 5 from e) (by decide))
  clear FO HC
  go_wp2
  go_ret
  exact ⟨rfl, BB.out⟩
set_option maxHeartbeats 2000000 in
set_option maxRecDepth 100000 in
theorem smf2 (s n cn ci cs cm op id' code : Int) (v : Value) (l : List Nat) (w : World) (h : Rd w v l) (hc : mF ⟨2, s, n, cn, ci, cs, cm, op, id', l⟩ code) :
    Calls Try.prog 18 #[.agg #[.int .i64 2, .int .i64 s, .int .i64 n, .int .i64 cn, .int .i64 ci, .int .i64 cs, .int .i64 cm, .int .i64 op, .int .i64 id', v]] w fun e w' => e = .returned (.int .i64 code) ∧ Below w.heap.size w w' := by
  have HC := hid hc
  obtain ⟨a, c, rfl, -, -, -⟩ := h.parts
  clear h hc
  go_enter Try.func18, Try.ntmps18
  go_wp2_with fail
  have V := hid (heap_alloc_new w (.cells #[.int .i64 2, .int .i64 s, .int .i64 n, .int .i64 cn, .int .i64 ci, .int .i64 cs, .int .i64 cm, .int .i64 op, .int .i64 id', .slice a l.length c] 45))
  have BB := hid (below_alloc1 w (.cells #[.int .i64 2, .int .i64 s, .int .i64 n, .int .i64 cn, .int .i64 ci, .int .i64 cs, .int .i64 cm, .int .i64 op, .int .i64 id', .slice a l.length c] 45))
  generalize w.alloc (.cells #[.int .i64 2, .int .i64 s, .int .i64 n, .int .i64 cn, .int .i64 ci, .int .i64 cs, .int .i64 cm, .int .i64 op, .int .i64 id', .slice a l.length c] 45) = w0 at *
  obtain ⟨g, hg⟩ : ∃ g, g = w.heap.size := ⟨_, rfl⟩
  rw [← hg] at V ⊢
  clear hg
  refine (sfo2 _ _ _ _ _ _ _ _ _ _ _ _ _ V.out).mono ?_
  rintro e w1 ⟨t, rfl, ht, hB⟩
  replace BB := hid (BB.out.trans (hB.mono BB.out.size))
  replace V := hid (var_below hB V.out)
  have FO := hid ht
  clear hB ht
  cases t
  case false =>
    obtain rfl := mF_form HC.out (fun q => by have := FO.out.2 q; cases this)
    clear FO HC
    go_wp2
    go_ret
    exact ⟨rfl, BB.out⟩
  replace FO := hid (FO.out.1 rfl)
  obtain ⟨⟨f0, f1, f2, f3, f4, f5, f6, f7, f8, f9⟩, -⟩ := v10_facts V.out
  go_wp2_with fail
  refine (l1in _ _ _ _).mono ?_
  rintro e w2 ⟨rfl, rfl⟩
  obtain ⟨t, q1⟩ : ∃ t, t = inB s 0 1000000 := ⟨_, rfl⟩
  rw [← q1]
  replace q1 := hid q1
  cases t
  case false =>
    obtain rfl := mF_fit HC.out FO.out (fun q => by have := (q.2.2 (show (2 : Int) ≠ 4 by decide) (show (2 : Int) ≠ 5 by decide)).1; rw [← q1.out] at this; cases this)
    clear FO HC
    go_wp2
    go_ret
    exact ⟨rfl, BB.out⟩
  go_wp2_with fail
  refine (l1in _ _ _ _).mono ?_
  rintro e w2 ⟨rfl, rfl⟩
  obtain ⟨t, q2⟩ : ∃ t, t = inB n 0 3 := ⟨_, rfl⟩
  rw [← q2]
  replace q2 := hid q2
  cases t
  case false =>
    obtain rfl := mF_fit HC.out FO.out (fun q => by have := (q.2.2 (show (2 : Int) ≠ 4 by decide) (show (2 : Int) ≠ 5 by decide)).2; rw [← q2.out] at this; cases this)
    clear FO HC
    go_wp2
    go_ret
    exact ⟨rfl, BB.out⟩
  obtain rfl := mF_ok HC.out FO.out ⟨fun e => absurd (show (2 : Int) = 4 from e) (by decide), fun e => absurd (show (2 : Int) = 5 from e) (by decide), fun _ _ => ⟨q1.out.symm, q2.out.symm⟩⟩ (fun e => absurd (show (2 : Int) = 5 from e) (by decide))
  clear FO HC
  go_wp2
  go_ret
  exact ⟨rfl, BB.out⟩
set_option maxHeartbeats 2000000 in
set_option maxRecDepth 100000 in
theorem smf3 (s n cn ci cs cm op id' code : Int) (v : Value) (l : List Nat) (w : World) (h : Rd w v l) (hc : mF ⟨3, s, n, cn, ci, cs, cm, op, id', l⟩ code) :
    Calls Try.prog 18 #[.agg #[.int .i64 3, .int .i64 s, .int .i64 n, .int .i64 cn, .int .i64 ci, .int .i64 cs, .int .i64 cm, .int .i64 op, .int .i64 id', v]] w fun e w' => e = .returned (.int .i64 code) ∧ Below w.heap.size w w' := by
  have HC := hid hc
  obtain ⟨a, c, rfl, -, -, -⟩ := h.parts
  clear h hc
  go_enter Try.func18, Try.ntmps18
  go_wp2_with fail
  have V := hid (heap_alloc_new w (.cells #[.int .i64 3, .int .i64 s, .int .i64 n, .int .i64 cn, .int .i64 ci, .int .i64 cs, .int .i64 cm, .int .i64 op, .int .i64 id', .slice a l.length c] 45))
  have BB := hid (below_alloc1 w (.cells #[.int .i64 3, .int .i64 s, .int .i64 n, .int .i64 cn, .int .i64 ci, .int .i64 cs, .int .i64 cm, .int .i64 op, .int .i64 id', .slice a l.length c] 45))
  generalize w.alloc (.cells #[.int .i64 3, .int .i64 s, .int .i64 n, .int .i64 cn, .int .i64 ci, .int .i64 cs, .int .i64 cm, .int .i64 op, .int .i64 id', .slice a l.length c] 45) = w0 at *
  obtain ⟨g, hg⟩ : ∃ g, g = w.heap.size := ⟨_, rfl⟩
  rw [← hg] at V ⊢
  clear hg
  refine (sfo3 _ _ _ _ _ _ _ _ _ _ _ _ _ V.out).mono ?_
  rintro e w1 ⟨t, rfl, ht, hB⟩
  replace BB := hid (BB.out.trans (hB.mono BB.out.size))
  replace V := hid (var_below hB V.out)
  have FO := hid ht
  clear hB ht
  cases t
  case false =>
    obtain rfl := mF_form HC.out (fun q => by have := FO.out.2 q; cases this)
    clear FO HC
    go_wp2
    go_ret
    exact ⟨rfl, BB.out⟩
  replace FO := hid (FO.out.1 rfl)
  obtain ⟨⟨f0, f1, f2, f3, f4, f5, f6, f7, f8, f9⟩, -⟩ := v10_facts V.out
  go_wp2_with fail
  refine (l1in _ _ _ _).mono ?_
  rintro e w2 ⟨rfl, rfl⟩
  obtain ⟨t, q1⟩ : ∃ t, t = inB s 0 1000000 := ⟨_, rfl⟩
  rw [← q1]
  replace q1 := hid q1
  cases t
  case false =>
    obtain rfl := mF_fit HC.out FO.out (fun q => by have := (q.2.2 (show (3 : Int) ≠ 4 by decide) (show (3 : Int) ≠ 5 by decide)).1; rw [← q1.out] at this; cases this)
    clear FO HC
    go_wp2
    go_ret
    exact ⟨rfl, BB.out⟩
  go_wp2_with fail
  refine (l1in _ _ _ _).mono ?_
  rintro e w2 ⟨rfl, rfl⟩
  obtain ⟨t, q2⟩ : ∃ t, t = inB n 0 3 := ⟨_, rfl⟩
  rw [← q2]
  replace q2 := hid q2
  cases t
  case false =>
    obtain rfl := mF_fit HC.out FO.out (fun q => by have := (q.2.2 (show (3 : Int) ≠ 4 by decide) (show (3 : Int) ≠ 5 by decide)).2; rw [← q2.out] at this; cases this)
    clear FO HC
    go_wp2
    go_ret
    exact ⟨rfl, BB.out⟩
  obtain rfl := mF_ok HC.out FO.out ⟨fun e => absurd (show (3 : Int) = 4 from e) (by decide), fun e => absurd (show (3 : Int) = 5 from e) (by decide), fun _ _ => ⟨q1.out.symm, q2.out.symm⟩⟩ (fun e => absurd (show (3 : Int) = 5 from e) (by decide))
  clear FO HC
  go_wp2
  go_ret
  exact ⟨rfl, BB.out⟩
set_option maxHeartbeats 2000000 in
set_option maxRecDepth 100000 in
theorem smf4 (s n cn ci cs cm op id' code : Int) (v : Value) (l : List Nat) (w : World) (h : Rd w v l) (hc : mF ⟨4, s, n, cn, ci, cs, cm, op, id', l⟩ code) :
    Calls Try.prog 18 #[.agg #[.int .i64 4, .int .i64 s, .int .i64 n, .int .i64 cn, .int .i64 ci, .int .i64 cs, .int .i64 cm, .int .i64 op, .int .i64 id', v]] w fun e w' => e = .returned (.int .i64 code) ∧ Below w.heap.size w w' := by
  have HC := hid hc
  obtain ⟨a, c, rfl, -, -, -⟩ := h.parts
  clear h hc
  go_enter Try.func18, Try.ntmps18
  go_wp2_with fail
  have V := hid (heap_alloc_new w (.cells #[.int .i64 4, .int .i64 s, .int .i64 n, .int .i64 cn, .int .i64 ci, .int .i64 cs, .int .i64 cm, .int .i64 op, .int .i64 id', .slice a l.length c] 45))
  have BB := hid (below_alloc1 w (.cells #[.int .i64 4, .int .i64 s, .int .i64 n, .int .i64 cn, .int .i64 ci, .int .i64 cs, .int .i64 cm, .int .i64 op, .int .i64 id', .slice a l.length c] 45))
  generalize w.alloc (.cells #[.int .i64 4, .int .i64 s, .int .i64 n, .int .i64 cn, .int .i64 ci, .int .i64 cs, .int .i64 cm, .int .i64 op, .int .i64 id', .slice a l.length c] 45) = w0 at *
  obtain ⟨g, hg⟩ : ∃ g, g = w.heap.size := ⟨_, rfl⟩
  rw [← hg] at V ⊢
  clear hg
  refine (sfo4 _ _ _ _ _ _ _ _ _ _ _ _ _ V.out).mono ?_
  rintro e w1 ⟨t, rfl, ht, hB⟩
  replace BB := hid (BB.out.trans (hB.mono BB.out.size))
  replace V := hid (var_below hB V.out)
  have FO := hid ht
  clear hB ht
  cases t
  case false =>
    obtain rfl := mF_form HC.out (fun q => by have := FO.out.2 q; cases this)
    clear FO HC
    go_wp2
    go_ret
    exact ⟨rfl, BB.out⟩
  replace FO := hid (FO.out.1 rfl)
  obtain ⟨⟨f0, f1, f2, f3, f4, f5, f6, f7, f8, f9⟩, -⟩ := v10_facts V.out
  go_wp2_with fail
  refine (sclf _ _ _ _ _).mono ?_
  rintro e w2 ⟨rfl, hB⟩
  replace BB := hid (BB.out.trans (hB.mono BB.out.size))
  clear hB
  have E := hid (show clF cn ci cs cm = code from by
    by_cases q : inB cn 0 3 = true ∧ inB ci 0 1000000 = true ∧ inB cs 0 2 = true ∧ inB cm 0 9999999 = true
    · rw [clF, if_pos q]
      exact (mF_ok HC.out FO.out ⟨fun _ => q, fun e => absurd (show (4 : Int) = 5 from e) (by decide), fun e => absurd rfl e⟩ (fun e => absurd (show (4 : Int) = 5 from e) (by decide))).symm
    · rw [clF, if_neg q]
      exact (mF_fit HC.out FO.out (fun f => q (f.1 rfl))).symm)
  clear FO HC
  generalize clF cn ci cs cm = t at *
  go_wp2
  go_ret
  exact ⟨ret_cl E.out, BB.out⟩
set_option maxHeartbeats 2000000 in
set_option maxRecDepth 100000 in
theorem smf5 (s n cn ci cs cm op id' code : Int) (v : Value) (l : List Nat) (w : World) (h : Rd w v l) (hc : mF ⟨5, s, n, cn, ci, cs, cm, op, id', l⟩ code) :
    Calls Try.prog 18 #[.agg #[.int .i64 5, .int .i64 s, .int .i64 n, .int .i64 cn, .int .i64 ci, .int .i64 cs, .int .i64 cm, .int .i64 op, .int .i64 id', v]] w fun e w' => e = .returned (.int .i64 code) ∧ Below w.heap.size w w' := by
  have HC := hid hc
  obtain ⟨a, c, rfl, -, -, -⟩ := h.parts
  clear h hc
  go_enter Try.func18, Try.ntmps18
  go_wp2_with fail
  have V := hid (heap_alloc_new w (.cells #[.int .i64 5, .int .i64 s, .int .i64 n, .int .i64 cn, .int .i64 ci, .int .i64 cs, .int .i64 cm, .int .i64 op, .int .i64 id', .slice a l.length c] 45))
  have BB := hid (below_alloc1 w (.cells #[.int .i64 5, .int .i64 s, .int .i64 n, .int .i64 cn, .int .i64 ci, .int .i64 cs, .int .i64 cm, .int .i64 op, .int .i64 id', .slice a l.length c] 45))
  generalize w.alloc (.cells #[.int .i64 5, .int .i64 s, .int .i64 n, .int .i64 cn, .int .i64 ci, .int .i64 cs, .int .i64 cm, .int .i64 op, .int .i64 id', .slice a l.length c] 45) = w0 at *
  obtain ⟨g, hg⟩ : ∃ g, g = w.heap.size := ⟨_, rfl⟩
  rw [← hg] at V ⊢
  clear hg
  refine (sfo5 _ _ _ _ _ _ _ _ _ _ _ _ _ V.out).mono ?_
  rintro e w1 ⟨t, rfl, ht, hB⟩
  replace BB := hid (BB.out.trans (hB.mono BB.out.size))
  replace V := hid (var_below hB V.out)
  have FO := hid ht
  clear hB ht
  cases t
  case false =>
    obtain rfl := mF_form HC.out (fun q => by have := FO.out.2 q; cases this)
    clear FO HC
    go_wp2
    go_ret
    exact ⟨rfl, BB.out⟩
  replace FO := hid (FO.out.1 rfl)
  obtain ⟨⟨f0, f1, f2, f3, f4, f5, f6, f7, f8, f9⟩, -⟩ := v10_facts V.out
  go_wp2_with fail
  refine (l1in _ _ _ _).mono ?_
  rintro e w2 ⟨rfl, rfl⟩
  obtain ⟨t, q1⟩ : ∃ t, t = inB op 1 3 := ⟨_, rfl⟩
  rw [← q1]
  replace q1 := hid q1
  cases t
  case false =>
    obtain rfl := mF_fit HC.out FO.out (fun q => by have := (q.2.1 rfl).1; rw [← q1.out] at this; cases this)
    clear FO HC
    go_wp2
    go_ret
    exact ⟨rfl, BB.out⟩
  go_wp2_with fail
  refine (l1in _ _ _ _).mono ?_
  rintro e w2 ⟨rfl, rfl⟩
  obtain ⟨t, q2⟩ : ∃ t, t = inB id' 1 255 := ⟨_, rfl⟩
  rw [← q2]
  replace q2 := hid q2
  cases t
  case false =>
    obtain rfl := mF_fit HC.out FO.out (fun q => by have := (q.2.1 rfl).2; rw [← q2.out] at this; cases this)
    clear FO HC
    go_wp2
    go_ret
    exact ⟨rfl, BB.out⟩
  have FI := hid (show mFit ⟨5, s, n, cn, ci, cs, cm, op, id', l⟩ from ⟨fun e => absurd (show (5 : Int) = 4 from e) (by decide), fun _ => ⟨q1.out.symm, q2.out.symm⟩, fun _ e => absurd rfl e⟩)
  obtain ⟨nd, hnd⟩ : ∃ x : Int, Hid (x = if op = 1 then 16 else 0) := ⟨_, rfl⟩
  have FL := hid (len_iff (s := s) (n := n) (cn := cn) (ci := ci) (cs := cs) (cm := cm) (op := op) (id' := id') (l := l) hnd.out)
  obtain ⟨t, ht⟩ : ∃ t, t = ((l.length : Int) != nd) := ⟨_, rfl⟩
  rw [← ht] at FL
  replace ht := hid ht
  obtain ⟨⟨g0, g1, g2, g3, g4, g5, g6, g7, g8, g9⟩, -⟩ := v10_facts V.out
  have EC := hid (show code = if t = true then 2 else 0 from by
    cases t
    · exact mF_ok HC.out FO.out FI.out (FL.out.1 rfl)
    · exact mF_len HC.out FO.out FI.out (fun q => by have := FL.out.2 q; cases this))
  clear FO HC FI FL
  by_cases e1 : op = 1
  · subst e1
    obtain rfl : nd = 16 := by rw [hnd.out, if_pos rfl]
    cases t
    · have e2 : ((l.length : Int) != 16) = false := ht.out.symm
      obtain rfl : code = 0 := by rw [EC.out]; rfl
      clear EC
      go_wp2
      go_ret
      exact ⟨rfl, BB.out⟩
    · have e2 : ((l.length : Int) != 16) = true := ht.out.symm
      obtain rfl : code = 2 := by rw [EC.out]; rfl
      clear EC
      go_wp2
      go_ret
      exact ⟨rfl, BB.out⟩
  · have e3 : (op == 1) = false := beq_eq_false_iff_ne.2 e1
    obtain rfl : nd = 0 := by rw [hnd.out, if_neg e1]
    replace e1 := hid e1
    cases t
    · have e2 : ((l.length : Int) != 0) = false := ht.out.symm
      obtain rfl : code = 0 := by rw [EC.out]; rfl
      clear EC
      go_wp2
      go_ret
      exact ⟨rfl, BB.out⟩
    · have e2 : ((l.length : Int) != 0) = true := ht.out.symm
      obtain rfl : code = 2 := by rw [EC.out]; rfl
      clear EC
      go_wp2
      go_ret
      exact ⟨rfl, BB.out⟩
set_option maxHeartbeats 2000000 in
set_option maxRecDepth 100000 in
theorem smf0 (k s n cn ci cs cm op id' code : Int) (v : Value) (l : List Nat) (w : World) (h : Rd w v l) (h1 : k ≠ 1) (h2 : k ≠ 2) (h3 : k ≠ 3) (h4 : k ≠ 4) (h5 : k ≠ 5) (hc : mF ⟨k, s, n, cn, ci, cs, cm, op, id', l⟩ code) :
    Calls Try.prog 18 #[.agg #[.int .i64 k, .int .i64 s, .int .i64 n, .int .i64 cn, .int .i64 ci, .int .i64 cs, .int .i64 cm, .int .i64 op, .int .i64 id', v]] w fun e w' => e = .returned (.int .i64 code) ∧ Below w.heap.size w w' := by
  have HC := hid hc
  obtain ⟨a, c, rfl, -, -, -⟩ := h.parts
  clear h hc
  replace h1 := hid h1
  replace h2 := hid h2
  replace h3 := hid h3
  replace h4 := hid h4
  replace h5 := hid h5
  go_enter Try.func18, Try.ntmps18
  go_wp2_with fail
  have V := hid (heap_alloc_new w (.cells #[.int .i64 k, .int .i64 s, .int .i64 n, .int .i64 cn, .int .i64 ci, .int .i64 cs, .int .i64 cm, .int .i64 op, .int .i64 id', .slice a l.length c] 45))
  have BB := hid (below_alloc1 w (.cells #[.int .i64 k, .int .i64 s, .int .i64 n, .int .i64 cn, .int .i64 ci, .int .i64 cs, .int .i64 cm, .int .i64 op, .int .i64 id', .slice a l.length c] 45))
  generalize w.alloc (.cells #[.int .i64 k, .int .i64 s, .int .i64 n, .int .i64 cn, .int .i64 ci, .int .i64 cs, .int .i64 cm, .int .i64 op, .int .i64 id', .slice a l.length c] 45) = w0 at *
  obtain ⟨g, hg⟩ : ∃ g, g = w.heap.size := ⟨_, rfl⟩
  rw [← hg] at V ⊢
  clear hg
  refine (sfo0 _ _ _ _ _ _ _ _ _ _ _ _ V.out h1.out h2.out h3.out h4.out h5.out).mono ?_
  rintro e w1 ⟨rfl, hB⟩
  replace BB := hid (BB.out.trans (hB.mono BB.out.size))
  clear hB V
  obtain rfl := mF_form HC.out (form0 h1.out h2.out h3.out h4.out h5.out)
  clear HC
  go_wp2
  go_ret
  exact ⟨rfl, BB.out⟩
theorem smf (k s n cn ci cs cm op id' code : Int) (v : Value) (l : List Nat) (w : World) (h : Rd w v l) (hc : mF ⟨k, s, n, cn, ci, cs, cm, op, id', l⟩ code) :
    Calls Try.prog 18 #[.agg #[.int .i64 k, .int .i64 s, .int .i64 n, .int .i64 cn, .int .i64 ci, .int .i64 cs, .int .i64 cm, .int .i64 op, .int .i64 id', v]] w fun e w' => e = .returned (.int .i64 code) ∧ Below w.heap.size w w' := by
  by_cases h1 : k = 1
  case pos =>
    subst h1
    exact smf1 s n cn ci cs cm op id' code v l w h hc
  by_cases h2 : k = 2
  case pos =>
    subst h2
    exact smf2 s n cn ci cs cm op id' code v l w h hc
  by_cases h3 : k = 3
  case pos =>
    subst h3
    exact smf3 s n cn ci cs cm op id' code v l w h hc
  by_cases h4 : k = 4
  case pos =>
    subst h4
    exact smf4 s n cn ci cs cm op id' code v l w h hc
  by_cases h5 : k = 5
  case pos =>
    subst h5
    exact smf5 s n cn ci cs cm op id' code v l w h hc
  exact smf0 k s n cn ci cs cm op id' code v l w h h1 h2 h3 h4 h5 hc
end Go.Proofs.Ytifgcffifffdnam.W
