/-
  What a message becomes on the wire, whatever its kind; the program's MessageFault. Generated text.
-/
import Derived.Test.YtifgcffifffdnamWofW
namespace Go.Proofs.Ytifgcffifffdnam.W
open Go.ChangeShapes Go.WideShapes Go.ChangeAt Go.RowKit
open Go.Proofs.Ytifgcffifffdnam.M

/-- u is the message m on the wire. -/
def Wire (w : World) (u : Value) (m : Msg) (v : Value) : Prop := ∃ g,
  (m.k = 1 ∧ u = .iface 119 (.pointer (some ⟨g, 0, none⟩)) ∧ w.heap[g]? = some (.cells #[.int .i64 m.s, .int .i64 m.n] 121)) ∨
  (m.k = 2 ∧ u = .iface 122 (.pointer (some ⟨g, 0, none⟩)) ∧ w.heap[g]? = some (.cells #[.int .i64 m.s] 124)) ∨
  (m.k = 3 ∧ u = .iface 125 (.pointer (some ⟨g, 0, none⟩)) ∧ w.heap[g]? = some (.cells #[.int .i64 m.s, .int .i64 m.n] 126)) ∨
  (m.k = 4 ∧ u = .iface 127 (.pointer (some ⟨g, 0, none⟩)) ∧ w.heap[g]? = some (.cells #[.int .i64 m.cn, .int .i64 m.ci, .int .i64 m.cs, .int .i64 m.cm] 129)) ∨
  (m.k = 5 ∧ u = .iface 107 (.pointer (some ⟨g, 0, none⟩)) ∧ w.heap[g]? = some (.cells #[.int .i64 m.op, .int .i64 m.id, v] 110))
theorem Wire.below {w w' : World} {u v : Value} {m : Msg} (h : Wire w u m v) (hB : Below w.heap.size w w') : Wire w' u m v := by
  obtain ⟨g, h⟩ := h
  refine ⟨g, ?_⟩
  rcases h with ⟨h1, h2, h3⟩ | ⟨h1, h2, h3⟩ | ⟨h1, h2, h3⟩ | ⟨h1, h2, h3⟩ | ⟨h1, h2, h3⟩
  · exact .inl ⟨h1, h2, var_below hB h3⟩
  · exact .inr (.inl ⟨h1, h2, var_below hB h3⟩)
  · exact .inr (.inr (.inl ⟨h1, h2, var_below hB h3⟩))
  · exact .inr (.inr (.inr (.inl ⟨h1, h2, var_below hB h3⟩)))
  · exact .inr (.inr (.inr (.inr ⟨h1, h2, var_below hB h3⟩)))
set_option maxHeartbeats 2000000 in
set_option maxRecDepth 100000 in
theorem wof0 (k s n cn ci cs cm op id' : Int) (v : Value) (l : List Nat) (w : World) (h : Rd w v l) (h1 : k ≠ 1) (h2 : k ≠ 2) (h3 : k ≠ 3) (h4 : k ≠ 4) (h5 : k ≠ 5) :
    Calls Try.prog 53 #[.agg #[.int .i64 k, .int .i64 s, .int .i64 n, .int .i64 cn, .int .i64 ci, .int .i64 cs, .int .i64 cm, .int .i64 op, .int .i64 id', v]] w fun e w' => e = .returned (.tuple #[.nilIface, .int .i64 1]) ∧ Below w.heap.size w w' := by
  obtain ⟨a, c, rfl, -, -, -⟩ := h.parts
  clear h
  have h1 := hid h1
  have h2 := hid h2
  have h3 := hid h3
  have h4 := hid h4
  have h5 := hid h5
  go_enter Try.func53, Try.ntmps53
  go_wp2_with fail
  have BB := hid (below_alloc1 w (.cells #[.int .i64 k, .int .i64 s, .int .i64 n, .int .i64 cn, .int .i64 ci, .int .i64 cs, .int .i64 cm, .int .i64 op, .int .i64 id', .slice a l.length c] 45))
  generalize w.alloc (.cells #[.int .i64 k, .int .i64 s, .int .i64 n, .int .i64 cn, .int .i64 ci, .int .i64 cs, .int .i64 cm, .int .i64 op, .int .i64 id', .slice a l.length c] 45) = w0 at *
  refine (str0 _ _ _ _ _ _ _ _ _ _ _ _ _ h1.out h2.out h3.out h4.out h5.out).mono ?_
  rintro e w1 ⟨rfl, hB⟩
  replace BB := hid (BB.out.trans (hB.mono BB.out.size))
  clear hB
  go_wp2_with fail
  refine wp_region_held_drew (S := fun w' => Below w1.heap.size w1 w') (by kernel_rfl) (Below.refl _ _).drew (fun hH => ?_)
  generalize w1.drew = x at hH ⊢
  refine wpAnyH_take (i := 0) (v := .nilIface) (by simp only [List.getElem?_toArray, List.getElem?_cons_zero]; rfl) (by kernel_rfl) (by kernel_rfl) (by kernel_rfl) (by intro _ _ _ h; exact h) (Or.inl ⟨by rfl, fun w hS => by go_simp⟩) hH ?_
  simp only [Act.put, List.setIfInBounds_toArray, List.set_cons_zero, List.set_cons_succ]
  refine wpAnyH_take (i := 1) (v := .bool true) (by simp only [List.getElem?_toArray, List.getElem?_cons_succ, List.getElem?_cons_zero]; rfl) (by kernel_rfl) (by kernel_rfl) (by kernel_rfl) (by intro _ _ _ h; exact h) (Or.inl ⟨by rfl, fun w hS => by go_simp⟩) hH ?_
  simp only [Act.put, List.setIfInBounds_toArray, List.set_cons_zero, List.set_cons_succ]
  refine wpAnyH_take (i := 2) (v := .bool true) (by simp only [List.getElem?_toArray, List.getElem?_cons_succ, List.getElem?_cons_zero]; rfl) (by kernel_rfl) (by kernel_rfl) (by kernel_rfl) (by intro _ _ _ h; exact h) (Or.inl ⟨by rfl, fun w hS => by go_simp⟩) hH ?_
  simp only [Act.put, List.setIfInBounds_toArray, List.set_cons_zero, List.set_cons_succ]
  refine wpAnyH_take (i := 3) (v := undef) (by simp only [List.getElem?_toArray, List.getElem?_cons_succ, List.getElem?_cons_zero]; rfl) (by kernel_rfl) (by kernel_rfl) (by kernel_rfl) (by intro _ _ _ h; exact h) (Or.inr ⟨by rfl, rfl⟩) hH ?_
  simp only [Act.put, List.setIfInBounds_toArray, List.set_cons_zero, List.set_cons_succ]
  refine wpAnyH_take (i := 4) (v := undef) (by simp only [List.getElem?_toArray, List.getElem?_cons_succ, List.getElem?_cons_zero]; rfl) (by kernel_rfl) (by kernel_rfl) (by kernel_rfl) (by intro _ _ _ h; exact h) (Or.inr ⟨by rfl, rfl⟩) hH ?_
  simp only [Act.put, List.setIfInBounds_toArray, List.set_cons_zero, List.set_cons_succ]
  refine wpAnyH_take (i := 5) (v := undef) (by simp only [List.getElem?_toArray, List.getElem?_cons_succ, List.getElem?_cons_zero]; rfl) (by kernel_rfl) (by kernel_rfl) (by kernel_rfl) (by intro _ _ _ h; exact h) (Or.inr ⟨by rfl, rfl⟩) hH ?_
  simp only [Act.put, List.setIfInBounds_toArray, List.set_cons_zero, List.set_cons_succ]
  refine wpAnyH_take (i := 6) (v := undef) (by simp only [List.getElem?_toArray, List.getElem?_cons_succ, List.getElem?_cons_zero]; rfl) (by kernel_rfl) (by kernel_rfl) (by kernel_rfl) (by intro _ _ _ h; exact h) (Or.inr ⟨by rfl, rfl⟩) hH ?_
  simp only [Act.put, List.setIfInBounds_toArray, List.set_cons_zero, List.set_cons_succ]
  refine wpAnyH_take (i := 7) (v := undef) (by simp only [List.getElem?_toArray, List.getElem?_cons_succ, List.getElem?_cons_zero]; rfl) (by kernel_rfl) (by kernel_rfl) (by kernel_rfl) (by intro _ _ _ h; exact h) (Or.inr ⟨by rfl, rfl⟩) hH ?_
  simp only [Act.put, List.setIfInBounds_toArray, List.set_cons_zero, List.set_cons_succ]
  refine wpAnyH_take (i := 8) (v := .bool true) (by simp only [List.getElem?_toArray, List.getElem?_cons_succ, List.getElem?_cons_zero]; rfl) (by kernel_rfl) (by kernel_rfl) (by kernel_rfl) (by intro _ _ _ h; exact h) (Or.inl ⟨by rfl, fun w hS => by go_simp⟩) hH ?_
  simp only [Act.put, List.setIfInBounds_toArray, List.set_cons_zero, List.set_cons_succ]
  refine wpAnyH_done (by kernel_rfl) ?_ _
  replace BB := hid (BB.out.trans (hH.mono BB.out.size))
  clear hH
  go_wp2
  try simp only [Exit.inBlock, Exit.then]
  refine bodyPost_ret (two_res rfl _ _ _) rfl ?_
  exact ⟨rfl, BB.out⟩
theorem form0 {m : Msg} (h1 : m.k ≠ 1) (h2 : m.k ≠ 2) (h3 : m.k ≠ 3) (h4 : m.k ≠ 4) (h5 : m.k ≠ 5) : ¬ mForm m := by
  rintro (⟨q | q, -⟩ | ⟨q, -⟩ | ⟨q, -⟩ | ⟨q, -⟩)
  · exact h1 q
  · exact h3 q
  · exact h2 q
  · exact h4 q
  · exact h5 q
theorem wof (k s n cn ci cs cm op id' code : Int) (v : Value) (l : List Nat) (w : World) (h : Rd w v l) (hc : mF ⟨k, s, n, cn, ci, cs, cm, op, id', l⟩ code) :
    Calls Try.prog 53 #[.agg #[.int .i64 k, .int .i64 s, .int .i64 n, .int .i64 cn, .int .i64 ci, .int .i64 cs, .int .i64 cm, .int .i64 op, .int .i64 id', v]] w fun e w' => ∃ u, e = .returned (.tuple #[u, .int .i64 code]) ∧ (code = 0 → Wire w' u ⟨k, s, n, cn, ci, cs, cm, op, id', l⟩ v) ∧ Below w.heap.size w w' := by
  by_cases h1 : k = 1
  case pos =>
    subst h1
    exact (wof1 s n cn ci cs cm op id' code v l w h hc).mono fun e w' ⟨u, q1, q2, q5⟩ => ⟨u, q1, fun q => by obtain ⟨g, q3, q4⟩ := q2 q; exact ⟨g, .inl ⟨rfl, q3, q4⟩⟩, q5⟩
  by_cases h2 : k = 2
  case pos =>
    subst h2
    exact (wof2 s n cn ci cs cm op id' code v l w h hc).mono fun e w' ⟨u, q1, q2, q5⟩ => ⟨u, q1, fun q => by obtain ⟨g, q3, q4⟩ := q2 q; exact ⟨g, .inr (.inl ⟨rfl, q3, q4⟩)⟩, q5⟩
  by_cases h3 : k = 3
  case pos =>
    subst h3
    exact (wof3 s n cn ci cs cm op id' code v l w h hc).mono fun e w' ⟨u, q1, q2, q5⟩ => ⟨u, q1, fun q => by obtain ⟨g, q3, q4⟩ := q2 q; exact ⟨g, .inr (.inr (.inl ⟨rfl, q3, q4⟩))⟩, q5⟩
  by_cases h4 : k = 4
  case pos =>
    subst h4
    exact (wof4 s n cn ci cs cm op id' code v l w h hc).mono fun e w' ⟨u, q1, q2, q5⟩ => ⟨u, q1, fun q => by obtain ⟨g, q3, q4⟩ := q2 q; exact ⟨g, .inr (.inr (.inr (.inl ⟨rfl, q3, q4⟩)))⟩, q5⟩
  by_cases h5 : k = 5
  case pos =>
    subst h5
    exact (wof5 s n cn ci cs cm op id' code v l w h hc).mono fun e w' ⟨u, q1, q2, q5⟩ => ⟨u, q1, fun q => by obtain ⟨g, q3, q4⟩ := q2 q; exact ⟨g, .inr (.inr (.inr (.inr ⟨rfl, q3, q4⟩)))⟩, q5⟩
  obtain rfl := mF_form hc (form0 h1 h2 h3 h4 h5)
  exact (wof0 k s n cn ci cs cm op id' v l w h h1 h2 h3 h4 h5).mono fun e w' ⟨q1, q2⟩ => ⟨_, q1, fun q => absurd q (by decide), q2⟩
set_option maxHeartbeats 2000000 in
set_option maxRecDepth 100000 in
theorem imf (k s n cn ci cs cm op id' code : Int) (v : Value) (l : List Nat) (w : World) (h : Rd w v l) (hc : mF ⟨k, s, n, cn, ci, cs, cm, op, id', l⟩ code) :
    Calls Try.prog 20 #[.agg #[.int .i64 k, .int .i64 s, .int .i64 n, .int .i64 cn, .int .i64 ci, .int .i64 cs, .int .i64 cm, .int .i64 op, .int .i64 id', v]] w fun e w' => e = .returned (.int .i64 code) ∧ Below w.heap.size w w' := by
  have H := hid h
  have HC := hid hc
  obtain ⟨a, c, rfl, -, -, -⟩ := h.parts
  clear h hc
  go_enter Try.func20, Try.ntmps20
  go_wp2_with fail
  have BB := hid (below_alloc1 w (.cells #[.int .i64 k, .int .i64 s, .int .i64 n, .int .i64 cn, .int .i64 ci, .int .i64 cs, .int .i64 cm, .int .i64 op, .int .i64 id', .slice a l.length c] 45))
  replace H := hid (H.out.below BB.out)
  generalize w.alloc (.cells #[.int .i64 k, .int .i64 s, .int .i64 n, .int .i64 cn, .int .i64 ci, .int .i64 cs, .int .i64 cm, .int .i64 op, .int .i64 id', .slice a l.length c] 45) = w0 at *
  refine (wof k s n cn ci cs cm op id' code _ l _ H.out HC.out).mono ?_
  rintro e w1 ⟨u, rfl, -, hB⟩
  replace BB := hid (BB.out.trans (hB.mono BB.out.size))
  clear hB
  go_wp2
  go_ret
  exact ⟨rfl, BB.out⟩
end Go.Proofs.Ytifgcffifffdnam.W
