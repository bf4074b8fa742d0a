/-
  Keys and bytes that are read whatever lies elsewhere.
-/
import Derived.Test.YtbfdbicddmffnabDrawRg
import Derived.Test.YtbfdbicddmffnabSome
import Derived.Laws.AppendOwn
namespace Go.Proofs.Ytbfdbicddmffnab.M
open Go.ChangeShapes Go.WideShapes Go.ChangeAt Go.RowKit
open Go.Proofs.Ytbfdbicddmffnab.W

/-- What is read out of the blocks from lo to hi, but X. -/
def FK (w : World) (lo hi X : Nat) (v : Value) (ks : List (Int × List Nat)) : Prop := ∀ w' : World, (∀ b, lo ≤ b → b < hi → b ≠ X → w'.heap[b]? = w.heap[b]?) → RdK w' v ks
def FB (w : World) (lo hi : Nat) (v : Value) (l : List Nat) : Prop := ∀ w' : World, (∀ b, lo ≤ b → b < hi → w'.heap[b]? = w.heap[b]?) → Rd w' v l
theorem FK.rd {w : World} {lo hi X : Nat} {v : Value} {ks : List (Int × List Nat)} (h : FK w lo hi X v ks) : RdK w v ks := h w fun _ _ _ _ => rfl
theorem FB.rd {w : World} {lo hi : Nat} {v : Value} {l : List Nat} (h : FB w lo hi v l) : Rd w v l := h w fun _ _ _ => rfl
theorem FK.go {w w' : World} {lo hi X : Nat} {v : Value} {ks : List (Int × List Nat)} (h : FK w lo hi X v ks) (k : ∀ b, lo ≤ b → b < hi → b ≠ X → w'.heap[b]? = w.heap[b]?) : FK w' lo hi X v ks := fun w2 h2 => h w2 fun b b1 b2 b3 => (h2 b b1 b2 b3).trans (k b b1 b2 b3)
theorem FB.go {w w' : World} {lo hi : Nat} {v : Value} {l : List Nat} (h : FB w lo hi v l) (k : ∀ b, lo ≤ b → b < hi → w'.heap[b]? = w.heap[b]?) : FB w' lo hi v l := fun w2 h2 => h w2 fun b b1 b2 => (h2 b b1 b2).trans (k b b1 b2)
theorem FK.below {w w' : World} {lo hi X : Nat} {v : Value} {ks : List (Int × List Nat)} (h : FK w lo hi X v ks) (hB : Below w.heap.size w w') (hs : hi ≤ w.heap.size) : FK w' lo hi X v ks := h.go fun b _ h2 _ => hB.block b (by omega)
theorem FB.below {w w' : World} {lo hi : Nat} {v : Value} {l : List Nat} (h : FB w lo hi v l) (hB : Below w.heap.size w w') (hs : hi ≤ w.heap.size) : FB w' lo hi v l := h.go fun b _ h2 => hB.block b (by omega)
theorem FK.grownG {w w' : World} {lo hi X g : Nat} {v : Value} {ks : List (Int × List Nat)} (h : FK w lo hi X v ks) (hG : w.grownBy w' (some g)) (hg : g < lo) (hs : hi ≤ w.heap.size) : FK w' lo hi X v ks := h.go fun b h1 h2 _ => hG.block b (by omega) (fun e => by have := Option.some.inj e; omega)
theorem FB.grownG {w w' : World} {lo hi g : Nat} {v : Value} {l : List Nat} (h : FB w lo hi v l) (hG : w.grownBy w' (some g)) (hg : g < lo) (hs : hi ≤ w.heap.size) : FB w' lo hi v l := h.go fun b h1 h2 => hG.block b (by omega) (fun e => by have := Option.some.inj e; omega)
theorem FK.set {w : World} {lo hi X g i : Nat} {v x : Value} {ks : List (Int × List Nat)} (h : FK w lo hi X v ks) (hg : g < lo ∨ hi ≤ g ∨ g = X) : FK (w.setCell ⟨g, i, none⟩ x) lo hi X v ks := h.go fun b h1 h2 h3 => Below.heap_setCell _ _ _ _ (by show b ≠ g; omega)
theorem FB.set {w : World} {lo hi g i : Nat} {v x : Value} {l : List Nat} (h : FB w lo hi v l) (hg : g < lo ∨ hi ≤ g) : FB (w.setCell ⟨g, i, none⟩ x) lo hi v l := h.go fun b h1 h2 => Below.heap_setCell _ _ _ _ (by show b ≠ g; omega)
theorem FK.nil (w : World) (lo hi X : Nat) : FK w lo hi X (.slice none 0 0) [] := fun _ _ => RdK.nil _
theorem FB.nil (w : World) (lo hi : Nat) : FB w lo hi (.slice none 0 0) [] := fun _ _ => Rd.nil _
theorem FK.mono {w : World} {lo hi lo' hi' X : Nat} {v : Value} {ks : List (Int × List Nat)} (h : FK w lo hi X v ks) (h1 : lo' ≤ lo) (h2 : hi ≤ hi') : FK w lo' hi' X v ks := fun w' k => h w' fun b b1 b2 b3 => k b (by omega) (by omega) b3
theorem FB.mono {w : World} {lo hi lo' hi' : Nat} {v : Value} {l : List Nat} (h : FB w lo hi v l) (h1 : lo' ≤ lo) (h2 : hi ≤ hi') : FB w lo' hi' v l := fun w' k => h w' fun b b1 b2 => k b (by omega) (by omega)
theorem owx_same {w w' : World} {lo : Nat} {u : Value} {l : List Nat} (h : Owx w lo u l) (k : ∀ b, u.ownBlock = some b → w'.heap[b]? = w.heap[b]?) : Owx w' lo u l := by
  obtain ⟨T, h⟩ := h
  refine ⟨T, h.1, ?_⟩
  rcases h.2 with e | ⟨g, cap, cur, rfl, hb, hg, rest⟩
  · exact .inl e
  · exact .inr ⟨g, cap, cur, rfl, hb, (k g rfl).trans hg, rest⟩
theorem fb_own {w : World} {lo : Nat} {u : Value} {l : List Nat} (h : Owx w lo u l) : FB w lo w.heap.size u l := fun _ k => (owx_same h fun b e => k b (h.lt b e).1 (h.lt b e).2).rd
theorem fk_row {w : World} {lo X : Nat} {T : TypeId} {v : Value} {L : List Value} {ks : List (Int × List Nat)} (h1 : w.ownsRow lo T 2 v ks.length L) (hX : ∀ b, v.ownBlock = some b → b ≠ X)
    (h3 : ∀ i (h : i < ks.length), ∃ u, L[i * 2]? = some (.int .i64 ks[i].1) ∧ L[i * 2 + 1]? = some u ∧ Owx w lo u ks[i].2 ∧ ∀ b, u.ownBlock = some b → b ≠ X) : FK w lo w.heap.size X v ks := fun w' k => by
  have h1' : w'.ownsRow lo T 2 v ks.length L := by
    refine ⟨h1.1, ?_⟩
    rcases h1.2 with e | ⟨g, cap, cur, rfl, hb, hg, rest⟩
    · exact .inl e
    · exact .inr ⟨g, cap, cur, rfl, hb, (k g hb (World.ownsRow.lt h1 g rfl).2 (hX g rfl)).trans hg, rest⟩
  rcases h1'.2 with ⟨rfl, h0⟩ | ⟨g, cap, cur, rfl, hb, hg, hn, hm, hs, ht⟩
  · obtain rfl := List.eq_nil_of_length_eq_zero h0
    exact RdK.nil _
  · refine ⟨some ⟨g, 0, none⟩, cap, rfl, hn, hm, fun i hi => ?_⟩
    obtain ⟨u, l1, l2, l3, l4⟩ := h3 i hi
    have hu : Owx w' lo u ks[i].2 := owx_same l3 fun b e => k b (l3.lt b e).1 (l3.lt b e).2 (l4 b e)
    refine ⟨g, 0, u, rfl, ?_, ?_, hu.rd⟩
    · rw [Nat.zero_add, World.ownsRow.cellAt h1' (i * 2) (by omega)]; exact l1
    · rw [Nat.zero_add, World.ownsRow.cellAt h1' (i * 2 + 1) (by omega)]; exact l2
theorem fk_oks {w : World} {lo m X : Nat} {v : Value} {ks : List (Int × List Nat)} (h : OKs w lo m v ks) (hX : m ≤ X) : FK w lo w.heap.size X v ks := by
  obtain ⟨L, h1, h2, h3, -⟩ := h
  exact fk_row h1 (fun b e => by have := h2 b e; omega) fun i hi => by
    obtain ⟨u, a, b, c, -⟩ := h3 i hi
    exact ⟨u, a, b, c.1, fun b e => by have := c.2 b e; omega⟩
/-- The first key's bytes are others. -/
theorem fk_setB {w : World} {lo m X g cap n : Nat} {u : Value} {l : List Nat} {ks : List (Int × List Nat)} (hn : ks.length = n) (h : OKs w lo m (.slice (some ⟨g, 0, none⟩) n cap) ks) (h0 : 0 < ks.length) (hX : m ≤ X) (hu : Owx w m u l) (hX2 : ∀ b, u.ownBlock = some b → b ≠ X) :
    FK (w.setCell ⟨g, 1, none⟩ u) lo (w.setCell ⟨g, 1, none⟩ u).heap.size X (.slice (some ⟨g, 0, none⟩) n cap) (ks.set 0 (ks[0].1, l)) ∧ w.frozen? ⟨g, 1, none⟩ = false ∧ ∃ x, w.cell? ⟨g, 1, none⟩ = some x := by
  subst hn
  obtain ⟨L, h1, h2, h3, h4⟩ := h
  have hg := World.ownsRow.lt h1 g rfl
  have hgm := h2 g rfl
  have s1 := World.ownsRow.stored h1 1 u
  obtain ⟨u0, a0, b0, -, -⟩ := h3 0 h0
  have hL : 1 < L.length := by
    rcases Nat.lt_or_ge 1 L.length with q | q
    · exact q
    · rw [List.getElem?_eq_none (by omega)] at b0; cases b0
  refine ⟨?_, World.ownsRow.frozenAt h1 _, u0, by rw [World.ownsRow.cellAt h1 1 (by omega)]; simpa using b0⟩
  have hlo : lo ≤ m := by omega
  have r1 := s1.1
  have hl : (ks.set 0 (ks[0].1, l)).length = ks.length := by simp
  refine fk_row (L := L.set 1 u) (by rw [hl]; exact r1) (fun b e => by have := h2 b e; omega) fun i hi => ?_
  rw [hl] at hi
  by_cases q : i = 0
  · subst q
    refine ⟨u, ?_, ?_, ?_, fun b e => hX2 b e⟩
    · rw [List.getElem?_set_ne (by omega)]; simpa using a0
    · simp [hL]
    · have e : (ks.set 0 (ks[0].1, l))[0].2 = l := by simp
      rw [e]
      obtain ⟨T, hT⟩ := owx_same (w' := w.setCell ⟨g, 1, none⟩ u) hu fun b e => Below.heap_setCell _ _ _ _ (by show b ≠ g; have := (hu.lt b e).1; omega)
      refine ⟨T, hT.1, ?_⟩
      rcases hT.2 with e | ⟨g', c', cur, e1, e2, rest⟩
      · exact .inl e
      · exact .inr ⟨g', c', cur, e1, by omega, rest⟩
  · obtain ⟨ui, a, b, c, d⟩ := h3 i hi
    refine ⟨ui, ?_, ?_, ?_, fun b e => by have := c.2 b e; omega⟩
    · rw [List.getElem?_set_ne (by omega)]; simpa [List.getElem_set, q, Ne.symm q] using a
    · rw [List.getElem?_set_ne (by omega)]; exact b
    · have e : (ks.set 0 (ks[0].1, l))[i].2 = (ks[i]).2 := by simp [Ne.symm q]
      rw [e]
      exact owx_same c.1 fun b e => Below.heap_setCell _ _ _ _ (by show b ≠ g; intro z; subst z; exact d b e rfl)
end Go.Proofs.Ytbfdbicddmffnab.M
