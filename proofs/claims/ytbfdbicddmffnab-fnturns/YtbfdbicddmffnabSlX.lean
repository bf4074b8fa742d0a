/-
  Slices of bytes that are a call's own, whatever the block bears as its type.
-/
import Derived.Test.YtbfdbicddmffnabArr
namespace Go.Proofs.Ytbfdbicddmffnab.M
open Go.RowKit

/-- The slice v is the call's own, from block 'base' on, and reads l. -/
def Owx (w : World) (base : Nat) (v : Value) (l : List Nat) : Prop := ∃ T : TypeId, w.ownsRow base T 1 v l.length (l.map bv)
theorem Own.x {w : World} {base : Nat} {v : Value} {l : List Nat} (h : Own w base v l) : Owx w base v l := ⟨_, h⟩
theorem Owx.rd {w : World} {base : Nat} {v : Value} {l : List Nat} (h : Owx w base v l) : Rd w v l := by
  obtain ⟨T, h⟩ := h
  rcases h.2 with ⟨rfl, h0⟩ | ⟨g, cap, cur, rfl, hb, hg, hn, hm, hs, ht⟩
  · obtain rfl := List.eq_nil_of_length_eq_zero h0
    exact Rd.nil w
  · refine ⟨_, cap, rfl, hn, hm, fun i hi => ⟨g, 0, rfl, ?_⟩⟩
    have hc := World.ownsRow.cellAt (show w.ownsRow base T 1 (.slice (some ⟨g, 0, none⟩) l.length cap) l.length (l.map bv) from h) i (by omega)
    rw [Nat.zero_add, hc, List.getElem?_map, List.getElem?_eq_getElem hi]
    rfl
theorem Owx.below {w w' : World} {base : Nat} {v : Value} {l : List Nat} (h : Owx w base v l) (hb : Below w.heap.size w w') : Owx w' base v l := by
  obtain ⟨T, h⟩ := h
  refine ⟨T, h.1, ?_⟩
  rcases h.2 with hn | ⟨g, cap, cur, rfl, hbb, hgg, rest⟩
  · exact .inl hn
  · exact .inr ⟨g, cap, cur, rfl, hbb, by rw [hb.block g (Array.getElem?_eq_some_iff.1 hgg).1]; exact hgg, rest⟩
theorem Owx.mono {w : World} {base base' : Nat} {v : Value} {l : List Nat} (h : Owx w base v l) (hb : base' ≤ base) : Owx w base' v l := by
  obtain ⟨T, h⟩ := h
  refine ⟨T, h.1, ?_⟩
  rcases h.2 with hn | ⟨g, cap, cur, rfl, hbb, rest⟩
  · exact .inl hn
  · exact .inr ⟨g, cap, cur, rfl, by omega, rest⟩
theorem Owx.nil (w : World) (base : Nat) : Owx w base (.slice none 0 0) [] := (Own.nil w base).x
theorem Owx.kept {w w' : World} {base : Nat} {v : Value} {l : List Nat} {row : Option Nat} (h : Owx w base v l) (hg : w.grownBy w' row) (hne : v.ownBlock = none ∨ v.ownBlock ≠ row) : Owx w' base v l := by
  obtain ⟨T, h⟩ := h
  exact ⟨T, World.ownsRow.kept h hg hne⟩
theorem Owx.stored {w : World} {base g cap n : Nat} {l : List Nat} (hn : l.length = n) (h : Owx w base (.slice (some ⟨g, 0, none⟩) n cap) l) (k x : Nat) :
    Owx (w.setCell ⟨g, k, none⟩ (bv x)) base (.slice (some ⟨g, 0, none⟩) n cap) (l.set k x) ∧ w.grownBy (w.setCell ⟨g, k, none⟩ (bv x)) (some g) := by
  subst hn
  obtain ⟨T, h⟩ := h
  have h' := World.ownsRow.stored (show w.ownsRow base T 1 (.slice (some ⟨g, 0, none⟩) l.length cap) l.length (l.map bv) from h) k (bv x)
  rw [map_set] at h'
  refine ⟨⟨T, ?_⟩, h'.2⟩
  rw [List.length_set]
  exact h'.1
theorem Owx.cell {w : World} {base g cap n : Nat} {l : List Nat} (hn : l.length = n) (h : Owx w base (.slice (some ⟨g, 0, none⟩) n cap) l) (k : Nat) (hk : k < l.length) :
    w.cell? ⟨g, k, none⟩ = some (bv l[k]) := by
  subst hn
  obtain ⟨T, h⟩ := h
  have hc := World.ownsRow.cellAt (show w.ownsRow base T 1 (.slice (some ⟨g, 0, none⟩) l.length cap) l.length (l.map bv) from h) k (by omega)
  rw [hc, List.getElem?_map, List.getElem?_eq_getElem hk]
  rfl
theorem Owx.open {w : World} {base g cap n : Nat} {l : List Nat} (hn : l.length = n) (h : Owx w base (.slice (some ⟨g, 0, none⟩) n cap) l) (k : Nat) :
    w.frozen? ⟨g, k, none⟩ = false := by
  subst hn
  obtain ⟨T, h⟩ := h
  exact World.ownsRow.frozenAt (show w.ownsRow base T 1 (.slice (some ⟨g, 0, none⟩) l.length cap) l.length (l.map bv) from h) k
theorem Owx.set2 {w' : World} {base g : Nat} {v x y : Value} {l : List Nat} (h : Owx w' base v l) (hg : g < base) : Owx ((w'.setCell ⟨g, 0, none⟩ x).setCell ⟨g, 1, none⟩ y) base v l := by
  obtain ⟨T, h⟩ := h
  exact ⟨T, ownsRow_setCell_below (ownsRow_setCell_below h (a := ⟨g, 0, none⟩) hg x) (a := ⟨g, 1, none⟩) hg y⟩
theorem Owx.lt {w : World} {base : Nat} {v : Value} {l : List Nat} (h : Owx w base v l) (g : Nat) (e : v.ownBlock = some g) : base ≤ g ∧ g < w.heap.size := by
  obtain ⟨T, h⟩ := h
  exact World.ownsRow.lt h g e
theorem Owx.ne {w : World} {base : Nat} {v : Value} {l : List Nat} (h : Owx w base v l) {g : Nat} (hg : g < base) : some g ≠ v.ownBlock := by
  intro e
  have := h.lt g e.symm
  omega
theorem Owx.apart {w w' : World} {base base' : Nat} {v v' : Value} {l l' : List Nat} (h : Owx w base v l) (h' : Owx w' base' v' l') (hb : w.heap.size ≤ base') : v.ownBlock = none ∨ v.ownBlock ≠ v'.ownBlock := by
  cases e : v.ownBlock with
  | none => exact .inl rfl
  | some g => exact .inr (h'.ne (by have := h.lt g e; omega))
theorem Owx.apart2 {w w' : World} {base base' : Nat} {v v' : Value} {l l' : List Nat} (h : Owx w base v l) (h' : Owx w' base' v' l') (hb : w.heap.size ≤ base') : v'.ownBlock = none ∨ v'.ownBlock ≠ v.ownBlock := by
  cases e : v'.ownBlock with
  | none => exact .inl rfl
  | some g =>
    refine .inr fun e2 => ?_
    have h1 := h'.lt g e
    have h2 := h.lt g e2.symm
    omega
theorem Owx.ne_new {w : World} {base : Nat} {v : Value} {l : List Nat} (h : Owx w base v l) {b : Nat} (hb : w.heap.size ≤ b) : some b ≠ v.ownBlock := by
  intro e
  have := h.lt b e.symm
  omega
theorem Owx.row {w : World} {base B : Nat} {v : Value} {l : List Nat} (h : Owx w base v l) (hB : B ≤ base) : ∀ k, v.ownBlock = some k → B ≤ k := by
  intro k hk
  have := h.lt k hk
  omega
/-- An array, taken as a slice. -/
theorem Owx.ofAr {w : World} {g base n : Nat} {T : TypeId} {l : List Nat} (h : Ar w g T l) (hl : l.length = n) (hb : base ≤ g) (hm : n ≤ maxLen) : Owx w base (.slice (some ⟨g, 0, none⟩) n n) l := by
  refine ⟨T, by simp, .inr ⟨g, n, _, by rw [hl], hb, h, by omega, hm, by rw [arr_size, hl]; omega, ?_⟩⟩
  rw [List.take_of_length_le (by rw [Array.length_toList, arr_size]; omega)]
  rfl
/-- A row that is full is known whole. -/
theorem Own.ar {w : World} {base g n : Nat} {l : List Nat} (h : Own w base (.slice (some ⟨g, 0, none⟩) n n) l) (hn : l.length = n) : Ar w g 5 l := by
  rcases h.2 with ⟨e, _⟩ | ⟨g', cap, cur, e, _, hg, _, _, hs, ht⟩
  · cases e
  · simp only [Value.slice.injEq, Option.some.injEq, Addr.mk.injEq, and_true] at e
    obtain ⟨rfl, _, rfl⟩ := e
    have hc : cur.toList = l.map bv := by
      rw [← ht, List.take_of_length_le (by rw [Array.length_toList, hs, hn]; omega)]
    unfold Ar arr
    rw [hg, ← hc]
theorem Own.ofAr {w : World} {base g n : Nat} {l : List Nat} (h : Ar w g 5 l) (hn : l.length = n) (hb : base ≤ g) (hm : n ≤ maxLen) : Own w base (.slice (some ⟨g, 0, none⟩) n n) l := by
  refine ⟨by simp, .inr ⟨g, n, _, by rw [hn], hb, h, by omega, hm, by rw [arr_size, hn]; omega, ?_⟩⟩
  rw [List.take_of_length_le (by rw [Array.length_toList, arr_size]; omega)]
  rfl
/-- The cells of a slice that reads something. -/
theorem Rd.cells {w : World} {b o n cap : Nat} {l : List Nat} (h : Rd w (.slice (some ⟨b, o, none⟩) n cap) l) (i : Nat) (hi : i < l.length) : w.cell? ⟨b, o + i, none⟩ = some (.int .u8 (gt l i : Nat)) := by
  obtain ⟨a, c, e, _, _, hcc⟩ := h
  obtain ⟨b', o', e', hc⟩ := hcc i hi
  subst e'
  cases e
  rw [gt_eq l i hi]
  exact hc
theorem Rd.spot {w : World} {v : Value} {l : List Nat} (h : Rd w v l) (hl : 0 < l.length) : ∃ b o cap, v = .slice (some ⟨b, o, none⟩) l.length cap ∧ l.length ≤ cap ∧ b < w.heap.size := by
  obtain ⟨a, c, rfl, h1, _, hcc⟩ := h
  obtain ⟨b, o, rfl, hc⟩ := hcc 0 hl
  exact ⟨b, o, c, rfl, h1, World.block_lt_of_cell? w _ hc⟩
theorem meas (n k : Nat) (h : k < n) : n - (intOf (.int .i64 ((k : Int) + 1))).toNat < n - (intOf (.int .i64 (k : Int))).toNat := by simp [intOf]; omega
theorem num_succ (k : Nat) : Value.int .i64 ((k : Int) + 1) = .int .i64 ((k + 1 : Nat) : Int) := rfl
end Go.Proofs.Ytbfdbicddmffnab.M
