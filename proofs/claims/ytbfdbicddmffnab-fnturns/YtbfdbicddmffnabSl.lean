/-
  Slices of bytes in memory: what a slice reads, what a call owns. No function of the program is named here (a type's number alone).
-/
import Derived.WalkKit
import Derived.ProofKit
import Derived.Below
import Derived.OpenShut
import Derived.WalkSmall
import Derived.Deep.QuietTactic
import Derived.BigQuiet
namespace Go.Proofs.Ytbfdbicddmffnab.M
open Go.RowKit

theorem hid {p : Prop} (h : p) : Hid p := h
/-- A byte as a value. -/
def bv (n : Nat) : Value := .int .u8 (n : Int)
/-- The slice v reads the bytes l. -/
def Rd (w : World) (v : Value) (l : List Nat) : Prop :=
  ∃ (a : Option Addr) (cap : Nat), v = .slice a l.length cap ∧ l.length ≤ cap ∧ cap ≤ maxLen ∧ ∀ i (hi : i < l.length), ∃ b o, a = some ⟨b, o, none⟩ ∧ w.cell? ⟨b, o + i, none⟩ = some (bv l[i])
theorem Rd.parts {w : World} {v : Value} {l : List Nat} (h : Rd w v l) :
    ∃ (a : Option Addr) (cap : Nat), v = .slice a l.length cap ∧ l.length ≤ cap ∧ cap ≤ maxLen ∧ ∀ i (hi : i < l.length), ∃ b o, a = some ⟨b, o, none⟩ ∧ w.cell? ⟨b, o + i, none⟩ = some (bv l[i]) := h
/-- All are bytes. -/
def Byt (l : List Nat) : Prop := ∀ x ∈ l, x < 256
theorem Byt.at {l : List Nat} (h : Byt l) (i : Nat) (hi : i < l.length) : l[i] < 256 := h _ (List.getElem_mem hi)
/-- The slice v is the call's own, from block 'base' on, and reads l. -/
def Own (w : World) (base : Nat) (v : Value) (l : List Nat) : Prop := w.ownsRow base 5 1 v l.length (l.map bv)

theorem Rd.nil (w : World) : Rd w (.slice none 0 0) [] := ⟨none, 0, rfl, Nat.le_refl _, Nat.zero_le _, fun i hi => by simp at hi⟩
theorem Own.rd {w : World} {base : Nat} {v : Value} {l : List Nat} (h : Own w base v l) : Rd w v l := by
  rcases h.2 with ⟨rfl, h0⟩ | ⟨g, cap, cur, rfl, hb, hg, hn, hm, hs, ht⟩
  · obtain rfl := List.eq_nil_of_length_eq_zero h0
    exact Rd.nil w
  · refine ⟨_, cap, rfl, hn, hm, fun i hi => ⟨g, 0, rfl, ?_⟩⟩
    have hc := World.ownsRow.cellAt (show w.ownsRow base 5 1 (.slice (some ⟨g, 0, none⟩) l.length cap) l.length (l.map bv) from h) i (by omega)
    rw [Nat.zero_add, hc, List.getElem?_map, List.getElem?_eq_getElem hi]
    rfl
theorem Rd.below {w w' : World} {v : Value} {l : List Nat} (h : Rd w v l) (hb : Below w.heap.size w w') : Rd w' v l := by
  obtain ⟨a, cap, rfl, hn, hm, hcs⟩ := h
  refine ⟨a, cap, rfl, hn, hm, fun i hi => ?_⟩
  obtain ⟨b, o, rfl, hc⟩ := hcs i hi
  exact ⟨b, o, rfl, by rw [hb.cell (p := ⟨b, o + i, none⟩) (World.block_lt_of_cell? w _ hc)]; exact hc⟩
theorem Own.below {w w' : World} {base : Nat} {v : Value} {l : List Nat} (h : Own w base v l) (hb : Below w.heap.size w w') : Own w' base v l := by
  refine ⟨h.1, ?_⟩
  rcases h.2 with hn | ⟨g, cap, cur, rfl, hbb, hgg, rest⟩
  · exact .inl hn
  · exact .inr ⟨g, cap, cur, rfl, hbb, by rw [hb.block g (Array.getElem?_eq_some_iff.1 hgg).1]; exact hgg, rest⟩
theorem Own.mono {w : World} {base base' : Nat} {v : Value} {l : List Nat} (h : Own w base v l) (hb : base' ≤ base) : Own w base' v l := by
  refine ⟨h.1, ?_⟩
  rcases h.2 with hn | ⟨g, cap, cur, rfl, hbb, rest⟩
  · exact .inl hn
  · exact .inr ⟨g, cap, cur, rfl, by omega, rest⟩
theorem Own.nil (w : World) (base : Nat) : Own w base (.slice none 0 0) [] := World.ownsRow_nil _ _ _ _
/-- What is kept where one row alone was written. -/
theorem Own.kept {w w' : World} {base : Nat} {v : Value} {l : List Nat} {row : Option Nat} (h : Own w base v l) (hg : w.grownBy w' row) (hne : v.ownBlock = none ∨ v.ownBlock ≠ row) : Own w' base v l :=
  World.ownsRow.kept h hg hne
theorem below_of_grown {w w' : World} {B : Nat} {row : Option Nat} (hg : w.grownBy w' row) (hB : B ≤ w.heap.size) (hr : ∀ k, row = some k → B ≤ k) : Below B w w' :=
  (Below.refl B w).grown hg hB hr
theorem grown_of_below {w w' : World} (hb : Below w.heap.size w w') (row : Option Nat) : w.grownBy w' row :=
  ⟨hb.os, hb.tape, hb.output, hb.size, fun k hk _ => hb.block k hk⟩
theorem grown_trans {a b c : World} {row : Option Nat} (h : a.grownBy b row) (k : b.grownBy c row) : a.grownBy c row :=
  ⟨k.os.trans h.os, k.tape.trans h.tape, k.output.trans h.output, Nat.le_trans h.size k.size, fun i hi hr => (k.block i (Nat.lt_of_lt_of_le hi h.size) hr).trans (h.block i hi hr)⟩
/-- The first k bytes of l, zeros behind them. -/
def front (l : List Nat) (k : Nat) : List Nat := l.take k ++ List.replicate (l.length - k) 0
theorem front_len (l : List Nat) (k : Nat) (h : k ≤ l.length) : (front l k).length = l.length := by simp [front]; omega
theorem front_get (l : List Nat) (k : Nat) (h : k ≤ l.length) (i : Nat) : (front l k)[i]? = if i < k then l[i]? else if i < l.length then some 0 else none := by
  have e1 : (l.take k).length = k := by simp; omega
  unfold front
  by_cases h2 : i < k
  · rw [List.getElem?_append_left (by omega), List.getElem?_take, if_pos h2, if_pos h2]
  · rw [List.getElem?_append_right (by omega), e1, List.getElem?_replicate, if_neg h2]
    by_cases h3 : i < l.length
    · rw [if_pos (by omega), if_pos h3]
    · rw [if_neg (by omega), if_neg h3]
theorem front_set (l : List Nat) (k : Nat) (h : k < l.length) : (front l k).set k l[k] = front l (k + 1) := by
  apply List.ext_getElem?
  intro i
  rw [List.getElem?_set, front_len l k (by omega), front_get l k (by omega), front_get l (k + 1) (by omega)]
  by_cases hi : k = i
  · subst hi
    rw [if_pos rfl, if_pos h, if_pos (by omega), List.getElem?_eq_getElem h]
  · rw [if_neg hi]
    by_cases h2 : i < k
    · rw [if_pos h2, if_pos (by omega)]
    · rw [if_neg h2, if_neg (show ¬ i < k + 1 by omega)]
theorem front_end (l : List Nat) : front l l.length = l := by simp [front]
theorem front_zero (l : List Nat) : front l 0 = List.replicate l.length 0 := by simp [front]
theorem map_set (l : List Nat) (k x : Nat) : (l.map bv).set k (bv x) = (l.set k x).map bv := by rw [List.map_set]
/-- One byte is stored into a row of the call's own. -/
theorem Own.stored {w : World} {base g cap n : Nat} {l : List Nat} (hn : l.length = n) (h : Own w base (.slice (some ⟨g, 0, none⟩) n cap) l) (k x : Nat) :
    Own (w.setCell ⟨g, k, none⟩ (bv x)) base (.slice (some ⟨g, 0, none⟩) n cap) (l.set k x) ∧ w.grownBy (w.setCell ⟨g, k, none⟩ (bv x)) (some g) := by
  subst hn
  have h' := World.ownsRow.stored (show w.ownsRow base 5 1 (.slice (some ⟨g, 0, none⟩) l.length cap) l.length (l.map bv) from h) k (bv x)
  rw [map_set] at h'
  refine ⟨?_, h'.2⟩
  unfold Own
  rw [List.length_set]
  exact h'.1
theorem Own.cell {w : World} {base g cap n : Nat} {l : List Nat} (hn : l.length = n) (h : Own w base (.slice (some ⟨g, 0, none⟩) n cap) l) (k : Nat) (hk : k < l.length) :
    w.cell? ⟨g, k, none⟩ = some (bv l[k]) := by
  subst hn
  have hc := World.ownsRow.cellAt (show w.ownsRow base 5 1 (.slice (some ⟨g, 0, none⟩) l.length cap) l.length (l.map bv) from h) k (by omega)
  rw [hc, List.getElem?_map, List.getElem?_eq_getElem hk]
  rfl
theorem Own.open {w : World} {base g cap n : Nat} {l : List Nat} (hn : l.length = n) (h : Own w base (.slice (some ⟨g, 0, none⟩) n cap) l) (k : Nat) :
    w.frozen? ⟨g, k, none⟩ = false := by
  subst hn
  exact World.ownsRow.frozenAt (show w.ownsRow base 5 1 (.slice (some ⟨g, 0, none⟩) l.length cap) l.length (l.map bv) from h) k
/-- A slice that reads something reads it in every later world. -/
theorem cell_kept {w w' : World} {b o : Nat} {u : Value} (hb : Below w.heap.size w w') (hc : w.cell? ⟨b, o, none⟩ = some u) : w'.cell? ⟨b, o, none⟩ = some u :=
  (hb.cell (p := ⟨b, o, none⟩) (World.block_lt_of_cell? w _ hc)).trans hc
/-- The marks that a row bears: the numbers from k on, each modulo 256. -/
def marks (k n : Nat) : List Nat := (List.range n).map fun i => (k + i) % 256
theorem marks_len (k n : Nat) : (marks k n).length = n := by simp [marks]
theorem marks_at (k n i : Nat) (h : i < (marks k n).length) : (marks k n)[i] = (k + i) % 256 := by simp [marks]
theorem marks_byt (k n : Nat) : Byt (marks k n) := by
  intro x hx
  simp only [marks, List.mem_map] at hx
  obtain ⟨i, _, rfl⟩ := hx
  omega
/-- The first j bytes are marked. -/
def marked (l : List Nat) (k j : Nat) : List Nat := marks k j ++ l.drop j
theorem marked_len (l : List Nat) (k j : Nat) (h : j ≤ l.length) : (marked l k j).length = l.length := by simp [marked, marks_len]; omega
theorem marked_zero (l : List Nat) (k : Nat) : marked l k 0 = l := by simp [marked, marks]
theorem marked_end (l : List Nat) (k : Nat) : marked l k l.length = marks k l.length := by simp [marked]
theorem marked_set (l : List Nat) (k j : Nat) (h : j < l.length) : (marked l k j).set j ((k + j) % 256) = marked l k (j + 1) := by
  unfold marked
  have e1 : marks k (j + 1) = marks k j ++ [(k + j) % 256] := by simp [marks, List.range_succ]
  rw [e1, List.append_assoc, List.singleton_append, List.set_append_right _ _ (by rw [marks_len]; omega), marks_len, Nat.sub_self, List.drop_eq_getElem_cons h, List.set_cons_zero]
theorem below_alloc1 (w : World) (a : Obj) : Below w.heap.size w (w.alloc a) := (Below.refl _ _).alloc (Nat.le_refl _) _
theorem below_alloc2 (w : World) (a b : Obj) : Below w.heap.size w ((w.alloc a).alloc b) := ((Below.refl _ _).alloc (Nat.le_refl _) _).alloc (by simp) _
/-- A result's own variable of two cells, as it lies behind calls that keep what was there. -/
theorem var2 {w w' : World} {x y : Value} {T : TypeId} {B : Nat} (hB : Below B (w.alloc (.cells #[x, y] T)) w') (hl : w.heap.size < B) : w'.heap[w.heap.size]? = some (.cells #[x, y] T) := by
  rw [hB.block _ hl]; exact heap_alloc_new w _
theorem var2_set {w' : World} {g : Nat} {x y x' y' : Value} {T : TypeId} (h : w'.heap[g]? = some (.cells #[x, y] T)) :
    ((w'.setCell ⟨g, 0, none⟩ x').setCell ⟨g, 1, none⟩ y').heap[g]? = some (.cells #[x', y'] T) := by
  have h1 := heap_setCell_same w' g 0 _ T x' h
  have h2 := heap_setCell_same _ g 1 _ T y' h1
  simpa using h2
theorem var2_facts {w' : World} {g : Nat} {x y : Value} {T : TypeId} (h : w'.heap[g]? = some (.cells #[x, y] T)) :
    w'.cell? ⟨g, 0, none⟩ = some x ∧ w'.cell? ⟨g, 1, none⟩ = some y ∧ w'.frozen? ⟨g, 0, none⟩ = false ∧ w'.frozen? ⟨g, 1, none⟩ = false :=
  ⟨by rw [cell_of_row w' g 0 _ _ _ h]; rfl, by rw [cell_of_row w' g 1 _ _ _ h]; rfl, frozen_of_row w' g 0 _ T h, frozen_of_row w' g 1 _ T h⟩
/-- The two stores into a result's variable: what else was there stays. -/
theorem below_set2 {w w' : World} {g : Nat} {x y : Value} (hB : Below w.heap.size w w') (hg : w.heap.size ≤ g) : Below w.heap.size w ((w'.setCell ⟨g, 0, none⟩ x).setCell ⟨g, 1, none⟩ y) :=
  (hB.setCell (p := ⟨g, 0, none⟩) hg x).setCell (p := ⟨g, 1, none⟩) hg y
theorem Own.set2 {w' : World} {base g : Nat} {v x y : Value} {l : List Nat} (h : Own w' base v l) (hg : g < base) : Own ((w'.setCell ⟨g, 0, none⟩ x).setCell ⟨g, 1, none⟩ y) base v l :=
  ownsRow_setCell_below (ownsRow_setCell_below h (a := ⟨g, 0, none⟩) hg x) (a := ⟨g, 1, none⟩) hg y
/-- A block is kept. -/
theorem var_keep {W W' : World} {B g : Nat} {o : Obj} (hB : Below B W W') (h : W.heap[g]? = some o) (hg : g < B) : W'.heap[g]? = some o := by rw [hB.block g hg]; exact h
theorem var_below {W W' : World} {g : Nat} {o : Obj} (hB : Below W.heap.size W W') (h : W.heap[g]? = some o) : W'.heap[g]? = some o := var_keep hB h (Array.getElem?_eq_some_iff.1 h).1
theorem var_grown {W W' : World} {g : Nat} {o : Obj} {row : Option Nat} (hG : W.grownBy W' row) (h : W.heap[g]? = some o) (hne : some g ≠ row) : W'.heap[g]? = some o := by
  rw [hG.block g (Array.getElem?_eq_some_iff.1 h).1 hne]; exact h
theorem var_alloc {W : World} {g : Nat} {o : Obj} (x : Obj) (h : W.heap[g]? = some o) : (W.alloc x).heap[g]? = some o := var_below (below_alloc1 W x) h
theorem var_lt {W : World} {g : Nat} {o : Obj} (h : W.heap[g]? = some o) : g < W.heap.size := (Array.getElem?_eq_some_iff.1 h).1
/-- Whoever owns from B on has no block below B. -/
theorem Own.ne {w : World} {base : Nat} {v : Value} {l : List Nat} (h : Own w base v l) {g : Nat} (hg : g < base) : some g ≠ v.ownBlock := by
  intro e
  have := World.ownsRow.lt h g e.symm
  omega
theorem Own.apart {w w' : World} {base base' : Nat} {v v' : Value} {l l' : List Nat} (h : Own w base v l) (h' : Own w' base' v' l') (hb : w.heap.size ≤ base') : v.ownBlock = none ∨ v.ownBlock ≠ v'.ownBlock := by
  cases e : v.ownBlock with
  | none => exact .inl rfl
  | some g => exact .inr (h'.ne (by have := World.ownsRow.lt h g e; omega))
theorem Own.apart2 {w w' : World} {base base' : Nat} {v v' : Value} {l l' : List Nat} (h : Own w base v l) (h' : Own w' base' v' l') (hb : w.heap.size ≤ base') : v'.ownBlock = none ∨ v'.ownBlock ≠ v.ownBlock := by
  cases e : v'.ownBlock with
  | none => exact .inl rfl
  | some g =>
    refine .inr fun e2 => ?_
    have h1 := World.ownsRow.lt h' g e
    have h2 := World.ownsRow.lt h g e2.symm
    omega
theorem Own.ne_new {w : World} {base : Nat} {v : Value} {l : List Nat} (h : Own w base v l) {b : Nat} (hb : w.heap.size ≤ b) : some b ≠ v.ownBlock := by
  intro e
  have := World.ownsRow.lt h b e.symm
  omega
theorem Own.row {w : World} {base B : Nat} {v : Value} {l : List Nat} (h : Own w base v l) (hB : B ≤ base) : ∀ k, v.ownBlock = some k → B ≤ k := by
  intro k hk
  have := World.ownsRow.lt h k hk
  omega
/-- A slice of bytes that came in. -/
theorem rd_of_row {w : World} {a : Option Addr} {len cap : Nat} {zs : List Int}
    (h : (a = none ∧ len = 0 ∧ cap = 0 ∧ zs = []) ∨ ∃ x, a = some x ∧ len ≤ cap ∧ cap ≤ maxLen ∧ zs.length = cap ∧ (∀ i, i < zs.length → w.cell? (x.add i) = some (.int .u8 (zs.getD i 0))) ∧ ∀ n ∈ zs, (Lit.int .u8 n).wf = true) :
    ∃ l : List Nat, l.length = len ∧ Byt l ∧ Rd w (.slice a len cap) l := by
  rcases h with ⟨rfl, rfl, rfl, rfl⟩ | ⟨x, rfl, hl, hm, hz, hc, hw⟩
  · exact ⟨[], rfl, fun x hx => by simp at hx, Rd.nil w⟩
  · have hlen : ((zs.take len).map Int.toNat).length = len := by simp; omega
    have hbd : ∀ i (hi : i < zs.length), 0 ≤ zs[i] ∧ zs[i] ≤ 255 := fun i hi => bounds_u8 (hw _ (List.getElem_mem hi))
    refine ⟨(zs.take len).map Int.toNat, hlen, ?_, ?_⟩
    · intro n hn
      simp only [List.mem_map] at hn
      obtain ⟨y, hy, rfl⟩ := hn
      have := bounds_u8 (hw y (List.mem_of_mem_take hy))
      omega
    · refine ⟨some x, cap, by rw [hlen], by omega, hm, fun i hi => ?_⟩
      have hi' : i < zs.length := by omega
      have h1 := hc i hi'
      obtain ⟨b, o, spot⟩ := x
      have hspot : spot = none := by simpa [Addr.add] using World.cell?_spot (hc 0 (by omega))
      subst hspot
      refine ⟨b, o, rfl, ?_⟩
      rw [Addr.add_lit] at h1
      rw [h1]
      simp only [List.getElem_map, List.getElem_take, bv, List.getD, List.getElem?_eq_getElem hi', Option.getD_some]
      rw [Int.toNat_of_nonneg (hbd i hi').1]
/-- One byte more. -/
theorem own_snoc {w : World} {base : Nat} {v : Value} {l : List Nat} {x : Nat} (h : w.ownsRow base 5 1 v (l.length + 1) (l.map bv ++ [bv x])) : Own w base v (l ++ [x]) := by
  unfold Own
  rw [List.length_append, List.map_append]
  exact h
theorem take_snoc (l : List Nat) (k : Nat) (h : k < l.length) : l.take (k + 1) = l.take k ++ [l[k]] := List.take_succ_eq_append_getElem h
theorem own_lit0 (w : World) : Own (w.alloc (.cells #[] 5)) w.heap.size (.slice (some ⟨w.heap.size, 0, none⟩) 0 0) [] :=
  World.ownsRow_lit w #[] 0 (Nat.le_refl _) (Nat.zero_le _) rfl
theorem cell_alloc {w : World} {b o : Nat} {u : Value} (hc : w.cell? ⟨b, o, none⟩ = some u) (x : Obj) : (w.alloc x).cell? ⟨b, o, none⟩ = some u := cell_kept (below_alloc1 w x) hc
end Go.Proofs.Ytbfdbicddmffnab.M
