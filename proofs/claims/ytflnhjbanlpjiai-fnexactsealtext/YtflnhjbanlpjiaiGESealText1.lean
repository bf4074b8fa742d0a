/-
  Slices of bytes in memory: what a slice reads, what a call owns. No function of the program is named here (a type's number alone).
  What all walks over slices of bytes lean on.
  The laws' own helpers over slices of bytes: copies, comparisons, marks.
  Arrays of bytes in memory, known whole.
  Slices of bytes that are a call's own, whatever the block bears as its type.
  The marks that the laws lay, over slices that are a call's own whatever their block's type.
  The exact law of SealText, out of the contracts of its callees.
  append of one slice of bytes to another that is the call's own.
  Pieces of slices of bytes.
  Numbers as bytes: plain mathematics. No program is named here.
  Numbers as bytes: the model's l1Pack.
  Numbers out of bytes: plain mathematics. No program is named here.
  Numbers out of bytes: the model's l1Read.
  A block counted up: plain mathematics. No program is named here.
  Whole blocks, what a tag hashes, the first block of a nonce: plain mathematics. No program is named here.
  A block counted up; the first block of a nonce; whole blocks: the model's l1Copy, l3Count, l3First, l3Whole.
  Plain mathematics of bytes as polynomials: no program is named here.
-/
import Derived.WalkKit
import Derived.ProofKit
import Derived.Below
import Derived.OpenShut
import Derived.WalkSmall
import Derived.Deep.QuietTactic
import Derived.BigQuiet
import Derived.Test.YtflnhjbanlpjiaiRows
import Derived.WalkSpells
import Derived.Deep.WholeRow
import Derived.Deep.RegionHeld3
import Derived.BigRegion
import Derived.Laws.CopyOwn
import Derived.Deep.MidRow
import Derived.Laws.AppendOwn
import Derived.Laws.BitsAllLaws

namespace Go.Proofs.Ytflnhjbanlpjiai.M
open Go.RowKit

theorem hid {p : Prop} (h : p) : Hid p := h
/-- A byte as a value. -/
def bv (n : Nat) : Value := .int .u8 (n : Int)
/-- The slice v reads the bytes l. -/
def Rd (w : World) (v : Value) (l : List Nat) : Prop :=
  ∃ (a : Option Addr) (cap : Nat), v = .slice a l.length cap ∧ l.length ≤ cap ∧ cap ≤ maxLen ∧ ∀ i (hi : i < l.length), ∃ b o, a = some ⟨b, o, none⟩ ∧ w.cell? ⟨b, o + i, none⟩ = some (bv l[i])
theorem Rd.parts {w : World} {v : Value} {l : List Nat} (h : Rd w v l) :
    ∃ (a : Option Addr) (cap : Nat), v = .slice a l.length cap ∧ l.length ≤ cap ∧ cap ≤ maxLen ∧ ∀ i (hi : i < l.length), ∃ b o, a = some ⟨b, o, none⟩ ∧ w.cell? ⟨b, o + i, none⟩ = some (bv l[i]) := h
/-- All are bytes. -/
def Byt (l : List Nat) : Prop := ∀ x ∈ l, x < 256
theorem Byt.at {l : List Nat} (h : Byt l) (i : Nat) (hi : i < l.length) : l[i] < 256 := h _ (List.getElem_mem hi)
/-- The slice v is the call's own, from block 'base' on, and reads l. -/
def Own (w : World) (base : Nat) (v : Value) (l : List Nat) : Prop := w.ownsRow base 5 1 v l.length (l.map bv)

theorem Rd.nil (w : World) : Rd w (.slice none 0 0) [] := ⟨none, 0, rfl, Nat.le_refl _, Nat.zero_le _, fun i hi => by simp at hi⟩
theorem Own.rd {w : World} {base : Nat} {v : Value} {l : List Nat} (h : Own w base v l) : Rd w v l := by
  rcases h.2 with ⟨rfl, h0⟩ | ⟨g, cap, cur, rfl, hb, hg, hn, hm, hs, ht⟩
  · obtain rfl := List.eq_nil_of_length_eq_zero h0
    exact Rd.nil w
  · refine ⟨_, cap, rfl, hn, hm, fun i hi => ⟨g, 0, rfl, ?_⟩⟩
    have hc := World.ownsRow.cellAt (show w.ownsRow base 5 1 (.slice (some ⟨g, 0, none⟩) l.length cap) l.length (l.map bv) from h) i (by omega)
    rw [Nat.zero_add, hc, List.getElem?_map, List.getElem?_eq_getElem hi]
    rfl
theorem Rd.below {w w' : World} {v : Value} {l : List Nat} (h : Rd w v l) (hb : Below w.heap.size w w') : Rd w' v l := by
  obtain ⟨a, cap, rfl, hn, hm, hcs⟩ := h
  refine ⟨a, cap, rfl, hn, hm, fun i hi => ?_⟩
  obtain ⟨b, o, rfl, hc⟩ := hcs i hi
  exact ⟨b, o, rfl, by rw [hb.cell (p := ⟨b, o + i, none⟩) (World.block_lt_of_cell? w _ hc)]; exact hc⟩
theorem Own.below {w w' : World} {base : Nat} {v : Value} {l : List Nat} (h : Own w base v l) (hb : Below w.heap.size w w') : Own w' base v l := by
  refine ⟨h.1, ?_⟩
  rcases h.2 with hn | ⟨g, cap, cur, rfl, hbb, hgg, rest⟩
  · exact .inl hn
  · exact .inr ⟨g, cap, cur, rfl, hbb, by rw [hb.block g (Array.getElem?_eq_some_iff.1 hgg).1]; exact hgg, rest⟩
theorem Own.mono {w : World} {base base' : Nat} {v : Value} {l : List Nat} (h : Own w base v l) (hb : base' ≤ base) : Own w base' v l := by
  refine ⟨h.1, ?_⟩
  rcases h.2 with hn | ⟨g, cap, cur, rfl, hbb, rest⟩
  · exact .inl hn
  · exact .inr ⟨g, cap, cur, rfl, by omega, rest⟩
theorem Own.nil (w : World) (base : Nat) : Own w base (.slice none 0 0) [] := World.ownsRow_nil _ _ _ _
/-- What is kept where one row alone was written. -/
theorem Own.kept {w w' : World} {base : Nat} {v : Value} {l : List Nat} {row : Option Nat} (h : Own w base v l) (hg : w.grownBy w' row) (hne : v.ownBlock = none ∨ v.ownBlock ≠ row) : Own w' base v l :=
  World.ownsRow.kept h hg hne
theorem below_of_grown {w w' : World} {B : Nat} {row : Option Nat} (hg : w.grownBy w' row) (hB : B ≤ w.heap.size) (hr : ∀ k, row = some k → B ≤ k) : Below B w w' :=
  (Below.refl B w).grown hg hB hr
theorem grown_of_below {w w' : World} (hb : Below w.heap.size w w') (row : Option Nat) : w.grownBy w' row :=
  ⟨hb.os, hb.tape, hb.output, hb.size, fun k hk _ => hb.block k hk⟩
theorem grown_trans {a b c : World} {row : Option Nat} (h : a.grownBy b row) (k : b.grownBy c row) : a.grownBy c row :=
  ⟨k.os.trans h.os, k.tape.trans h.tape, k.output.trans h.output, Nat.le_trans h.size k.size, fun i hi hr => (k.block i (Nat.lt_of_lt_of_le hi h.size) hr).trans (h.block i hi hr)⟩
/-- The first k bytes of l, zeros behind them. -/
def front (l : List Nat) (k : Nat) : List Nat := l.take k ++ List.replicate (l.length - k) 0
theorem front_len (l : List Nat) (k : Nat) (h : k ≤ l.length) : (front l k).length = l.length := by simp [front]; omega
theorem front_get (l : List Nat) (k : Nat) (h : k ≤ l.length) (i : Nat) : (front l k)[i]? = if i < k then l[i]? else if i < l.length then some 0 else none := by
  have e1 : (l.take k).length = k := by simp; omega
  unfold front
  by_cases h2 : i < k
  · rw [List.getElem?_append_left (by omega), List.getElem?_take, if_pos h2, if_pos h2]
  · rw [List.getElem?_append_right (by omega), e1, List.getElem?_replicate, if_neg h2]
    by_cases h3 : i < l.length
    · rw [if_pos (by omega), if_pos h3]
    · rw [if_neg (by omega), if_neg h3]
theorem front_set (l : List Nat) (k : Nat) (h : k < l.length) : (front l k).set k l[k] = front l (k + 1) := by
  apply List.ext_getElem?
  intro i
  rw [List.getElem?_set, front_len l k (by omega), front_get l k (by omega), front_get l (k + 1) (by omega)]
  by_cases hi : k = i
  · subst hi
    rw [if_pos rfl, if_pos h, if_pos (by omega), List.getElem?_eq_getElem h]
  · rw [if_neg hi]
    by_cases h2 : i < k
    · rw [if_pos h2, if_pos (by omega)]
    · rw [if_neg h2, if_neg (show ¬ i < k + 1 by omega)]
theorem front_end (l : List Nat) : front l l.length = l := by simp [front]
theorem front_zero (l : List Nat) : front l 0 = List.replicate l.length 0 := by simp [front]
theorem map_set (l : List Nat) (k x : Nat) : (l.map bv).set k (bv x) = (l.set k x).map bv := by rw [List.map_set]
/-- One byte is stored into a row of the call's own. -/
theorem Own.stored {w : World} {base g cap n : Nat} {l : List Nat} (hn : l.length = n) (h : Own w base (.slice (some ⟨g, 0, none⟩) n cap) l) (k x : Nat) :
    Own (w.setCell ⟨g, k, none⟩ (bv x)) base (.slice (some ⟨g, 0, none⟩) n cap) (l.set k x) ∧ w.grownBy (w.setCell ⟨g, k, none⟩ (bv x)) (some g) := by
  subst hn
  have h' := World.ownsRow.stored (show w.ownsRow base 5 1 (.slice (some ⟨g, 0, none⟩) l.length cap) l.length (l.map bv) from h) k (bv x)
  rw [map_set] at h'
  refine ⟨?_, h'.2⟩
  unfold Own
  rw [List.length_set]
  exact h'.1
theorem Own.cell {w : World} {base g cap n : Nat} {l : List Nat} (hn : l.length = n) (h : Own w base (.slice (some ⟨g, 0, none⟩) n cap) l) (k : Nat) (hk : k < l.length) :
    w.cell? ⟨g, k, none⟩ = some (bv l[k]) := by
  subst hn
  have hc := World.ownsRow.cellAt (show w.ownsRow base 5 1 (.slice (some ⟨g, 0, none⟩) l.length cap) l.length (l.map bv) from h) k (by omega)
  rw [hc, List.getElem?_map, List.getElem?_eq_getElem hk]
  rfl
theorem Own.open {w : World} {base g cap n : Nat} {l : List Nat} (hn : l.length = n) (h : Own w base (.slice (some ⟨g, 0, none⟩) n cap) l) (k : Nat) :
    w.frozen? ⟨g, k, none⟩ = false := by
  subst hn
  exact World.ownsRow.frozenAt (show w.ownsRow base 5 1 (.slice (some ⟨g, 0, none⟩) l.length cap) l.length (l.map bv) from h) k
/-- A slice that reads something reads it in every later world. -/
theorem cell_kept {w w' : World} {b o : Nat} {u : Value} (hb : Below w.heap.size w w') (hc : w.cell? ⟨b, o, none⟩ = some u) : w'.cell? ⟨b, o, none⟩ = some u :=
  (hb.cell (p := ⟨b, o, none⟩) (World.block_lt_of_cell? w _ hc)).trans hc
/-- The marks that a row bears: the numbers from k on, each modulo 256. -/
def marks (k n : Nat) : List Nat := (List.range n).map fun i => (k + i) % 256
theorem marks_len (k n : Nat) : (marks k n).length = n := by simp [marks]
theorem marks_at (k n i : Nat) (h : i < (marks k n).length) : (marks k n)[i] = (k + i) % 256 := by simp [marks]
theorem marks_byt (k n : Nat) : Byt (marks k n) := by
  intro x hx
  simp only [marks, List.mem_map] at hx
  obtain ⟨i, _, rfl⟩ := hx
  omega
/-- The first j bytes are marked. -/
def marked (l : List Nat) (k j : Nat) : List Nat := marks k j ++ l.drop j
theorem marked_len (l : List Nat) (k j : Nat) (h : j ≤ l.length) : (marked l k j).length = l.length := by simp [marked, marks_len]; omega
theorem marked_zero (l : List Nat) (k : Nat) : marked l k 0 = l := by simp [marked, marks]
theorem marked_end (l : List Nat) (k : Nat) : marked l k l.length = marks k l.length := by simp [marked]
theorem marked_set (l : List Nat) (k j : Nat) (h : j < l.length) : (marked l k j).set j ((k + j) % 256) = marked l k (j + 1) := by
  unfold marked
  have e1 : marks k (j + 1) = marks k j ++ [(k + j) % 256] := by simp [marks, List.range_succ]
  rw [e1, List.append_assoc, List.singleton_append, List.set_append_right _ _ (by rw [marks_len]; omega), marks_len, Nat.sub_self, List.drop_eq_getElem_cons h, List.set_cons_zero]
theorem below_alloc1 (w : World) (a : Obj) : Below w.heap.size w (w.alloc a) := (Below.refl _ _).alloc (Nat.le_refl _) _
theorem below_alloc2 (w : World) (a b : Obj) : Below w.heap.size w ((w.alloc a).alloc b) := ((Below.refl _ _).alloc (Nat.le_refl _) _).alloc (by simp) _
/-- A result's own variable of two cells, as it lies behind calls that keep what was there. -/
theorem var2 {w w' : World} {x y : Value} {T : TypeId} {B : Nat} (hB : Below B (w.alloc (.cells #[x, y] T)) w') (hl : w.heap.size < B) : w'.heap[w.heap.size]? = some (.cells #[x, y] T) := by
  rw [hB.block _ hl]; exact heap_alloc_new w _
theorem var2_set {w' : World} {g : Nat} {x y x' y' : Value} {T : TypeId} (h : w'.heap[g]? = some (.cells #[x, y] T)) :
    ((w'.setCell ⟨g, 0, none⟩ x').setCell ⟨g, 1, none⟩ y').heap[g]? = some (.cells #[x', y'] T) := by
  have h1 := heap_setCell_same w' g 0 _ T x' h
  have h2 := heap_setCell_same _ g 1 _ T y' h1
  simpa using h2
theorem var2_facts {w' : World} {g : Nat} {x y : Value} {T : TypeId} (h : w'.heap[g]? = some (.cells #[x, y] T)) :
    w'.cell? ⟨g, 0, none⟩ = some x ∧ w'.cell? ⟨g, 1, none⟩ = some y ∧ w'.frozen? ⟨g, 0, none⟩ = false ∧ w'.frozen? ⟨g, 1, none⟩ = false :=
  ⟨by rw [cell_of_row w' g 0 _ _ _ h]; rfl, by rw [cell_of_row w' g 1 _ _ _ h]; rfl, frozen_of_row w' g 0 _ T h, frozen_of_row w' g 1 _ T h⟩
/-- The two stores into a result's variable: what else was there stays. -/
theorem below_set2 {w w' : World} {g : Nat} {x y : Value} (hB : Below w.heap.size w w') (hg : w.heap.size ≤ g) : Below w.heap.size w ((w'.setCell ⟨g, 0, none⟩ x).setCell ⟨g, 1, none⟩ y) :=
  (hB.setCell (p := ⟨g, 0, none⟩) hg x).setCell (p := ⟨g, 1, none⟩) hg y
theorem Own.set2 {w' : World} {base g : Nat} {v x y : Value} {l : List Nat} (h : Own w' base v l) (hg : g < base) : Own ((w'.setCell ⟨g, 0, none⟩ x).setCell ⟨g, 1, none⟩ y) base v l :=
  ownsRow_setCell_below (ownsRow_setCell_below h (a := ⟨g, 0, none⟩) hg x) (a := ⟨g, 1, none⟩) hg y
/-- A block is kept. -/
theorem var_keep {W W' : World} {B g : Nat} {o : Obj} (hB : Below B W W') (h : W.heap[g]? = some o) (hg : g < B) : W'.heap[g]? = some o := by rw [hB.block g hg]; exact h
theorem var_below {W W' : World} {g : Nat} {o : Obj} (hB : Below W.heap.size W W') (h : W.heap[g]? = some o) : W'.heap[g]? = some o := var_keep hB h (Array.getElem?_eq_some_iff.1 h).1
theorem var_grown {W W' : World} {g : Nat} {o : Obj} {row : Option Nat} (hG : W.grownBy W' row) (h : W.heap[g]? = some o) (hne : some g ≠ row) : W'.heap[g]? = some o := by
  rw [hG.block g (Array.getElem?_eq_some_iff.1 h).1 hne]; exact h
theorem var_alloc {W : World} {g : Nat} {o : Obj} (x : Obj) (h : W.heap[g]? = some o) : (W.alloc x).heap[g]? = some o := var_below (below_alloc1 W x) h
theorem var_lt {W : World} {g : Nat} {o : Obj} (h : W.heap[g]? = some o) : g < W.heap.size := (Array.getElem?_eq_some_iff.1 h).1
/-- Whoever owns from B on has no block below B. -/
theorem Own.ne {w : World} {base : Nat} {v : Value} {l : List Nat} (h : Own w base v l) {g : Nat} (hg : g < base) : some g ≠ v.ownBlock := by
  intro e
  have := World.ownsRow.lt h g e.symm
  omega
theorem Own.apart {w w' : World} {base base' : Nat} {v v' : Value} {l l' : List Nat} (h : Own w base v l) (h' : Own w' base' v' l') (hb : w.heap.size ≤ base') : v.ownBlock = none ∨ v.ownBlock ≠ v'.ownBlock := by
  cases e : v.ownBlock with
  | none => exact .inl rfl
  | some g => exact .inr (h'.ne (by have := World.ownsRow.lt h g e; omega))
theorem Own.apart2 {w w' : World} {base base' : Nat} {v v' : Value} {l l' : List Nat} (h : Own w base v l) (h' : Own w' base' v' l') (hb : w.heap.size ≤ base') : v'.ownBlock = none ∨ v'.ownBlock ≠ v.ownBlock := by
  cases e : v'.ownBlock with
  | none => exact .inl rfl
  | some g =>
    refine .inr fun e2 => ?_
    have h1 := World.ownsRow.lt h' g e
    have h2 := World.ownsRow.lt h g e2.symm
    omega
theorem Own.ne_new {w : World} {base : Nat} {v : Value} {l : List Nat} (h : Own w base v l) {b : Nat} (hb : w.heap.size ≤ b) : some b ≠ v.ownBlock := by
  intro e
  have := World.ownsRow.lt h b e.symm
  omega
theorem Own.row {w : World} {base B : Nat} {v : Value} {l : List Nat} (h : Own w base v l) (hB : B ≤ base) : ∀ k, v.ownBlock = some k → B ≤ k := by
  intro k hk
  have := World.ownsRow.lt h k hk
  omega
/-- A slice of bytes that came in. -/
theorem rd_of_row {w : World} {a : Option Addr} {len cap : Nat} {zs : List Int}
    (h : (a = none ∧ len = 0 ∧ cap = 0 ∧ zs = []) ∨ ∃ x, a = some x ∧ len ≤ cap ∧ cap ≤ maxLen ∧ zs.length = cap ∧ (∀ i, i < zs.length → w.cell? (x.add i) = some (.int .u8 (zs.getD i 0))) ∧ ∀ n ∈ zs, (Lit.int .u8 n).wf = true) :
    ∃ l : List Nat, l.length = len ∧ Byt l ∧ Rd w (.slice a len cap) l := by
  rcases h with ⟨rfl, rfl, rfl, rfl⟩ | ⟨x, rfl, hl, hm, hz, hc, hw⟩
  · exact ⟨[], rfl, fun x hx => by simp at hx, Rd.nil w⟩
  · have hlen : ((zs.take len).map Int.toNat).length = len := by simp; omega
    have hbd : ∀ i (hi : i < zs.length), 0 ≤ zs[i] ∧ zs[i] ≤ 255 := fun i hi => bounds_u8 (hw _ (List.getElem_mem hi))
    refine ⟨(zs.take len).map Int.toNat, hlen, ?_, ?_⟩
    · intro n hn
      simp only [List.mem_map] at hn
      obtain ⟨y, hy, rfl⟩ := hn
      have := bounds_u8 (hw y (List.mem_of_mem_take hy))
      omega
    · refine ⟨some x, cap, by rw [hlen], by omega, hm, fun i hi => ?_⟩
      have hi' : i < zs.length := by omega
      have h1 := hc i hi'
      obtain ⟨b, o, spot⟩ := x
      have hspot : spot = none := by simpa [Addr.add] using World.cell?_spot (hc 0 (by omega))
      subst hspot
      refine ⟨b, o, rfl, ?_⟩
      rw [Addr.add_lit] at h1
      rw [h1]
      simp only [List.getElem_map, List.getElem_take, bv, List.getD, List.getElem?_eq_getElem hi', Option.getD_some]
      rw [Int.toNat_of_nonneg (hbd i hi').1]
/-- One byte more. -/
theorem own_snoc {w : World} {base : Nat} {v : Value} {l : List Nat} {x : Nat} (h : w.ownsRow base 5 1 v (l.length + 1) (l.map bv ++ [bv x])) : Own w base v (l ++ [x]) := by
  unfold Own
  rw [List.length_append, List.map_append]
  exact h
theorem take_snoc (l : List Nat) (k : Nat) (h : k < l.length) : l.take (k + 1) = l.take k ++ [l[k]] := List.take_succ_eq_append_getElem h
theorem own_lit0 (w : World) : Own (w.alloc (.cells #[] 5)) w.heap.size (.slice (some ⟨w.heap.size, 0, none⟩) 0 0) [] :=
  World.ownsRow_lit w #[] 0 (Nat.le_refl _) (Nat.zero_le _) rfl
theorem cell_alloc {w : World} {b o : Nat} {u : Value} (hc : w.cell? ⟨b, o, none⟩ = some u) (x : Obj) : (w.alloc x).cell? ⟨b, o, none⟩ = some u := cell_kept (below_alloc1 w x) hc
end Go.Proofs.Ytflnhjbanlpjiai.M

namespace Go.Proofs.Ytflnhjbanlpjiai.W
open Go.ChangeShapes Go.WideShapes Go.ChangeAt Go.RowKit
open Go.Proofs.Ytflnhjbanlpjiai.M

theorem info8 : (Try.prog.info? 5).map (fun i => (i.zero, i.size, i.bytes)) = some (some (.int .u8 0), 1, 1) := by kernel_rfl
theorem one_cast : ((1 : Nat) : Int) = 1 := rfl
theorem ret_b {a b : Bool} (h : a = b) : Ending.returned (.bool a) = .returned (.bool b) := by rw [h]
theorem own_made (w w0 : World) (n : Nat) (h : w0.ownsRow w.heap.size 5 1 (.slice (some ⟨w.heap.size, 0, none⟩) n n) n (madeCells (Value.int .u8 0).cells (n * 1)).toList) :
    Own w0 w.heap.size (.slice (some ⟨w.heap.size, 0, none⟩) n n) (List.replicate n 0) := by
  have e : (madeCells (Value.int .u8 0).cells (n * 1)).toList = (List.replicate n 0).map bv := by
    rw [List.map_replicate, Nat.mul_one]; exact toList_madeCells_one _ _
  rw [e] at h
  unfold Own
  rw [List.length_replicate]
  exact h
end Go.Proofs.Ytflnhjbanlpjiai.W

namespace Go.Proofs.Ytflnhjbanlpjiai.W
open Go.ChangeShapes Go.WideShapes Go.ChangeAt Go.RowKit
open Go.Proofs.Ytflnhjbanlpjiai.M

set_option maxRecDepth 100000 in
theorem toB (v : Value) (l : List Nat) (w : World) (h : Rd w v l) (hl : l.length ≤ 1048576) :
    Calls Try.prog 8 #[v] w fun e w' => e = .returned (.slice (some ⟨w.heap.size, 0, none⟩) l.length l.length) ∧ Own w' w.heap.size (.slice (some ⟨w.heap.size, 0, none⟩) l.length l.length) l ∧ Below w.heap.size w w' := by
  obtain ⟨i0, hi, hz0, hz1, hz2⟩ := info_parts info8
  obtain ⟨a, cap, rfl, _, _, hcell⟩ := h.parts
  clear h
  have rfl0 : (madeCells (Value.int .u8 0).cells (l.length * 1)).toList = (front l 0).map bv := by
    rw [front_zero, List.map_replicate, Nat.mul_one]; exact toList_madeCells_one _ _
  go_enter Try.func8, Try.ntmps8
  go_wp2_with (at_make; refine wpList_make_full _ rfl _ _ 22 rfl w.heap.size 5 i0 (.int .u8 0) 1 Try.underlying22 hi hz0 hz1 .i64 .i64 _ _ l.length rfl rfl rfl rfl (by rw [hz2]; omega) (by unfold maxLen; omega) (Nat.le_refl _) ?_; intro w0 hown0 hgrow0)
  have hown1 : Own w0 w.heap.size (.slice (some ⟨w.heap.size, 0, none⟩) l.length l.length) (front l 0) := by
    rw [rfl0] at hown0; unfold Own; rw [front_len l 0 (by omega)]; exact hown0
  have hb0 := below_of_grown hgrow0 (Nat.le_refl _) (fun k hk => by simp at hk)
  clear hown0 hgrow0 rfl0 hi hz0 hz1 hz2
  go_loopw [4] (fun i wr => ∃ k : Nat, k ≤ l.length ∧ i = .int .i64 k ∧ Own wr w.heap.size (.slice (some ⟨w.heap.size, 0, none⟩) l.length l.length) (front l k) ∧ Below w.heap.size w wr) (fun i _ => l.length - (intOf i).toNat)
  case atStart => exact ⟨0, by omega, rfl, hown1, hb0⟩
  case round =>
    obtain ⟨k, hk, rfl, hown, hb⟩ := hrel
    by_cases hlt : k < l.length
    · obtain ⟨b, o, rfl, hc⟩ := hcell k hlt
      have hbk := World.block_lt_of_cell? w _ hc
      have hc1 : wr.cell? ⟨b, o + k, none⟩ = some (.int .u8 (l[k] : Nat)) := (hb.cell (p := ⟨b, o + k, none⟩) hbk).trans hc
      have hl1 := front_len l k hk
      have hc2 : ∃ u, wr.cell? ⟨w.heap.size, k, none⟩ = some u := ⟨_, hown.cell hl1 k (by omega)⟩
      obtain ⟨u, hc2⟩ := hc2
      have hf2 := hown.open hl1 k
      have hs := hown.stored hl1 k l[k]
      rw [front_set l k hlt] at hs
      have hb2 := hb.setCell (p := ⟨w.heap.size, k, none⟩) (Nat.le_refl _) (bv l[k])
      unfold bv at hs hb2
      clear hown hb hc hcell
      go_wp2
      go_roundw
      case rel => exact ⟨k + 1, by omega, by go_num, hs.1, hb2⟩
      case measure => simp [intOf]; omega
    · have hk8 : k = l.length := by omega
      subst hk8
      rw [front_end] at hown
      go_wp2
      go_ret
      exact ⟨rfl, hown, hb⟩

set_option maxRecDepth 100000 in
theorem eqB (va vb : Value) (l : List Nat) (w : World) (ha : Rd w va l) (hb : Rd w vb l) (hl : l.length ≤ 1048576) :
    Calls Try.prog 11 #[va, vb] w fun e w' => e = .returned (.bool true) ∧ Below w.heap.size w w' := by
  obtain ⟨a, capa, rfl, _, _, hca⟩ := ha.parts
  obtain ⟨b, capb, rfl, _, _, hcb⟩ := hb.parts
  clear ha hb
  go_enter Try.func11, Try.ntmps11
  go_wp2
  go_loopw [5] (fun i wr => ∃ k : Nat, k ≤ l.length ∧ i = .int .i64 k ∧ Below w.heap.size w wr) (fun i _ => l.length - (intOf i).toNat)
  case atStart => exact ⟨0, by omega, rfl, Below.refl _ _⟩
  case round =>
    obtain ⟨k, hk, rfl, hb⟩ := hrel
    by_cases hlt : k < l.length
    · obtain ⟨ba, oa, rfl, ca⟩ := hca k hlt
      obtain ⟨bb, ob, rfl, cb⟩ := hcb k hlt
      have ca := cell_kept hb ca
      have cb := cell_kept hb cb
      unfold bv at ca cb
      clear hca hcb
      go_wp2
      go_quiet (fail)
      go_wp2
      go_roundw
      case rel => exact ⟨k + 1, by omega, by go_num, below_drewN hb _⟩
      case measure => simp [intOf]; omega
    · have hk8 : k = l.length := by omega
      subst hk8
      go_wp2
      go_ret
      exact ⟨rfl, hb⟩

set_option maxRecDepth 100000 in
theorem markB (v : Value) (l : List Nat) (k base : Nat) (w : World) (h : Own w base v l) (hl : l.length ≤ 1048576) (hk : k ≤ 16777216) :
    Calls Try.prog 12 #[v, .int .i64 (k : Int)] w fun e w' => e = .returned (.int .i64 ((k + l.length : Nat) : Int)) ∧ Own w' base v (marks k l.length) ∧ w.grownBy w' v.ownBlock := by
  rcases h.2 with ⟨rfl, h0⟩ | ⟨g, cap, cur, rfl, -, -, -, -, -, -⟩
  · obtain rfl := List.eq_nil_of_length_eq_zero h0
    go_enter Try.func12, Try.ntmps12
    go_wp2
    refine wp_loop_rounds 1 ?_
    rw [rounds_succ]
    go_wp2
    go_ret
    exact ⟨rfl, h, World.grownBy.refl _ _⟩
  · rw [show (Value.slice (some ⟨g, 0, none⟩) l.length cap).ownBlock = some g from rfl]
    go_enter Try.func12, Try.ntmps12
    go_wp2
    go_loopw [1, 5] (fun kk i wr => ∃ j : Nat, j ≤ l.length ∧ i = .int .i64 j ∧ kk = .int .i64 (k + j : Nat) ∧ Own wr base (.slice (some ⟨g, 0, none⟩) l.length cap) (marked l k j) ∧ w.grownBy wr (some g)) (fun _ i _ => l.length - (intOf i).toNat)
    case atStart => exact ⟨0, by omega, rfl, rfl, by rw [marked_zero]; exact h, World.grownBy.refl _ _⟩
    case round =>
      obtain ⟨j, hj, rfl, rfl, hown, hg⟩ := hrel
      by_cases hlt : j < l.length
      · have hl1 := marked_len l k j hj
        have hc2 : ∃ u, wr.cell? ⟨g, j, none⟩ = some u := ⟨_, hown.cell hl1 j (by omega)⟩
        obtain ⟨u, hc2⟩ := hc2
        have hf2 := hown.open hl1 j
        have hs := hown.stored hl1 j ((k + j) % 256)
        rw [marked_set l k j hlt] at hs
        unfold bv at hs
        have e : (((k + j) % 256 : Nat) : Int) = ((k : Int) + j) % 256 := by omega
        rw [e] at hs
        have hs2 := grown_trans hg hs.2
        clear hown hg e h
        go_wp2
        go_roundw
        case rel => exact ⟨j + 1, by omega, by go_num, by go_num, hs.1, hs2⟩
        case measure => simp [intOf]; omega
      · have hk8 : j = l.length := by omega
        subst hk8
        rw [marked_end] at hown
        go_wp2
        go_ret
        exact ⟨rfl, hown, hg⟩

set_option maxRecDepth 100000 in
theorem heldB (v : Value) (n k : Nat) (w : World) (h : Rd w v (marks k n)) (hl : n ≤ 1048576) (hk : k ≤ 16777216) :
    Calls Try.prog 27 #[v, .int .i64 (k : Int)] w fun e w' => e = .returned (.int .i64 ((k + n : Nat) : Int)) ∧ w' = w := by
  obtain ⟨a, cap, rfl, _, _, hcs⟩ := h.parts
  rw [marks_len] at *
  clear h
  go_enter Try.func27, Try.ntmps27
  go_wp2
  go_loop [1, 5] (fun kk i => ∃ j : Nat, j ≤ n ∧ i = .int .i64 j ∧ kk = .int .i64 (k + j : Nat)) (fun _ i => n - (intOf i).toNat)
  case atStart => exact ⟨0, by omega, rfl, rfl⟩
  case round =>
    obtain ⟨j, hj, rfl, rfl⟩ := hrel
    by_cases hlt : j < n
    · obtain ⟨b, o, rfl, hc⟩ := hcs j (by rw [marks_len]; exact hlt)
      clear hcs
      rw [marks_at] at hc
      unfold bv at hc
      have e : (((k + j) % 256 : Nat) : Int) = ((k : Int) + j) % 256 := by omega
      rw [e] at hc
      clear e
      go_wp2
      go_round
      case rel => exact ⟨j + 1, by omega, by go_num, by go_num⟩
      case measure => simp [intOf]; omega
    · have hk8 : j = n := by omega
      subst hk8
      go_wp2
      go_ret
      exact ⟨rfl, rfl⟩

set_option maxRecDepth 100000 in
theorem eqBR (c : Int) (va vb : Value) (l : List Nat) (w : World) (ha : Rd w va l) (hb : Rd w vb l) (hl : l.length ≤ 1048576) :
    Calls Try.prog 10 #[.agg #[.int .i64 c, va], .agg #[.int .i64 c, vb]] w fun e w' => e = .returned (.bool true) ∧ Below w.heap.size w w' := by
  obtain ⟨a, capa, rfl, _, _, _⟩ := ha.parts
  obtain ⟨b, capb, rfl, _, _, _⟩ := hb.parts
  go_enter Try.func10, Try.ntmps10
  go_wp2_with fail
  refine (eqB _ _ l _ (ha.below (below_alloc2 w _ _)) (hb.below (below_alloc2 w _ _)) hl).mono ?_
  rintro e w' ⟨rfl, hB⟩
  go_wp2
  go_ret
  exact ⟨rfl, (below_alloc2 w _ _).trans (hB.mono (by simp; omega))⟩

set_option maxRecDepth 100000 in
theorem markBR (c : Int) (v : Value) (l : List Nat) (k base : Nat) (w : World) (h : Own w base v l) (hl : l.length ≤ 1048576) (hk : k ≤ 16777216) :
    Calls Try.prog 13 #[.agg #[.int .i64 c, v], .int .i64 (k : Int)] w fun e w' => e = .returned (.int .i64 ((k + l.length : Nat) : Int)) ∧ Own w' base v (marks k l.length) ∧ w.grownBy w' v.ownBlock := by
  obtain ⟨a, cap, rfl, _, _, _⟩ := h.rd.parts
  go_enter Try.func13, Try.ntmps13
  go_wp2_with fail
  refine (markB _ l k base _ (h.below (below_alloc1 w _)) hl hk).mono ?_
  rintro e w' ⟨rfl, hO, hG⟩
  go_wp2
  go_ret
  exact ⟨rfl, hO, grown_trans (World.grownBy_alloc _ _ _) hG⟩

set_option maxRecDepth 100000 in
theorem heldBR (c : Int) (v : Value) (n k : Nat) (w : World) (h : Rd w v (marks k n)) (hl : n ≤ 1048576) (hk : k ≤ 16777216) :
    Calls Try.prog 14 #[.agg #[.int .i64 c, v], .int .i64 (k : Int)] w fun e w' => e = .returned (.int .i64 ((k + n : Nat) : Int)) ∧ Below w.heap.size w w' := by
  obtain ⟨a, cap, rfl, _, _, _⟩ := h.parts
  go_enter Try.func14, Try.ntmps14
  go_wp2_with fail
  refine (heldB _ n k _ (h.below (below_alloc1 w _)) hl hk).mono ?_
  rintro e w' ⟨rfl, rfl⟩
  have h0 : ¬ ((k : Int) + n < 0) := by omega
  go_wp2
  go_ret
  exact ⟨rfl, below_alloc1 w _⟩

theorem markBR1 (c : Int) (v : Value) (l : List Nat) (base : Nat) (w : World) (h : Own w base v l) (hl : l.length ≤ 1048576) :
    Calls Try.prog 13 #[.agg #[.int .i64 c, v], .int .i64 1] w fun e w' => e = .returned (.int .i64 ((1 + l.length : Nat) : Int)) ∧ Own w' base v (marks 1 l.length) ∧ w.grownBy w' v.ownBlock := by
  have h := markBR c v l 1 base w h hl (by omega)
  rw [one_cast] at h
  exact h
theorem heldBR1 (c : Int) (v : Value) (n : Nat) (w : World) (h : Rd w v (marks 1 n)) (hl : n ≤ 1048576) :
    Calls Try.prog 14 #[.agg #[.int .i64 c, v], .int .i64 1] w fun e w' => e = .returned (.int .i64 ((1 + n : Nat) : Int)) ∧ Below w.heap.size w w' := by
  have h := heldBR c v n 1 w h hl (by omega)
  rw [one_cast] at h
  exact h
theorem markB1 (v : Value) (l : List Nat) (base : Nat) (w : World) (h : Own w base v l) (hl : l.length ≤ 1048576) :
    Calls Try.prog 12 #[v, .int .i64 1] w fun e w' => e = .returned (.int .i64 ((1 + l.length : Nat) : Int)) ∧ Own w' base v (marks 1 l.length) ∧ w.grownBy w' v.ownBlock := by
  have h := markB v l 1 base w h hl (by omega)
  rw [one_cast] at h
  exact h
end Go.Proofs.Ytflnhjbanlpjiai.W

namespace Go.Proofs.Ytflnhjbanlpjiai.M
open Go.RowKit

/-- The byte at a place of a list (0 where there is none). -/
def gt (l : List Nat) (k : Nat) : Nat := l.getD k 0
theorem gt_eq (l : List Nat) (k : Nat) (h : k < l.length) : gt l k = l[k] := by simp [gt, List.getElem?_eq_getElem h]
theorem gt_some (l : List Nat) (k x : Nat) (h : l[k]? = some x) : gt l k = x := by simp [gt, h]
theorem gt_byt (l : List Nat) (h : Byt l) (k : Nat) : gt l k < 256 := by
  unfold gt
  rw [List.getD_eq_getElem?_getD]
  by_cases hi : k < l.length
  · rw [List.getElem?_eq_getElem hi]; exact h.at k hi
  · rw [List.getElem?_eq_none (by omega)]; decide
/-- The cells of an array of bytes. -/
def arr (l : List Nat) : Array Value := (l.map bv).toArray
theorem arr_size (l : List Nat) : (arr l).size = l.length := by simp [arr]
theorem arr_get (l : List Nat) (j : Nat) (h : j < l.length) : (arr l)[j]? = some (.int .u8 (gt l j : Nat)) := by
  simp [arr, List.getElem?_eq_getElem h, bv, gt]
theorem arr_set (l : List Nat) (k x : Nat) : (arr l).setIfInBounds k (.int .u8 (x : Int)) = arr (l.set k x) := by
  have h := map_set l k x
  unfold arr
  rw [← h]
  simp [bv]
/-- As many zeros. -/
def zs (n : Nat) : List Nat := List.replicate n 0
theorem zs_len (n : Nat) : (zs n).length = n := by simp [zs]
/-- The block g is an array that holds the bytes l. -/
def Ar (w : World) (g : Nat) (T : TypeId) (l : List Nat) : Prop := w.heap[g]? = some (.cells (arr l) T)
theorem Ar.lt {w : World} {g : Nat} {T : TypeId} {l : List Nat} (h : Ar w g T l) : g < w.heap.size := (Array.getElem?_eq_some_iff.1 h).1
theorem Ar.cell {w : World} {g : Nat} {T : TypeId} {l : List Nat} (h : Ar w g T l) (j : Nat) (hj : j < l.length) : w.cell? ⟨g, j, none⟩ = some (.int .u8 (gt l j : Nat)) := by
  rw [cell_of_row w g j _ _ _ h]; exact arr_get l j hj
theorem Ar.open {w : World} {g : Nat} {T : TypeId} {l : List Nat} (h : Ar w g T l) (j : Nat) : w.frozen? ⟨g, j, none⟩ = false := frozen_of_row w g j _ _ h
theorem Ar.below {w w' : World} {g : Nat} {T : TypeId} {l : List Nat} (h : Ar w g T l) (hb : Below w.heap.size w w') : Ar w' g T l := var_below hb h
theorem Ar.keep {w w' : World} {g B : Nat} {T : TypeId} {l : List Nat} (h : Ar w g T l) (hb : Below B w w') (hg : g < B) : Ar w' g T l := var_keep hb h hg
theorem Ar.alloc {w : World} {g : Nat} {T : TypeId} {l : List Nat} (h : Ar w g T l) (x : Obj) : Ar (w.alloc x) g T l := var_alloc x h
theorem Ar.new (w : World) (T : TypeId) (l : List Nat) : Ar (w.alloc (.cells (arr l) T)) w.heap.size T l := heap_alloc_new w _
theorem Ar.stored {w : World} {g : Nat} {T : TypeId} {l : List Nat} (h : Ar w g T l) (k x : Nat) : Ar (w.setCell ⟨g, k, none⟩ (.int .u8 (x : Int))) g T (l.set k x) := by
  have h1 := heap_setCell_same w g k _ T (.int .u8 (x : Int)) h
  rw [arr_set] at h1
  exact h1
theorem Ar.far {w : World} {g g' k : Nat} {T : TypeId} {l : List Nat} (h : Ar w g T l) (v : Value) (hne : g ≠ g') : Ar (w.setCell ⟨g', k, none⟩ v) g T l := by
  unfold Ar
  rw [heap_setCell_other w ⟨g', k, none⟩ g v hne]
  exact h
theorem Ar.row {w : World} {g : Nat} {T : TypeId} {l l' : List Nat} (h : Ar w g T l) : Ar (w.setRow g (arr l')) g T l' := setRow_heap w g _ _ T _ h
theorem Ar.rowFar {w : World} {g g' : Nat} {T : TypeId} {l : List Nat} (h : Ar w g T l) (cs : Array Value) (hne : g ≠ g') : Ar (w.setRow g' cs) g T l := by
  unfold Ar
  rw [setRow_other w g' g cs hne]
  exact h
/-- The first k bytes are the new ones, the others the old ones. -/
def upd (n o : List Nat) (k : Nat) : List Nat := n.take k ++ o.drop k
theorem upd_len (n o : List Nat) (h : n.length = o.length) (k : Nat) : (upd n o k).length = o.length := by simp [upd]; omega
theorem upd_zero (n o : List Nat) : upd n o 0 = o := by simp [upd]
theorem upd_end (n o : List Nat) (h : n.length = o.length) (k : Nat) (hk : k = o.length) : upd n o k = n := by simp [upd, hk, ← h]
theorem upd_set (n o : List Nat) (h : n.length = o.length) (k : Nat) (hk : k < o.length) : (upd n o k).set k (gt n k) = upd n o (k + 1) := by
  have hn : k < n.length := by omega
  unfold upd
  rw [gt_eq n k hn, List.take_succ_eq_append_getElem hn, List.set_append_right _ _ (by simp; omega), List.drop_eq_getElem_cons hk, List.append_assoc]
  have e : k - (List.take k n).length = 0 := by simp; omega
  rw [e, List.set_cons_zero]
  rfl
theorem upd_gt (n o : List Nat) (h : n.length = o.length) (k j : Nat) (hj : k ≤ j) (hk : k ≤ o.length) : gt (upd n o k) j = gt o j := by
  have e : (List.take k n).length = k := by simp; omega
  unfold gt upd
  rw [List.getD_eq_getElem?_getD, List.getD_eq_getElem?_getD, List.getElem?_append_right (by omega), e, List.getElem?_drop, show k + (j - k) = j by omega]
theorem Ar.drewN {w : World} {g : Nat} {T : TypeId} {l : List Nat} (h : Ar w g T l) (n : Nat) : Ar (w.drewN n) g T l := h
theorem Ar.drew {w : World} {g : Nat} {T : TypeId} {l : List Nat} (h : Ar w g T l) : Ar w.drew g T l := h
theorem grown_drewN {w w' : World} {row : Option Nat} (h : w.grownBy w' row) (n : Nat) : w.grownBy (w'.drewN n) row := ⟨h.os, h.tape, h.output, h.size, h.block⟩
theorem grown_drew {w w' : World} {row : Option Nat} (h : w.grownBy w' row) : w.grownBy w'.drew row := ⟨h.os, h.tape, h.output, h.size, h.block⟩
theorem grown_cell {w w' : World} {g : Nat} (h : w.grownBy w' (some g)) (k : Nat) (v : Value) : w.grownBy (w'.setCell ⟨g, k, none⟩ v) (some g) :=
  grown_trans h ⟨rfl, rfl, rfl, by simp, fun i _ hr => heap_setCell_other w' ⟨g, k, none⟩ i v (fun e => hr (by rw [e]))⟩
theorem grown_cell? {w w' : World} {g b o : Nat} {u : Value} (h : w.grownBy w' (some g)) (hc : w.cell? ⟨b, o, none⟩ = some u) (hne : b ≠ g) : w'.cell? ⟨b, o, none⟩ = some u := by
  rw [World.cell?_of_block (w := w) (w' := w') (a := ⟨b, o, none⟩) (h.block b (World.block_lt_of_cell? w _ hc) (fun e => hne (Option.some.inj e)))]
  exact hc
theorem arr_one (l : List Nat) : (arr l).all (·.oneCell') = true := by
  rw [Array.all_eq_true_iff_forall_mem]
  intro v hv
  simp only [arr, List.mem_toArray, List.mem_map] at hv
  obtain ⟨x, _, rfl⟩ := hv
  rfl
/-- n bytes from o on. -/
def sub (l : List Nat) (o n : Nat) : List Nat := (l.drop o).take n
theorem sub_len (l : List Nat) (o n : Nat) (h : o + n ≤ l.length) : (sub l o n).length = n := by simp [sub]; omega
theorem sub_gt (l : List Nat) (o n j : Nat) (h : j < n) : gt (sub l o n) j = gt l (o + j) := by
  unfold gt sub
  rw [List.getD_eq_getElem?_getD, List.getD_eq_getElem?_getD, List.getElem?_take, if_pos h, List.getElem?_drop]
theorem Ar.range {w : World} {g : Nat} {T : TypeId} {l : List Nat} (h : Ar w g T l) (o n : Nat) : w.rangeAt g o ((sub l o n).map bv) := fun j v hv => by
  rw [cell_of_row w g (o + j) _ _ _ h]
  unfold sub at hv
  rw [List.getElem?_map, List.getElem?_take] at hv
  by_cases hj : j < n
  · rw [if_pos hj, List.getElem?_drop] at hv
    simp [arr, hv]
  · rw [if_neg hj] at hv; simp at hv
theorem load_sub {P : Program} {ops : Array Oper} {rest : List Oper} {op : Oper} {a : Act} {w : World} {Q : Exit → Act → World → Prop} (hgd : op.guard = none) (ty : TypeId) (x : Operand) (ho : op.op = .load ty x)
    (b o : Nat) (hx : a.eval x = .pointer (some ⟨b, o, none⟩)) (l : List Nat) (hc : w.rangeAt b o (l.map bv)) (d : TypeDesc) (hu : P.underlying ty = some d) (hd : d.isRow = true) (hi : (P.info? ty).map (·.size) = some (arr l).size)
    (h : wpList P ops Q rest (a.put op.dst (.agg (arr l))) w) : wpList P ops Q (op :: rest) a w :=
  wpList_load_mid hgd ty x ho b o hx (l.map bv) d hc hu hd (by rw [List.length_map, ← arr_size]; exact hi) h
theorem below_row {B : Nat} {w w' : World} {g : Nat} (hB : Below B w w') (hg : B ≤ g) (cs : Array Value) : Below B w (w'.setRow g cs) := below_setRow hB hg cs
end Go.Proofs.Ytflnhjbanlpjiai.M

namespace Go.Proofs.Ytflnhjbanlpjiai.M
open Go.RowKit

/-- The slice v is the call's own, from block 'base' on, and reads l. -/
def Owx (w : World) (base : Nat) (v : Value) (l : List Nat) : Prop := ∃ T : TypeId, w.ownsRow base T 1 v l.length (l.map bv)
theorem Own.x {w : World} {base : Nat} {v : Value} {l : List Nat} (h : Own w base v l) : Owx w base v l := ⟨_, h⟩
theorem Owx.rd {w : World} {base : Nat} {v : Value} {l : List Nat} (h : Owx w base v l) : Rd w v l := by
  obtain ⟨T, h⟩ := h
  rcases h.2 with ⟨rfl, h0⟩ | ⟨g, cap, cur, rfl, hb, hg, hn, hm, hs, ht⟩
  · obtain rfl := List.eq_nil_of_length_eq_zero h0
    exact Rd.nil w
  · refine ⟨_, cap, rfl, hn, hm, fun i hi => ⟨g, 0, rfl, ?_⟩⟩
    have hc := World.ownsRow.cellAt (show w.ownsRow base T 1 (.slice (some ⟨g, 0, none⟩) l.length cap) l.length (l.map bv) from h) i (by omega)
    rw [Nat.zero_add, hc, List.getElem?_map, List.getElem?_eq_getElem hi]
    rfl
theorem Owx.below {w w' : World} {base : Nat} {v : Value} {l : List Nat} (h : Owx w base v l) (hb : Below w.heap.size w w') : Owx w' base v l := by
  obtain ⟨T, h⟩ := h
  refine ⟨T, h.1, ?_⟩
  rcases h.2 with hn | ⟨g, cap, cur, rfl, hbb, hgg, rest⟩
  · exact .inl hn
  · exact .inr ⟨g, cap, cur, rfl, hbb, by rw [hb.block g (Array.getElem?_eq_some_iff.1 hgg).1]; exact hgg, rest⟩
theorem Owx.mono {w : World} {base base' : Nat} {v : Value} {l : List Nat} (h : Owx w base v l) (hb : base' ≤ base) : Owx w base' v l := by
  obtain ⟨T, h⟩ := h
  refine ⟨T, h.1, ?_⟩
  rcases h.2 with hn | ⟨g, cap, cur, rfl, hbb, rest⟩
  · exact .inl hn
  · exact .inr ⟨g, cap, cur, rfl, by omega, rest⟩
theorem Owx.nil (w : World) (base : Nat) : Owx w base (.slice none 0 0) [] := (Own.nil w base).x
theorem Owx.kept {w w' : World} {base : Nat} {v : Value} {l : List Nat} {row : Option Nat} (h : Owx w base v l) (hg : w.grownBy w' row) (hne : v.ownBlock = none ∨ v.ownBlock ≠ row) : Owx w' base v l := by
  obtain ⟨T, h⟩ := h
  exact ⟨T, World.ownsRow.kept h hg hne⟩
theorem Owx.stored {w : World} {base g cap n : Nat} {l : List Nat} (hn : l.length = n) (h : Owx w base (.slice (some ⟨g, 0, none⟩) n cap) l) (k x : Nat) :
    Owx (w.setCell ⟨g, k, none⟩ (bv x)) base (.slice (some ⟨g, 0, none⟩) n cap) (l.set k x) ∧ w.grownBy (w.setCell ⟨g, k, none⟩ (bv x)) (some g) := by
  subst hn
  obtain ⟨T, h⟩ := h
  have h' := World.ownsRow.stored (show w.ownsRow base T 1 (.slice (some ⟨g, 0, none⟩) l.length cap) l.length (l.map bv) from h) k (bv x)
  rw [map_set] at h'
  refine ⟨⟨T, ?_⟩, h'.2⟩
  rw [List.length_set]
  exact h'.1
theorem Owx.cell {w : World} {base g cap n : Nat} {l : List Nat} (hn : l.length = n) (h : Owx w base (.slice (some ⟨g, 0, none⟩) n cap) l) (k : Nat) (hk : k < l.length) :
    w.cell? ⟨g, k, none⟩ = some (bv l[k]) := by
  subst hn
  obtain ⟨T, h⟩ := h
  have hc := World.ownsRow.cellAt (show w.ownsRow base T 1 (.slice (some ⟨g, 0, none⟩) l.length cap) l.length (l.map bv) from h) k (by omega)
  rw [hc, List.getElem?_map, List.getElem?_eq_getElem hk]
  rfl
theorem Owx.open {w : World} {base g cap n : Nat} {l : List Nat} (hn : l.length = n) (h : Owx w base (.slice (some ⟨g, 0, none⟩) n cap) l) (k : Nat) :
    w.frozen? ⟨g, k, none⟩ = false := by
  subst hn
  obtain ⟨T, h⟩ := h
  exact World.ownsRow.frozenAt (show w.ownsRow base T 1 (.slice (some ⟨g, 0, none⟩) l.length cap) l.length (l.map bv) from h) k
theorem Owx.set2 {w' : World} {base g : Nat} {v x y : Value} {l : List Nat} (h : Owx w' base v l) (hg : g < base) : Owx ((w'.setCell ⟨g, 0, none⟩ x).setCell ⟨g, 1, none⟩ y) base v l := by
  obtain ⟨T, h⟩ := h
  exact ⟨T, ownsRow_setCell_below (ownsRow_setCell_below h (a := ⟨g, 0, none⟩) hg x) (a := ⟨g, 1, none⟩) hg y⟩
theorem Owx.lt {w : World} {base : Nat} {v : Value} {l : List Nat} (h : Owx w base v l) (g : Nat) (e : v.ownBlock = some g) : base ≤ g ∧ g < w.heap.size := by
  obtain ⟨T, h⟩ := h
  exact World.ownsRow.lt h g e
theorem Owx.ne {w : World} {base : Nat} {v : Value} {l : List Nat} (h : Owx w base v l) {g : Nat} (hg : g < base) : some g ≠ v.ownBlock := by
  intro e
  have := h.lt g e.symm
  omega
theorem Owx.apart {w w' : World} {base base' : Nat} {v v' : Value} {l l' : List Nat} (h : Owx w base v l) (h' : Owx w' base' v' l') (hb : w.heap.size ≤ base') : v.ownBlock = none ∨ v.ownBlock ≠ v'.ownBlock := by
  cases e : v.ownBlock with
  | none => exact .inl rfl
  | some g => exact .inr (h'.ne (by have := h.lt g e; omega))
theorem Owx.apart2 {w w' : World} {base base' : Nat} {v v' : Value} {l l' : List Nat} (h : Owx w base v l) (h' : Owx w' base' v' l') (hb : w.heap.size ≤ base') : v'.ownBlock = none ∨ v'.ownBlock ≠ v.ownBlock := by
  cases e : v'.ownBlock with
  | none => exact .inl rfl
  | some g =>
    refine .inr fun e2 => ?_
    have h1 := h'.lt g e
    have h2 := h.lt g e2.symm
    omega
theorem Owx.ne_new {w : World} {base : Nat} {v : Value} {l : List Nat} (h : Owx w base v l) {b : Nat} (hb : w.heap.size ≤ b) : some b ≠ v.ownBlock := by
  intro e
  have := h.lt b e.symm
  omega
theorem Owx.row {w : World} {base B : Nat} {v : Value} {l : List Nat} (h : Owx w base v l) (hB : B ≤ base) : ∀ k, v.ownBlock = some k → B ≤ k := by
  intro k hk
  have := h.lt k hk
  omega
/-- An array, taken as a slice. -/
theorem Owx.ofAr {w : World} {g base n : Nat} {T : TypeId} {l : List Nat} (h : Ar w g T l) (hl : l.length = n) (hb : base ≤ g) (hm : n ≤ maxLen) : Owx w base (.slice (some ⟨g, 0, none⟩) n n) l := by
  refine ⟨T, by simp, .inr ⟨g, n, _, by rw [hl], hb, h, by omega, hm, by rw [arr_size, hl]; omega, ?_⟩⟩
  rw [List.take_of_length_le (by rw [Array.length_toList, arr_size]; omega)]
  rfl
/-- A row that is full is known whole. -/
theorem Own.ar {w : World} {base g n : Nat} {l : List Nat} (h : Own w base (.slice (some ⟨g, 0, none⟩) n n) l) (hn : l.length = n) : Ar w g 5 l := by
  rcases h.2 with ⟨e, _⟩ | ⟨g', cap, cur, e, _, hg, _, _, hs, ht⟩
  · cases e
  · simp only [Value.slice.injEq, Option.some.injEq, Addr.mk.injEq, and_true] at e
    obtain ⟨rfl, _, rfl⟩ := e
    have hc : cur.toList = l.map bv := by
      rw [← ht, List.take_of_length_le (by rw [Array.length_toList, hs, hn]; omega)]
    unfold Ar arr
    rw [hg, ← hc]
theorem Own.ofAr {w : World} {base g n : Nat} {l : List Nat} (h : Ar w g 5 l) (hn : l.length = n) (hb : base ≤ g) (hm : n ≤ maxLen) : Own w base (.slice (some ⟨g, 0, none⟩) n n) l := by
  refine ⟨by simp, .inr ⟨g, n, _, by rw [hn], hb, h, by omega, hm, by rw [arr_size, hn]; omega, ?_⟩⟩
  rw [List.take_of_length_le (by rw [Array.length_toList, arr_size]; omega)]
  rfl
/-- The cells of a slice that reads something. -/
theorem Rd.cells {w : World} {b o n cap : Nat} {l : List Nat} (h : Rd w (.slice (some ⟨b, o, none⟩) n cap) l) (i : Nat) (hi : i < l.length) : w.cell? ⟨b, o + i, none⟩ = some (.int .u8 (gt l i : Nat)) := by
  obtain ⟨a, c, e, _, _, hcc⟩ := h
  obtain ⟨b', o', e', hc⟩ := hcc i hi
  subst e'
  cases e
  rw [gt_eq l i hi]
  exact hc
theorem Rd.spot {w : World} {v : Value} {l : List Nat} (h : Rd w v l) (hl : 0 < l.length) : ∃ b o cap, v = .slice (some ⟨b, o, none⟩) l.length cap ∧ l.length ≤ cap ∧ b < w.heap.size := by
  obtain ⟨a, c, rfl, h1, _, hcc⟩ := h
  obtain ⟨b, o, rfl, hc⟩ := hcc 0 hl
  exact ⟨b, o, c, rfl, h1, World.block_lt_of_cell? w _ hc⟩
theorem meas (n k : Nat) (h : k < n) : n - (intOf (.int .i64 ((k : Int) + 1))).toNat < n - (intOf (.int .i64 (k : Int))).toNat := by simp [intOf]; omega
theorem num_succ (k : Nat) : Value.int .i64 ((k : Int) + 1) = .int .i64 ((k + 1 : Nat) : Int) := rfl
end Go.Proofs.Ytflnhjbanlpjiai.M

namespace Go.Proofs.Ytflnhjbanlpjiai.W
open Go.ChangeShapes Go.WideShapes Go.ChangeAt Go.RowKit
open Go.Proofs.Ytflnhjbanlpjiai.M

set_option maxRecDepth 100000 in
theorem markBx (v : Value) (l : List Nat) (k base : Nat) (w : World) (h : Owx w base v l) (hl : l.length ≤ 1048576) (hk : k ≤ 16777216) :
    Calls Try.prog 12 #[v, .int .i64 (k : Int)] w fun e w' => e = .returned (.int .i64 ((k + l.length : Nat) : Int)) ∧ Owx w' base v (marks k l.length) ∧ w.grownBy w' v.ownBlock := by
  obtain ⟨T, hT⟩ := h
  have h : Owx w base v l := ⟨T, hT⟩
  rcases hT.2 with ⟨rfl, h0⟩ | ⟨g, cap, cur, rfl, -, -, -, -, -, -⟩
  · obtain rfl := List.eq_nil_of_length_eq_zero h0
    go_enter Try.func12, Try.ntmps12
    go_wp2
    refine wp_loop_rounds 1 ?_
    rw [rounds_succ]
    go_wp2
    go_ret
    exact ⟨rfl, h, World.grownBy.refl _ _⟩
  · rw [show (Value.slice (some ⟨g, 0, none⟩) l.length cap).ownBlock = some g from rfl]
    go_enter Try.func12, Try.ntmps12
    go_wp2
    go_loopw [1, 5] (fun kk i wr => ∃ j : Nat, j ≤ l.length ∧ i = .int .i64 j ∧ kk = .int .i64 (k + j : Nat) ∧ Owx wr base (.slice (some ⟨g, 0, none⟩) l.length cap) (marked l k j) ∧ w.grownBy wr (some g)) (fun _ i _ => l.length - (intOf i).toNat)
    case atStart => exact ⟨0, by omega, rfl, rfl, by rw [marked_zero]; exact h, World.grownBy.refl _ _⟩
    case round =>
      obtain ⟨j, hj, rfl, rfl, hown, hg⟩ := hrel
      by_cases hlt : j < l.length
      · have hl1 := marked_len l k j hj
        have hc2 : ∃ u, wr.cell? ⟨g, j, none⟩ = some u := ⟨_, hown.cell hl1 j (by omega)⟩
        obtain ⟨u, hc2⟩ := hc2
        have hf2 := hown.open hl1 j
        have hs := hown.stored hl1 j ((k + j) % 256)
        rw [marked_set l k j hlt] at hs
        unfold bv at hs
        have e : (((k + j) % 256 : Nat) : Int) = ((k : Int) + j) % 256 := by omega
        rw [e] at hs
        have hs2 := grown_trans hg hs.2
        clear hown hg e h hT
        go_wp2
        go_roundw
        case rel => exact ⟨j + 1, by omega, by go_num, by go_num, hs.1, hs2⟩
        case measure => simp [intOf]; omega
      · have hk8 : j = l.length := by omega
        subst hk8
        rw [marked_end] at hown
        go_wp2
        go_ret
        exact ⟨rfl, hown, hg⟩

set_option maxRecDepth 100000 in
theorem markBRx (c : Int) (v : Value) (l : List Nat) (k base : Nat) (w : World) (h : Owx w base v l) (hl : l.length ≤ 1048576) (hk : k ≤ 16777216) :
    Calls Try.prog 13 #[.agg #[.int .i64 c, v], .int .i64 (k : Int)] w fun e w' => e = .returned (.int .i64 ((k + l.length : Nat) : Int)) ∧ Owx w' base v (marks k l.length) ∧ w.grownBy w' v.ownBlock := by
  obtain ⟨a, cap, rfl, _, _, _⟩ := h.rd.parts
  go_enter Try.func13, Try.ntmps13
  go_wp2_with fail
  refine (markBx _ l k base _ (h.below (below_alloc1 w _)) hl hk).mono ?_
  rintro e w' ⟨rfl, hO, hG⟩
  go_wp2
  go_ret
  exact ⟨rfl, hO, grown_trans (World.grownBy_alloc _ _ _) hG⟩

theorem markBR1x (c : Int) (v : Value) (l : List Nat) (base : Nat) (w : World) (h : Owx w base v l) (hl : l.length ≤ 1048576) :
    Calls Try.prog 13 #[.agg #[.int .i64 c, v], .int .i64 1] w fun e w' => e = .returned (.int .i64 ((1 + l.length : Nat) : Int)) ∧ Owx w' base v (marks 1 l.length) ∧ w.grownBy w' v.ownBlock := by
  have h := markBRx c v l 1 base w h hl (by omega)
  rw [one_cast] at h
  exact h

theorem markB1x (v : Value) (l : List Nat) (base : Nat) (w : World) (h : Owx w base v l) (hl : l.length ≤ 1048576) :
    Calls Try.prog 12 #[v, .int .i64 1] w fun e w' => e = .returned (.int .i64 ((1 + l.length : Nat) : Int)) ∧ Owx w' base v (marks 1 l.length) ∧ w.grownBy w' v.ownBlock := by
  have h := markBx v l 1 base w h hl (by omega)
  rw [one_cast] at h
  exact h

end Go.Proofs.Ytflnhjbanlpjiai.W

namespace Go.Proofs.Ytflnhjbanlpjiai.W
open Go.ChangeShapes Go.WideShapes Go.ChangeAt Go.RowKit
open Go.Proofs.Ytflnhjbanlpjiai.M

set_option maxHeartbeats 4000000 in
set_option maxRecDepth 100000 in
theorem law_SealText (l0 l1 l2 l3 : List Nat) (c : Int) (l : List Nat) (a0 a1 a2 a3 : Value) (w : World) (hl : l.length ≤ 1048576)
    (h0 : Rd w a0 l0)
    (h1 : Rd w a1 l1)
    (h2 : Rd w a2 l2)
    (h3 : Rd w a3 l3)
    (SP : Hid (∀ (w : World) (v0 v1 v2 v3 : Value), Rd w v0 l0 → Rd w v1 l1 → Rd w v2 l2 → Rd w v3 l3 → Calls Try.prog 17 #[v0, v1, v2, v3] w fun e w' => ∃ v, e = .returned (.agg #[.int .i64 c, v]) ∧ Owx w' w.heap.size v l ∧ Below w.heap.size w w'))
    (IP : Hid (∀ (w : World) (v0 v1 v2 v3 : Value), Rd w v0 l0 → Rd w v1 l1 → Rd w v2 l2 → Rd w v3 l3 → Calls Try.prog 18 #[v0, v1, v2, v3] w fun e w' => ∃ v, e = .returned (.agg #[.int .i64 c, v]) ∧ Owx w' w.heap.size v l ∧ Below w.heap.size w w')) :
    Calls Try.prog 5 #[a0, a1, a2, a3] w fun e w' => e = .returned (.bool true) ∧ Below w.heap.size w w' := by
  obtain ⟨p0, cap0, rfl, _, _, _⟩ := h0.parts
  obtain ⟨p1, cap1, rfl, _, _, _⟩ := h1.parts
  obtain ⟨p2, cap2, rfl, _, _, _⟩ := h2.parts
  obtain ⟨p3, cap3, rfl, _, _, _⟩ := h3.parts
  by_cases z0 : l0.length ≤ 1048576
  case neg =>
    go_enter Try.func5, Try.ntmps5
    go_wp2
    go_ret
    exact ⟨rfl, Below.refl _ _⟩
  by_cases z1 : l1.length ≤ 1048576
  case neg =>
    go_enter Try.func5, Try.ntmps5
    go_wp2
    go_ret
    exact ⟨rfl, Below.refl _ _⟩
  by_cases z2 : l2.length ≤ 1048576
  case neg =>
    go_enter Try.func5, Try.ntmps5
    go_wp2
    go_ret
    exact ⟨rfl, Below.refl _ _⟩
  by_cases z3 : l3.length ≤ 1048576
  case neg =>
    go_enter Try.func5, Try.ntmps5
    go_wp2
    go_ret
    exact ⟨rfl, Below.refl _ _⟩
  have hBel := Below.refl w.heap.size w
  have Z0 := hid h0
  clear h0
  have Z1 := hid h1
  clear h1
  have Z2 := hid h2
  clear h2
  have Z3 := hid h3
  clear h3
  go_enter Try.func5, Try.ntmps5
  go_wp2_with fail
  refine (toB _ l0 _ (Z0.out.below hBel) z0).mono ?_
  rintro e w1 ⟨rfl, T0, hB⟩
  replace T0 := T0.x
  have hBel0T0 := hBel
  have hBel := hBel.trans (hB.mono (by have := hBel.size; omega))
  clear hB
  go_wp2_with fail
  refine (toB _ l1 _ (Z1.out.below hBel) z1).mono ?_
  rintro e w2 ⟨rfl, T1, hB⟩
  replace T1 := T1.x
  have hBel0T1 := hBel
  have apT0T1 := hid (T0.apart T1 (by simp))
  have apT1T0 := hid (T0.apart2 T1 (by simp))
  have T0 := T0.below hB
  have hBel := hBel.trans (hB.mono (by have := hBel.size; omega))
  clear hB
  go_wp2_with fail
  refine (toB _ l2 _ (Z2.out.below hBel) z2).mono ?_
  rintro e w3 ⟨rfl, T2, hB⟩
  replace T2 := T2.x
  have hBel0T2 := hBel
  have apT0T2 := hid (T0.apart T2 (by simp))
  have apT2T0 := hid (T0.apart2 T2 (by simp))
  have apT1T2 := hid (T1.apart T2 (by simp))
  have apT2T1 := hid (T1.apart2 T2 (by simp))
  have T0 := T0.below hB
  have T1 := T1.below hB
  have hBel := hBel.trans (hB.mono (by have := hBel.size; omega))
  clear hB
  go_wp2_with fail
  refine (toB _ l3 _ (Z3.out.below hBel) z3).mono ?_
  rintro e w4 ⟨rfl, T3, hB⟩
  replace T3 := T3.x
  have hBel0T3 := hBel
  have apT0T3 := hid (T0.apart T3 (by simp))
  have apT3T0 := hid (T0.apart2 T3 (by simp))
  have apT1T3 := hid (T1.apart T3 (by simp))
  have apT3T1 := hid (T1.apart2 T3 (by simp))
  have apT2T3 := hid (T2.apart T3 (by simp))
  have apT3T2 := hid (T2.apart2 T3 (by simp))
  have T0 := T0.below hB
  have T1 := T1.below hB
  have T2 := T2.below hB
  have hBel := hBel.trans (hB.mono (by have := hBel.size; omega))
  clear hB
  go_wp2_with fail
  refine (SP.out _ _ _ _ _ T0.rd T1.rd T2.rd T3.rd).mono ?_
  rintro e w5 ⟨v, rfl, OW, hB⟩
  obtain ⟨qOW, cOW, rfl, -, -, -⟩ := OW.rd.parts
  have hBel0OW := hBel
  have apT0OW := hid (T0.apart OW (by simp))
  have apOWT0 := hid (T0.apart2 OW (by simp))
  have apT1OW := hid (T1.apart OW (by simp))
  have apOWT1 := hid (T1.apart2 OW (by simp))
  have apT2OW := hid (T2.apart OW (by simp))
  have apOWT2 := hid (T2.apart2 OW (by simp))
  have apT3OW := hid (T3.apart OW (by simp))
  have apOWT3 := hid (T3.apart2 OW (by simp))
  have T0 := T0.below hB
  have T1 := T1.below hB
  have T2 := T2.below hB
  have T3 := T3.below hB
  have hBel := hBel.trans (hB.mono (by have := hBel.size; omega))
  clear hB
  clear T0
  clear T1
  clear T2
  clear T3
  go_wp2_with fail
  refine (toB _ l0 _ ((Z0.out.below hBel).below (below_alloc1 w5 _)) z0).mono ?_
  rintro e w6 ⟨rfl, X0, hB⟩
  simp only [World.size_alloc] at X0
  replace X0 := X0.x
  have hBel0X0 := hBel
  have apOWX0 := hid (OW.apart X0 (by simp))
  have apX0OW := hid (OW.apart2 X0 (by simp))
  have neVWX0 := hid (X0.ne (g := w5.heap.size) (by simp))
  have neVWOW := hid (OW.ne_new (b := w5.heap.size) (Nat.le_refl _))
  have VW := var_below hB (heap_alloc_new w5 (.cells #[.int .i64 c, .slice qOW l.length cOW] 24))
  have hB := (below_alloc1 w5 _).trans (hB.mono (by simp))
  have OW := OW.below hB
  have hBel := hBel.trans (hB.mono (by have := hBel.size; omega))
  clear hB
  obtain ⟨fVW1, fVW2, -, -⟩ := var2_facts VW
  have sVW := var_lt VW
  go_wp2_with fail
  refine (toB _ l1 _ (Z1.out.below hBel) z1).mono ?_
  rintro e w7 ⟨rfl, X1, hB⟩
  replace X1 := X1.x
  have hBel0X1 := hBel
  clear fVW1 fVW2 sVW
  have apOWX1 := hid (OW.apart X1 (by simp))
  have apX1OW := hid (OW.apart2 X1 (by simp))
  have apX0X1 := hid (X0.apart X1 (by simp))
  have apX1X0 := hid (X0.apart2 X1 (by simp))
  have neVWX1 := hid (X1.ne (g := w5.heap.size) (by have := var_lt VW; simp; omega))
  have VW := var_below hB VW
  have OW := OW.below hB
  have X0 := X0.below hB
  have hBel := hBel.trans (hB.mono (by have := hBel.size; omega))
  clear hB
  obtain ⟨fVW1, fVW2, -, -⟩ := var2_facts VW
  have sVW := var_lt VW
  go_wp2_with fail
  refine (toB _ l2 _ (Z2.out.below hBel) z2).mono ?_
  rintro e w8 ⟨rfl, X2, hB⟩
  replace X2 := X2.x
  have hBel0X2 := hBel
  clear fVW1 fVW2 sVW
  have apOWX2 := hid (OW.apart X2 (by simp))
  have apX2OW := hid (OW.apart2 X2 (by simp))
  have apX0X2 := hid (X0.apart X2 (by simp))
  have apX2X0 := hid (X0.apart2 X2 (by simp))
  have apX1X2 := hid (X1.apart X2 (by simp))
  have apX2X1 := hid (X1.apart2 X2 (by simp))
  have neVWX2 := hid (X2.ne (g := w5.heap.size) (by have := var_lt VW; simp; omega))
  have VW := var_below hB VW
  have OW := OW.below hB
  have X0 := X0.below hB
  have X1 := X1.below hB
  have hBel := hBel.trans (hB.mono (by have := hBel.size; omega))
  clear hB
  obtain ⟨fVW1, fVW2, -, -⟩ := var2_facts VW
  have sVW := var_lt VW
  go_wp2_with fail
  refine (toB _ l3 _ (Z3.out.below hBel) z3).mono ?_
  rintro e w9 ⟨rfl, X3, hB⟩
  replace X3 := X3.x
  have hBel0X3 := hBel
  clear fVW1 fVW2 sVW
  have apOWX3 := hid (OW.apart X3 (by simp))
  have apX3OW := hid (OW.apart2 X3 (by simp))
  have apX0X3 := hid (X0.apart X3 (by simp))
  have apX3X0 := hid (X0.apart2 X3 (by simp))
  have apX1X3 := hid (X1.apart X3 (by simp))
  have apX3X1 := hid (X1.apart2 X3 (by simp))
  have apX2X3 := hid (X2.apart X3 (by simp))
  have apX3X2 := hid (X2.apart2 X3 (by simp))
  have neVWX3 := hid (X3.ne (g := w5.heap.size) (by have := var_lt VW; simp; omega))
  have VW := var_below hB VW
  have OW := OW.below hB
  have X0 := X0.below hB
  have X1 := X1.below hB
  have X2 := X2.below hB
  have hBel := hBel.trans (hB.mono (by have := hBel.size; omega))
  clear hB
  obtain ⟨fVW1, fVW2, -, -⟩ := var2_facts VW
  have sVW := var_lt VW
  go_wp2_with fail
  refine (IP.out _ _ _ _ _ X0.rd X1.rd X2.rd X3.rd).mono ?_
  rintro e w10 ⟨v, rfl, OG, hB⟩
  obtain ⟨qOG, cOG, rfl, -, -, -⟩ := OG.rd.parts
  have hBel0OG := hBel
  clear fVW1 fVW2 sVW
  have apOWOG := hid (OW.apart OG (by simp))
  have apOGOW := hid (OW.apart2 OG (by simp))
  have apX0OG := hid (X0.apart OG (by simp))
  have apOGX0 := hid (X0.apart2 OG (by simp))
  have apX1OG := hid (X1.apart OG (by simp))
  have apOGX1 := hid (X1.apart2 OG (by simp))
  have apX2OG := hid (X2.apart OG (by simp))
  have apOGX2 := hid (X2.apart2 OG (by simp))
  have apX3OG := hid (X3.apart OG (by simp))
  have apOGX3 := hid (X3.apart2 OG (by simp))
  have neVWOG := hid (OG.ne (g := w5.heap.size) (by have := var_lt VW; simp; omega))
  have VW := var_below hB VW
  have OW := OW.below hB
  have X0 := X0.below hB
  have X1 := X1.below hB
  have X2 := X2.below hB
  have X3 := X3.below hB
  have hBel := hBel.trans (hB.mono (by have := hBel.size; omega))
  clear hB
  obtain ⟨fVW1, fVW2, -, -⟩ := var2_facts VW
  have sVW := var_lt VW
  go_wp2_with fail
  refine (eqBR c _ _ l _ (OG.below (below_alloc1 w10 _)).rd (OW.below (below_alloc1 w10 _)).rd hl).mono ?_
  rintro e w11 ⟨rfl, hB⟩
  clear fVW1 fVW2 sVW
  have neVGOW := hid (OW.ne_new (b := w10.heap.size) (Nat.le_refl _))
  have neVGX0 := hid (X0.ne_new (b := w10.heap.size) (Nat.le_refl _))
  have neVGX1 := hid (X1.ne_new (b := w10.heap.size) (Nat.le_refl _))
  have neVGX2 := hid (X2.ne_new (b := w10.heap.size) (Nat.le_refl _))
  have neVGX3 := hid (X3.ne_new (b := w10.heap.size) (Nat.le_refl _))
  have neVGOG := hid (OG.ne_new (b := w10.heap.size) (Nat.le_refl _))
  have VG := var_below hB (heap_alloc_new w10 (.cells #[.int .i64 c, .slice qOG l.length cOG] 24))
  have hB := (below_alloc1 w10 _).trans (hB.mono (by simp))
  have VW := var_below hB VW
  have OW := OW.below hB
  have X0 := X0.below hB
  have X1 := X1.below hB
  have X2 := X2.below hB
  have X3 := X3.below hB
  have OG := OG.below hB
  have hBel := hBel.trans (hB.mono (by have := hBel.size; omega))
  clear hB
  obtain ⟨fVW1, fVW2, -, -⟩ := var2_facts VW
  have sVW := var_lt VW
  obtain ⟨fVG1, fVG2, -, -⟩ := var2_facts VG
  have sVG := var_lt VG
  go_wp2_with fail
  refine (toB _ l0 _ (Z0.out.below hBel) z0).mono ?_
  rintro e w12 ⟨rfl, Y0, hB⟩
  replace Y0 := Y0.x
  have hBel0Y0 := hBel
  clear fVW1 fVW2 sVW fVG1 fVG2 sVG
  have apOWY0 := hid (OW.apart Y0 (by simp))
  have apY0OW := hid (OW.apart2 Y0 (by simp))
  have apX0Y0 := hid (X0.apart Y0 (by simp))
  have apY0X0 := hid (X0.apart2 Y0 (by simp))
  have apX1Y0 := hid (X1.apart Y0 (by simp))
  have apY0X1 := hid (X1.apart2 Y0 (by simp))
  have apX2Y0 := hid (X2.apart Y0 (by simp))
  have apY0X2 := hid (X2.apart2 Y0 (by simp))
  have apX3Y0 := hid (X3.apart Y0 (by simp))
  have apY0X3 := hid (X3.apart2 Y0 (by simp))
  have apOGY0 := hid (OG.apart Y0 (by simp))
  have apY0OG := hid (OG.apart2 Y0 (by simp))
  have neVWY0 := hid (Y0.ne (g := w5.heap.size) (by have := var_lt VW; simp; omega))
  have neVGY0 := hid (Y0.ne (g := w10.heap.size) (by have := var_lt VG; simp; omega))
  have VW := var_below hB VW
  have VG := var_below hB VG
  have OW := OW.below hB
  have X0 := X0.below hB
  have X1 := X1.below hB
  have X2 := X2.below hB
  have X3 := X3.below hB
  have OG := OG.below hB
  have hBel := hBel.trans (hB.mono (by have := hBel.size; omega))
  clear hB
  obtain ⟨fVW1, fVW2, -, -⟩ := var2_facts VW
  have sVW := var_lt VW
  obtain ⟨fVG1, fVG2, -, -⟩ := var2_facts VG
  have sVG := var_lt VG
  go_wp2_with fail
  refine (eqB _ _ l0 _ X0.rd Y0.rd z0).mono ?_
  rintro e w13 ⟨rfl, hB⟩
  clear fVW1 fVW2 sVW fVG1 fVG2 sVG
  have VW := var_below hB VW
  have VG := var_below hB VG
  have OW := OW.below hB
  have X0 := X0.below hB
  have X1 := X1.below hB
  have X2 := X2.below hB
  have X3 := X3.below hB
  have OG := OG.below hB
  have Y0 := Y0.below hB
  have hBel := hBel.trans (hB.mono (by have := hBel.size; omega))
  clear hB
  obtain ⟨fVW1, fVW2, -, -⟩ := var2_facts VW
  have sVW := var_lt VW
  obtain ⟨fVG1, fVG2, -, -⟩ := var2_facts VG
  have sVG := var_lt VG
  clear Y0
  go_wp2_with fail
  refine (toB _ l1 _ (Z1.out.below hBel) z1).mono ?_
  rintro e w14 ⟨rfl, Y1, hB⟩
  replace Y1 := Y1.x
  have hBel0Y1 := hBel
  clear fVW1 fVW2 sVW fVG1 fVG2 sVG
  have apOWY1 := hid (OW.apart Y1 (by simp))
  have apY1OW := hid (OW.apart2 Y1 (by simp))
  have apX0Y1 := hid (X0.apart Y1 (by simp))
  have apY1X0 := hid (X0.apart2 Y1 (by simp))
  have apX1Y1 := hid (X1.apart Y1 (by simp))
  have apY1X1 := hid (X1.apart2 Y1 (by simp))
  have apX2Y1 := hid (X2.apart Y1 (by simp))
  have apY1X2 := hid (X2.apart2 Y1 (by simp))
  have apX3Y1 := hid (X3.apart Y1 (by simp))
  have apY1X3 := hid (X3.apart2 Y1 (by simp))
  have apOGY1 := hid (OG.apart Y1 (by simp))
  have apY1OG := hid (OG.apart2 Y1 (by simp))
  have neVWY1 := hid (Y1.ne (g := w5.heap.size) (by have := var_lt VW; simp; omega))
  have neVGY1 := hid (Y1.ne (g := w10.heap.size) (by have := var_lt VG; simp; omega))
  have VW := var_below hB VW
  have VG := var_below hB VG
  have OW := OW.below hB
  have X0 := X0.below hB
  have X1 := X1.below hB
  have X2 := X2.below hB
  have X3 := X3.below hB
  have OG := OG.below hB
  have hBel := hBel.trans (hB.mono (by have := hBel.size; omega))
  clear hB
  obtain ⟨fVW1, fVW2, -, -⟩ := var2_facts VW
  have sVW := var_lt VW
  obtain ⟨fVG1, fVG2, -, -⟩ := var2_facts VG
  have sVG := var_lt VG
  go_wp2_with fail
  refine (eqB _ _ l1 _ X1.rd Y1.rd z1).mono ?_
  rintro e w15 ⟨rfl, hB⟩
  clear fVW1 fVW2 sVW fVG1 fVG2 sVG
  have VW := var_below hB VW
  have VG := var_below hB VG
  have OW := OW.below hB
  have X0 := X0.below hB
  have X1 := X1.below hB
  have X2 := X2.below hB
  have X3 := X3.below hB
  have OG := OG.below hB
  have Y1 := Y1.below hB
  have hBel := hBel.trans (hB.mono (by have := hBel.size; omega))
  clear hB
  obtain ⟨fVW1, fVW2, -, -⟩ := var2_facts VW
  have sVW := var_lt VW
  obtain ⟨fVG1, fVG2, -, -⟩ := var2_facts VG
  have sVG := var_lt VG
  clear Y1
  go_wp2_with fail
  refine (toB _ l2 _ (Z2.out.below hBel) z2).mono ?_
  rintro e w16 ⟨rfl, Y2, hB⟩
  replace Y2 := Y2.x
  have hBel0Y2 := hBel
  clear fVW1 fVW2 sVW fVG1 fVG2 sVG
  have apOWY2 := hid (OW.apart Y2 (by simp))
  have apY2OW := hid (OW.apart2 Y2 (by simp))
  have apX0Y2 := hid (X0.apart Y2 (by simp))
  have apY2X0 := hid (X0.apart2 Y2 (by simp))
  have apX1Y2 := hid (X1.apart Y2 (by simp))
  have apY2X1 := hid (X1.apart2 Y2 (by simp))
  have apX2Y2 := hid (X2.apart Y2 (by simp))
  have apY2X2 := hid (X2.apart2 Y2 (by simp))
  have apX3Y2 := hid (X3.apart Y2 (by simp))
  have apY2X3 := hid (X3.apart2 Y2 (by simp))
  have apOGY2 := hid (OG.apart Y2 (by simp))
  have apY2OG := hid (OG.apart2 Y2 (by simp))
  have neVWY2 := hid (Y2.ne (g := w5.heap.size) (by have := var_lt VW; simp; omega))
  have neVGY2 := hid (Y2.ne (g := w10.heap.size) (by have := var_lt VG; simp; omega))
  have VW := var_below hB VW
  have VG := var_below hB VG
  have OW := OW.below hB
  have X0 := X0.below hB
  have X1 := X1.below hB
  have X2 := X2.below hB
  have X3 := X3.below hB
  have OG := OG.below hB
  have hBel := hBel.trans (hB.mono (by have := hBel.size; omega))
  clear hB
  obtain ⟨fVW1, fVW2, -, -⟩ := var2_facts VW
  have sVW := var_lt VW
  obtain ⟨fVG1, fVG2, -, -⟩ := var2_facts VG
  have sVG := var_lt VG
  go_wp2_with fail
  refine (eqB _ _ l2 _ X2.rd Y2.rd z2).mono ?_
  rintro e w17 ⟨rfl, hB⟩
  clear fVW1 fVW2 sVW fVG1 fVG2 sVG
  have VW := var_below hB VW
  have VG := var_below hB VG
  have OW := OW.below hB
  have X0 := X0.below hB
  have X1 := X1.below hB
  have X2 := X2.below hB
  have X3 := X3.below hB
  have OG := OG.below hB
  have Y2 := Y2.below hB
  have hBel := hBel.trans (hB.mono (by have := hBel.size; omega))
  clear hB
  obtain ⟨fVW1, fVW2, -, -⟩ := var2_facts VW
  have sVW := var_lt VW
  obtain ⟨fVG1, fVG2, -, -⟩ := var2_facts VG
  have sVG := var_lt VG
  clear Y2
  go_wp2_with fail
  refine (toB _ l3 _ (Z3.out.below hBel) z3).mono ?_
  rintro e w18 ⟨rfl, Y3, hB⟩
  replace Y3 := Y3.x
  have hBel0Y3 := hBel
  clear fVW1 fVW2 sVW fVG1 fVG2 sVG
  have apOWY3 := hid (OW.apart Y3 (by simp))
  have apY3OW := hid (OW.apart2 Y3 (by simp))
  have apX0Y3 := hid (X0.apart Y3 (by simp))
  have apY3X0 := hid (X0.apart2 Y3 (by simp))
  have apX1Y3 := hid (X1.apart Y3 (by simp))
  have apY3X1 := hid (X1.apart2 Y3 (by simp))
  have apX2Y3 := hid (X2.apart Y3 (by simp))
  have apY3X2 := hid (X2.apart2 Y3 (by simp))
  have apX3Y3 := hid (X3.apart Y3 (by simp))
  have apY3X3 := hid (X3.apart2 Y3 (by simp))
  have apOGY3 := hid (OG.apart Y3 (by simp))
  have apY3OG := hid (OG.apart2 Y3 (by simp))
  have neVWY3 := hid (Y3.ne (g := w5.heap.size) (by have := var_lt VW; simp; omega))
  have neVGY3 := hid (Y3.ne (g := w10.heap.size) (by have := var_lt VG; simp; omega))
  have VW := var_below hB VW
  have VG := var_below hB VG
  have OW := OW.below hB
  have X0 := X0.below hB
  have X1 := X1.below hB
  have X2 := X2.below hB
  have X3 := X3.below hB
  have OG := OG.below hB
  have hBel := hBel.trans (hB.mono (by have := hBel.size; omega))
  clear hB
  obtain ⟨fVW1, fVW2, -, -⟩ := var2_facts VW
  have sVW := var_lt VW
  obtain ⟨fVG1, fVG2, -, -⟩ := var2_facts VG
  have sVG := var_lt VG
  go_wp2_with fail
  refine (eqB _ _ l3 _ X3.rd Y3.rd z3).mono ?_
  rintro e w19 ⟨rfl, hB⟩
  clear fVW1 fVW2 sVW fVG1 fVG2 sVG
  have VW := var_below hB VW
  have VG := var_below hB VG
  have OW := OW.below hB
  have X0 := X0.below hB
  have X1 := X1.below hB
  have X2 := X2.below hB
  have X3 := X3.below hB
  have OG := OG.below hB
  have Y3 := Y3.below hB
  have hBel := hBel.trans (hB.mono (by have := hBel.size; omega))
  clear hB
  obtain ⟨fVW1, fVW2, -, -⟩ := var2_facts VW
  have sVW := var_lt VW
  obtain ⟨fVG1, fVG2, -, -⟩ := var2_facts VG
  have sVG := var_lt VG
  clear Y3
  go_wp2_with fail
  refine (markB1x _ l0 _ _ X0 z0).mono ?_
  rintro e w20 ⟨rfl, M0, hG⟩
  clear fVW1 fVW2 sVW fVG1 fVG2 sVG
  have hBg := below_of_grown (B := w.heap.size) hG (by have := hBel.size; omega) (X0.row (by have := hBel0X0.size; first | omega | (simp; omega)))
  have VW := var_grown hG VW neVWX0.out
  have VG := var_grown hG VG neVGX0.out
  have OW := OW.kept hG apOWX0.out
  have X1 := X1.kept hG apX1X0.out
  have X2 := X2.kept hG apX2X0.out
  have X3 := X3.kept hG apX3X0.out
  have OG := OG.kept hG apOGX0.out
  have hBel := hBel.trans hBg
  clear hBg hG
  clear X0
  clear M0
  obtain ⟨fVW1, fVW2, -, -⟩ := var2_facts VW
  have sVW := var_lt VW
  obtain ⟨fVG1, fVG2, -, -⟩ := var2_facts VG
  have sVG := var_lt VG
  go_wp2_with fail
  have MK := markBx _ l1 (1 + l0.length) _ _ X1 z1 (by omega)
  simp only [Int.natCast_add, one_cast] at MK
  refine MK.mono ?_
  rintro e w21 ⟨rfl, M1, hG⟩
  clear MK
  clear fVW1 fVW2 sVW fVG1 fVG2 sVG
  have hBg := below_of_grown (B := w.heap.size) hG (by have := hBel.size; omega) (X1.row (by have := hBel0X1.size; first | omega | (simp; omega)))
  have VW := var_grown hG VW neVWX1.out
  have VG := var_grown hG VG neVGX1.out
  have OW := OW.kept hG apOWX1.out
  have X2 := X2.kept hG apX2X1.out
  have X3 := X3.kept hG apX3X1.out
  have OG := OG.kept hG apOGX1.out
  have hBel := hBel.trans hBg
  clear hBg hG
  clear X1
  clear M1
  obtain ⟨fVW1, fVW2, -, -⟩ := var2_facts VW
  have sVW := var_lt VW
  obtain ⟨fVG1, fVG2, -, -⟩ := var2_facts VG
  have sVG := var_lt VG
  go_wp2_with fail
  have MK := markBx _ l2 (1 + l0.length + l1.length) _ _ X2 z2 (by omega)
  simp only [Int.natCast_add, one_cast] at MK
  refine MK.mono ?_
  rintro e w22 ⟨rfl, M2, hG⟩
  clear MK
  clear fVW1 fVW2 sVW fVG1 fVG2 sVG
  have hBg := below_of_grown (B := w.heap.size) hG (by have := hBel.size; omega) (X2.row (by have := hBel0X2.size; first | omega | (simp; omega)))
  have VW := var_grown hG VW neVWX2.out
  have VG := var_grown hG VG neVGX2.out
  have OW := OW.kept hG apOWX2.out
  have X3 := X3.kept hG apX3X2.out
  have OG := OG.kept hG apOGX2.out
  have hBel := hBel.trans hBg
  clear hBg hG
  clear X2
  clear M2
  obtain ⟨fVW1, fVW2, -, -⟩ := var2_facts VW
  have sVW := var_lt VW
  obtain ⟨fVG1, fVG2, -, -⟩ := var2_facts VG
  have sVG := var_lt VG
  go_wp2_with fail
  have MK := markBx _ l3 (1 + l0.length + l1.length + l2.length) _ _ X3 z3 (by omega)
  simp only [Int.natCast_add, one_cast] at MK
  refine MK.mono ?_
  rintro e w23 ⟨rfl, M3, hG⟩
  clear MK
  clear fVW1 fVW2 sVW fVG1 fVG2 sVG
  have hBg := below_of_grown (B := w.heap.size) hG (by have := hBel.size; omega) (X3.row (by have := hBel0X3.size; first | omega | (simp; omega)))
  have VW := var_grown hG VW neVWX3.out
  have VG := var_grown hG VG neVGX3.out
  have OW := OW.kept hG apOWX3.out
  have OG := OG.kept hG apOGX3.out
  have hBel := hBel.trans hBg
  clear hBg hG
  clear X3
  clear M3
  obtain ⟨fVW1, fVW2, -, -⟩ := var2_facts VW
  have sVW := var_lt VW
  obtain ⟨fVG1, fVG2, -, -⟩ := var2_facts VG
  have sVG := var_lt VG
  have hk0 : decide ((1 : Int) + (l0.length : Int) + (l1.length : Int) + (l2.length : Int) + (l3.length : Int) < 0) = false := decide_eq_false (by omega)
  go_wp2_with fail
  refine (eqBR c _ _ l _ OG.rd OW.rd hl).mono ?_
  rintro e w24 ⟨rfl, hB⟩
  clear fVW1 fVW2 sVW fVG1 fVG2 sVG
  have VW := var_below hB VW
  have VG := var_below hB VG
  have OW := OW.below hB
  have OG := OG.below hB
  have hBel := hBel.trans (hB.mono (by have := hBel.size; omega))
  clear hB
  obtain ⟨fVW1, fVW2, -, -⟩ := var2_facts VW
  have sVW := var_lt VW
  obtain ⟨fVG1, fVG2, -, -⟩ := var2_facts VG
  have sVG := var_lt VG
  clear hk0
  go_wp2_with fail
  refine (markBR1x c _ l _ _ OG hl).mono ?_
  rintro e w25 ⟨rfl, OM, hG⟩
  clear fVW1 fVW2 sVW fVG1 fVG2 sVG
  have hBg := below_of_grown (B := w.heap.size) hG (by have := hBel.size; omega) (OG.row (by have := hBel0OG.size; first | omega | (simp; omega)))
  have VW := var_grown hG VW neVWOG.out
  have VG := var_grown hG VG neVGOG.out
  have OW := OW.kept hG apOWOG.out
  have hBel := hBel.trans hBg
  clear hBg hG
  clear OG
  have apOWOM := apOWOG
  have apOMOW := apOGOW
  obtain ⟨fVW1, fVW2, -, -⟩ := var2_facts VW
  have sVW := var_lt VW
  obtain ⟨fVG1, fVG2, -, -⟩ := var2_facts VG
  have sVG := var_lt VG
  go_wp2_with fail
  refine (heldBR1 c _ l.length _ OM.rd hl).mono ?_
  rintro e w26 ⟨rfl, hB⟩
  clear fVW1 fVW2 sVW fVG1 fVG2 sVG
  have VW := var_below hB VW
  have VG := var_below hB VG
  have OW := OW.below hB
  have OM := OM.below hB
  have hBel := hBel.trans (hB.mono (by have := hBel.size; omega))
  clear hB
  obtain ⟨fVW1, fVW2, -, -⟩ := var2_facts VW
  have sVW := var_lt VW
  obtain ⟨fVG1, fVG2, -, -⟩ := var2_facts VG
  have sVG := var_lt VG
  go_wp2_with fail
  refine (toB _ l0 _ (Z0.out.below hBel) z0).mono ?_
  rintro e w27 ⟨rfl, U0, hB⟩
  replace U0 := U0.x
  have hBel0U0 := hBel
  clear fVW1 fVW2 sVW fVG1 fVG2 sVG
  have apOWU0 := hid (OW.apart U0 (by simp))
  have apU0OW := hid (OW.apart2 U0 (by simp))
  have apOMU0 := hid (OM.apart U0 (by simp))
  have apU0OM := hid (OM.apart2 U0 (by simp))
  have neVWU0 := hid (U0.ne (g := w5.heap.size) (by have := var_lt VW; simp; omega))
  have neVGU0 := hid (U0.ne (g := w10.heap.size) (by have := var_lt VG; simp; omega))
  have VW := var_below hB VW
  have VG := var_below hB VG
  have OW := OW.below hB
  have OM := OM.below hB
  have hBel := hBel.trans (hB.mono (by have := hBel.size; omega))
  clear hB
  obtain ⟨fVW1, fVW2, -, -⟩ := var2_facts VW
  have sVW := var_lt VW
  obtain ⟨fVG1, fVG2, -, -⟩ := var2_facts VG
  have sVG := var_lt VG
  go_wp2_with fail
  refine (toB _ l1 _ (Z1.out.below hBel) z1).mono ?_
  rintro e w28 ⟨rfl, U1, hB⟩
  replace U1 := U1.x
  have hBel0U1 := hBel
  clear fVW1 fVW2 sVW fVG1 fVG2 sVG
  have apOWU1 := hid (OW.apart U1 (by simp))
  have apU1OW := hid (OW.apart2 U1 (by simp))
  have apOMU1 := hid (OM.apart U1 (by simp))
  have apU1OM := hid (OM.apart2 U1 (by simp))
  have apU0U1 := hid (U0.apart U1 (by simp))
  have apU1U0 := hid (U0.apart2 U1 (by simp))
  have neVWU1 := hid (U1.ne (g := w5.heap.size) (by have := var_lt VW; simp; omega))
  have neVGU1 := hid (U1.ne (g := w10.heap.size) (by have := var_lt VG; simp; omega))
  have VW := var_below hB VW
  have VG := var_below hB VG
  have OW := OW.below hB
  have OM := OM.below hB
  have U0 := U0.below hB
  have hBel := hBel.trans (hB.mono (by have := hBel.size; omega))
  clear hB
  obtain ⟨fVW1, fVW2, -, -⟩ := var2_facts VW
  have sVW := var_lt VW
  obtain ⟨fVG1, fVG2, -, -⟩ := var2_facts VG
  have sVG := var_lt VG
  go_wp2_with fail
  refine (toB _ l2 _ (Z2.out.below hBel) z2).mono ?_
  rintro e w29 ⟨rfl, U2, hB⟩
  replace U2 := U2.x
  have hBel0U2 := hBel
  clear fVW1 fVW2 sVW fVG1 fVG2 sVG
  have apOWU2 := hid (OW.apart U2 (by simp))
  have apU2OW := hid (OW.apart2 U2 (by simp))
  have apOMU2 := hid (OM.apart U2 (by simp))
  have apU2OM := hid (OM.apart2 U2 (by simp))
  have apU0U2 := hid (U0.apart U2 (by simp))
  have apU2U0 := hid (U0.apart2 U2 (by simp))
  have apU1U2 := hid (U1.apart U2 (by simp))
  have apU2U1 := hid (U1.apart2 U2 (by simp))
  have neVWU2 := hid (U2.ne (g := w5.heap.size) (by have := var_lt VW; simp; omega))
  have neVGU2 := hid (U2.ne (g := w10.heap.size) (by have := var_lt VG; simp; omega))
  have VW := var_below hB VW
  have VG := var_below hB VG
  have OW := OW.below hB
  have OM := OM.below hB
  have U0 := U0.below hB
  have U1 := U1.below hB
  have hBel := hBel.trans (hB.mono (by have := hBel.size; omega))
  clear hB
  obtain ⟨fVW1, fVW2, -, -⟩ := var2_facts VW
  have sVW := var_lt VW
  obtain ⟨fVG1, fVG2, -, -⟩ := var2_facts VG
  have sVG := var_lt VG
  go_wp2_with fail
  refine (toB _ l3 _ (Z3.out.below hBel) z3).mono ?_
  rintro e w30 ⟨rfl, U3, hB⟩
  replace U3 := U3.x
  have hBel0U3 := hBel
  clear fVW1 fVW2 sVW fVG1 fVG2 sVG
  have apOWU3 := hid (OW.apart U3 (by simp))
  have apU3OW := hid (OW.apart2 U3 (by simp))
  have apOMU3 := hid (OM.apart U3 (by simp))
  have apU3OM := hid (OM.apart2 U3 (by simp))
  have apU0U3 := hid (U0.apart U3 (by simp))
  have apU3U0 := hid (U0.apart2 U3 (by simp))
  have apU1U3 := hid (U1.apart U3 (by simp))
  have apU3U1 := hid (U1.apart2 U3 (by simp))
  have apU2U3 := hid (U2.apart U3 (by simp))
  have apU3U2 := hid (U2.apart2 U3 (by simp))
  have neVWU3 := hid (U3.ne (g := w5.heap.size) (by have := var_lt VW; simp; omega))
  have neVGU3 := hid (U3.ne (g := w10.heap.size) (by have := var_lt VG; simp; omega))
  have VW := var_below hB VW
  have VG := var_below hB VG
  have OW := OW.below hB
  have OM := OM.below hB
  have U0 := U0.below hB
  have U1 := U1.below hB
  have U2 := U2.below hB
  have hBel := hBel.trans (hB.mono (by have := hBel.size; omega))
  clear hB
  obtain ⟨fVW1, fVW2, -, -⟩ := var2_facts VW
  have sVW := var_lt VW
  obtain ⟨fVG1, fVG2, -, -⟩ := var2_facts VG
  have sVG := var_lt VG
  go_wp2_with fail
  refine (IP.out _ _ _ _ _ U0.rd U1.rd U2.rd U3.rd).mono ?_
  rintro e w31 ⟨v, rfl, OH, hB⟩
  obtain ⟨qOH, cOH, rfl, -, -, -⟩ := OH.rd.parts
  have hBel0OH := hBel
  clear fVW1 fVW2 sVW fVG1 fVG2 sVG
  have apOWOH := hid (OW.apart OH (by simp))
  have apOHOW := hid (OW.apart2 OH (by simp))
  have apOMOH := hid (OM.apart OH (by simp))
  have apOHOM := hid (OM.apart2 OH (by simp))
  have apU0OH := hid (U0.apart OH (by simp))
  have apOHU0 := hid (U0.apart2 OH (by simp))
  have apU1OH := hid (U1.apart OH (by simp))
  have apOHU1 := hid (U1.apart2 OH (by simp))
  have apU2OH := hid (U2.apart OH (by simp))
  have apOHU2 := hid (U2.apart2 OH (by simp))
  have apU3OH := hid (U3.apart OH (by simp))
  have apOHU3 := hid (U3.apart2 OH (by simp))
  have neVWOH := hid (OH.ne (g := w5.heap.size) (by have := var_lt VW; simp; omega))
  have neVGOH := hid (OH.ne (g := w10.heap.size) (by have := var_lt VG; simp; omega))
  have VW := var_below hB VW
  have VG := var_below hB VG
  have OW := OW.below hB
  have OM := OM.below hB
  have U0 := U0.below hB
  have U1 := U1.below hB
  have U2 := U2.below hB
  have U3 := U3.below hB
  have hBel := hBel.trans (hB.mono (by have := hBel.size; omega))
  clear hB
  obtain ⟨fVW1, fVW2, -, -⟩ := var2_facts VW
  have sVW := var_lt VW
  obtain ⟨fVG1, fVG2, -, -⟩ := var2_facts VG
  have sVG := var_lt VG
  clear U0
  clear U1
  clear U2
  clear U3
  go_wp2_with fail
  refine (eqBR c _ _ l _ (OH.below (below_alloc1 w31 _)).rd (OW.below (below_alloc1 w31 _)).rd hl).mono ?_
  rintro e w32 ⟨rfl, hB⟩
  clear fVW1 fVW2 sVW fVG1 fVG2 sVG
  have neVHOW := hid (OW.ne_new (b := w31.heap.size) (Nat.le_refl _))
  have neVHOM := hid (OM.ne_new (b := w31.heap.size) (Nat.le_refl _))
  have neVHOH := hid (OH.ne_new (b := w31.heap.size) (Nat.le_refl _))
  have VH := var_below hB (heap_alloc_new w31 (.cells #[.int .i64 c, .slice qOH l.length cOH] 24))
  have hB := (below_alloc1 w31 _).trans (hB.mono (by simp))
  have VW := var_below hB VW
  have VG := var_below hB VG
  have OW := OW.below hB
  have OM := OM.below hB
  have OH := OH.below hB
  have hBel := hBel.trans (hB.mono (by have := hBel.size; omega))
  clear hB
  obtain ⟨fVW1, fVW2, -, -⟩ := var2_facts VW
  have sVW := var_lt VW
  obtain ⟨fVG1, fVG2, -, -⟩ := var2_facts VG
  have sVG := var_lt VG
  obtain ⟨fVH1, fVH2, -, -⟩ := var2_facts VH
  have sVH := var_lt VH
  go_wp2_with fail
  refine (heldBR1 c _ l.length _ OM.rd hl).mono ?_
  rintro e w33 ⟨rfl, hB⟩
  clear fVW1 fVW2 sVW fVG1 fVG2 sVG fVH1 fVH2 sVH
  have VW := var_below hB VW
  have VG := var_below hB VG
  have VH := var_below hB VH
  have OW := OW.below hB
  have OM := OM.below hB
  have OH := OH.below hB
  have hBel := hBel.trans (hB.mono (by have := hBel.size; omega))
  clear hB
  obtain ⟨fVW1, fVW2, -, -⟩ := var2_facts VW
  have sVW := var_lt VW
  obtain ⟨fVG1, fVG2, -, -⟩ := var2_facts VG
  have sVG := var_lt VG
  obtain ⟨fVH1, fVH2, -, -⟩ := var2_facts VH
  have sVH := var_lt VH
  go_wp2
  go_ret
  exact ⟨rfl, hBel⟩
end Go.Proofs.Ytflnhjbanlpjiai.W

namespace Go.Proofs.Ytflnhjbanlpjiai.W
open Go.ChangeShapes Go.WideShapes Go.ChangeAt Go.RowKit
open Go.Proofs.Ytflnhjbanlpjiai.M

theorem run_app (ty : TypeId) (v u : Value) (l m : List Nat) (base : Nat) (w : World) (hv : Own w base v l) (hu : Rd w u m) (hl : l.length + m.length ≤ 4194304) (hb : base ≤ w.heap.size) :
    ∃ v' w', (Builtin.append_ #[22, 22] ty #[v, u]).run Try.prog w = .ok v' w' ∧ Own w' base v' (l ++ m) ∧ w.grownBy w' v.ownBlock := by
  obtain ⟨i0, hi, hz0, hz1, hz2⟩ := info_parts info8
  obtain ⟨a, cap, rfl, -, -, hc⟩ := hu.parts
  cases a with
  | some ad =>
    obtain ⟨b, o, spot⟩ := ad
    by_cases hm : m.length = 0
    · obtain rfl := List.eq_nil_of_length_eq_zero hm
      obtain ⟨v', w', hr, h2, h3, -⟩ := run_append_own (P := Try.prog) w base 22 ty 5 i0 (.int .u8 0) 1 1 Try.underlying22 hi hz0 hz1 hz2 rfl (by omega) v l.length (l.map bv) hv ⟨b, o, spot⟩ 0 cap [] rfl (fun j u h => by simp at h) (fun u h => by simp at h) (by unfold maxLen; simp at hl; omega) (by simp at hl; omega) hb
      refine ⟨v', w', hr, ?_, h3⟩
      rw [List.append_nil] at h2 ⊢
      exact h2
    · obtain ⟨b', o', e, -⟩ := hc 0 (by omega)
      simp only [Option.some.injEq, Addr.mk.injEq] at e
      obtain ⟨rfl, rfl, rfl⟩ := e
      obtain ⟨v', w', hr, h2, h3, -⟩ := run_append_own (P := Try.prog) w base 22 ty 5 i0 (.int .u8 0) 1 1 Try.underlying22 hi hz0 hz1 hz2 rfl (by omega) v l.length (l.map bv) hv ⟨b, o, none⟩ m.length cap (m.map bv) (by simp) (fun j u h => by
          have hj : j < m.length := by
            rcases Nat.lt_or_ge j m.length with q | q
            · exact q
            · rw [List.getElem?_eq_none (by simpa using q)] at h; cases h
          rw [List.getElem?_map, List.getElem?_eq_getElem hj] at h
          cases h
          obtain ⟨b', o', e, hcc⟩ := hc j hj
          cases e
          rw [Addr.add_lit]
          exact hcc) (fun u h => by obtain ⟨x, _, rfl⟩ := List.mem_map.1 h; rfl) (by unfold maxLen; omega) (by omega) hb
      refine ⟨v', w', hr, ?_, h3⟩
      unfold Own
      rw [List.length_append, List.map_append]
      exact h2
  | none =>
    have hm : m = [] := by
      cases m with
      | nil => rfl
      | cons x t => obtain ⟨b, o, e, -⟩ := hc 0 (by simp); cases e
    subst hm
    refine ⟨v, w, ?_, by rw [List.append_nil]; exact hv, World.grownBy.refl _ _⟩
    rcases hv.2 with ⟨rfl, h0⟩ | ⟨g, c, cur, rfl, -, -, hn, -⟩
    · simp [Builtin.append_, run_underlying Try.underlying22, sizeOf, typeInfo, hi, Builtin.lenOf, Builtin.firstCells]
    · simp [Builtin.append_, run_underlying Try.underlying22, sizeOf, typeInfo, hi, Builtin.lenOf, Builtin.firstCells, hn, storeCells]
theorem wp_app {o : Oper} {a : Act} {w : World} {K : Act → World → Prop} {Q : Exit → Act → World → Prop} (s x : Operand)
    (ho : o.op = .call { callee := .builtin .append, args := #[s, x], argTypes := #[22, 22] }) (v u : Value) (l m : List Nat) (base : Nat) (hs : a.eval s = v) (hx : a.eval x = u) (hv : Own w base v l) (hu : Rd w u m) (hl : l.length + m.length ≤ 4194304) (hb : base ≤ w.heap.size)
    (h : ∀ v' w', Own w' base v' (l ++ m) → w.grownBy w' v.ownBlock → K (a.put o.dst v') w') : o.wp Try.prog a w K Q := by
  obtain ⟨v', w', hr, h2, h3⟩ := run_app o.type v u l m base w hv hu hl hb
  unfold Oper.wp execOp
  simp only [ho, resolve, invoke, builtin, Sem.run_bind, Sem.run_pure, Result.andThen_ok, List.map_toArray, List.map_cons, List.map_nil, hs, hx, hr]
  exact h v' w' h2 h3
theorem list_app {ops : Array Oper} {rest : List Oper} {o : Oper} {a : Act} {w : World} {Q : Exit → Act → World → Prop} (hgd : o.guard = none) (s x : Operand)
    (ho : o.op = .call { callee := .builtin .append, args := #[s, x], argTypes := #[22, 22] }) (v u : Value) (l m : List Nat) (base : Nat) (hs : a.eval s = v) (hx : a.eval x = u) (hv : Own w base v l) (hu : Rd w u m) (hl : l.length + m.length ≤ 4194304) (hb : base ≤ w.heap.size)
    (h : ∀ v' w', Own w' base v' (l ++ m) → w.grownBy w' v.ownBlock → wpList Try.prog ops Q rest (a.put o.dst v') w') : wpList Try.prog ops Q (o :: rest) a w :=
  wpList_plain hgd fun _ hK => wp_app s x ho v u l m base hs hx hv hu hl hb fun v' w' h2 h3 => hK _ _ (h v' w' h2 h3)
theorem step_app {ops : Array Oper} {o : Oper} {a : Act} {w : World} {K : Act → World → Prop} {Q : Exit → Act → World → Prop} {E : Prop} (hgd : o.guard = none) (s x : Operand)
    (ho : o.op = .call { callee := .builtin .append, args := #[s, x], argTypes := #[22, 22] }) (v u : Value) (l m : List Nat) (base : Nat) (hs : a.eval s = v) (hx : a.eval x = u) (hv : Own w base v l) (hu : Rd w u m) (hl : l.length + m.length ≤ 4194304) (hb : base ≤ w.heap.size)
    (h : ∀ v' w', Own w' base v' (l ++ m) → w.grownBy w' v.ownBlock → K (a.put o.dst v') w') : if Region.wanted o (yielded ops a.tmps) = true then Oper.wp Try.prog o a w K Q else E := by
  have hw : Region.wanted o (yielded ops a.tmps) = true := by simp [Region.wanted, hgd]
  rw [if_pos hw]
  exact wp_app s x ho v u l m base hs hx hv hu hl hb h
end Go.Proofs.Ytflnhjbanlpjiai.W

namespace Go.Proofs.Ytflnhjbanlpjiai.W
open Go.ChangeShapes Go.WideShapes Go.ChangeAt Go.RowKit
open Go.Proofs.Ytflnhjbanlpjiai.M

theorem rd_piece {w : World} {b o n cap : Nat} {l : List Nat} (h : Rd w (.slice (some ⟨b, o, none⟩) n cap) l) (k t : Nat) (hk : k + t ≤ l.length) : Rd w (.slice (some ⟨b, o + k, none⟩) t (cap - k)) (sub l k t) := by
  obtain ⟨a, c, e, h1, h2, hc⟩ := h
  have hl := sub_len l k t hk
  cases e
  refine ⟨some ⟨b, o + k, none⟩, cap - k, by rw [hl], by omega, by omega, fun i hi => ?_⟩
  rw [hl] at hi
  obtain ⟨b', o', e', hcc⟩ := hc (k + i) (by omega)
  cases e'
  refine ⟨b, o + k, rfl, ?_⟩
  rw [Nat.add_assoc, hcc]
  simp [sub]
theorem sub_drop (l : List Nat) (k : Nat) (n : Nat) (h : k + n = l.length) : sub l k n = l.drop k := by
  unfold sub
  rw [List.take_of_length_le (by simp; omega)]
theorem sub_take (l : List Nat) (n : Nat) : sub l 0 n = l.take n := by simp [sub]
/-- s[k:] -/
theorem run_from (b o n c k : Nat) (hk : k ≤ n) (hc : k < c) (w : World) :
    (Instr.slice 22 (.slice (some ⟨b, o, none⟩) n c) (some (.int .i64 (k : Int))) none none).run Try.prog w = .ok (.slice (some ⟨b, o + k, none⟩) (n - k) (c - k)) w := by
  have hs : ∀ w : World, (sizeOf (Try.prog.elem 22)).run Try.prog w = .ok 1 w := fun _ => by kernel_rfl
  have h := run_slice_l (P := Try.prog) (t := 22) (a := some ⟨b, o, none⟩) (len := n) (cap := c) (w := w) (by kernel_rfl) .i64 (k : Int) (by omega) (by omega)
  rw [h, hs]
  simp [Result.andThen, sliced, Addr.add_lit, show ¬ c = k by omega]
/-- s[:k] -/
theorem run_upto (b o n c k : Nat) (hk : k ≤ c) (hc : 0 < c) (w : World) :
    (Instr.slice 22 (.slice (some ⟨b, o, none⟩) n c) none (some (.int .i64 (k : Int))) none).run Try.prog w = .ok (.slice (some ⟨b, o, none⟩) k c) w := by
  have hs : ∀ w : World, (sizeOf (Try.prog.elem 22)).run Try.prog w = .ok 1 w := fun _ => by kernel_rfl
  have h := run_slice_h (P := Try.prog) (t := 22) (a := some ⟨b, o, none⟩) (len := n) (cap := c) (w := w) (by kernel_rfl) .i64 (k : Int) (by omega) (by omega)
  rw [h, hs]
  simp [Result.andThen, sliced, Addr.add_lit, show ¬ c = 0 by omega]
/-- s[k:k+t] -/
theorem run_piece (b o n c k t : Nat) (hk : k + t ≤ c) (hc : k < c) (w : World) :
    (Instr.slice 22 (.slice (some ⟨b, o, none⟩) n c) (some (.int .i64 (k : Int))) (some (.int .i64 ((k + t : Nat) : Int))) none).run Try.prog w = .ok (.slice (some ⟨b, o + k, none⟩) t (c - k)) w := by
  have hs : ∀ w : World, (sizeOf (Try.prog.elem 22)).run Try.prog w = .ok 1 w := fun _ => by kernel_rfl
  have h := run_slice_lh (P := Try.prog) (t := 22) (a := some ⟨b, o, none⟩) (len := n) (cap := c) (w := w) (by kernel_rfl) .i64 .i64 (k : Int) ((k + t : Nat) : Int) (by omega) (by omega) (by omega)
  rw [h, hs]
  simp [Result.andThen, sliced, Addr.add_lit, show ¬ c = k by omega]
  omega
end Go.Proofs.Ytflnhjbanlpjiai.W

namespace Go.Proofs.Ytflnhjbanlpjiai.M
open Go.RowKit

/-- The number n in s bytes, the highest one first. -/
def packL (n s : Nat) : List Nat := (List.range s).map fun i => n / 256 ^ (s - 1 - i) % 256
theorem packL_len (n s : Nat) : (packL n s).length = s := by simp [packL]
theorem packL_at (n s i : Nat) (h : i < (packL n s).length) : (packL n s)[i] = n / 256 ^ (s - 1 - i) % 256 := by simp [packL]
theorem packL_byt (n s : Nat) : Byt (packL n s) := by
  intro x hx
  simp only [packL, List.mem_map] at hx
  obtain ⟨i, _, rfl⟩ := hx
  omega
/-- From place j on it is packed. -/
def packed (n s j : Nat) : List Nat := List.replicate j 0 ++ (packL n s).drop j
theorem packed_len (n s j : Nat) (h : j ≤ s) : (packed n s j).length = s := by simp [packed, packL_len]; omega
theorem packed_zero (n s : Nat) : packed n s 0 = packL n s := by simp [packed]
theorem packed_all (n s : Nat) : packed n s s = List.replicate s 0 := by simp [packed, packL_len]
theorem packed_set (n s j : Nat) (h : j < s) : (packed n s (j + 1)).set j (n / 256 ^ (s - (j + 1)) % 256) = packed n s j := by
  unfold packed
  have hl : j < (packL n s).length := by rw [packL_len]; exact h
  have e1 : List.replicate (j + 1) 0 = List.replicate j 0 ++ [0] := by rw [List.replicate_succ']
  rw [List.drop_eq_getElem_cons hl, packL_at, e1, List.append_assoc, List.singleton_append, List.set_append_right _ _ (by simp), List.length_replicate, Nat.sub_self, List.set_cons_zero, show s - 1 - j = s - (j + 1) by omega]
theorem quot_step (n k : Nat) : n / 256 ^ k / 256 = n / 256 ^ (k + 1) := by rw [Nat.div_div_eq_div_mul, Nat.pow_succ]
/-- What PackWord tells: its code, its bytes. -/
def packOk (n s : Int) : Bool := decide ((1 ≤ s ∧ s ≤ 8) ∧ 0 ≤ n ∧ n < 256 ^ s.toNat)
def packC (n s : Int) : Int := if packOk n s then 0 else 3
def packB (n s : Int) : List Nat := if packOk n s then packL n.toNat s.toNat else []
theorem packB_len (n s : Int) : (packB n s).length ≤ 8 := by
  unfold packB
  split
  · rename_i h
    simp only [packOk, decide_eq_true_eq] at h
    rw [packL_len]; omega
  · simp
theorem packB_byt (n s : Int) : Byt (packB n s) := by
  unfold packB
  split
  · exact packL_byt _ _
  · intro x hx; simp at hx
end Go.Proofs.Ytflnhjbanlpjiai.M

namespace Go.Proofs.Ytflnhjbanlpjiai.W
open Go.ChangeShapes Go.WideShapes Go.ChangeAt Go.RowKit
open Go.Proofs.Ytflnhjbanlpjiai.M

set_option maxRecDepth 100000 in
theorem l1pack (n s : Nat) (w : World) (hs1 : 1 ≤ s) (hs : s ≤ 8) (hn : n < 9223372036854775808) :
    Calls Try.prog 44 #[.int .i64 (n : Int), .int .i64 (s : Int)] w fun e w' => e = .returned (.slice (some ⟨w.heap.size, 0, none⟩) s s) ∧ Own w' w.heap.size (.slice (some ⟨w.heap.size, 0, none⟩) s s) (packL n s) ∧ Below w.heap.size w w' := by
  obtain ⟨i0, hi, hz0, hz1, hz2⟩ := info_parts info8
  go_enter Try.func44, Try.ntmps44
  go_wp2_with (at_make; refine wpList_make_full _ rfl _ _ 22 rfl w.heap.size 5 i0 (.int .u8 0) 1 Try.underlying22 hi hz0 hz1 .i64 .i64 _ _ s rfl rfl rfl rfl (by rw [hz2]; omega) (by unfold maxLen; omega) (Nat.le_refl _) ?_; intro w0 hown0 hgrow0)
  have hown1 := own_made w w0 s hown0
  have hb0 := below_of_grown hgrow0 (Nat.le_refl _) (fun k hk => by simp at hk)
  clear hown0 hgrow0 hi hz0 hz1 hz2
  go_loopw [0, 6] (fun nn i wr => ∃ j : Nat, j ≤ s ∧ i = .int .i64 ((j : Int) - 1) ∧ nn = .int .i64 (n / 256 ^ (s - j) : Nat) ∧ Own wr w.heap.size (.slice (some ⟨w.heap.size, 0, none⟩) s s) (packed n s j) ∧ Below w.heap.size w wr) (fun _ i _ => (intOf i + 1).toNat)
  case atStart => exact ⟨s, by omega, rfl, by simp, by rw [packed_all]; exact hown1, hb0⟩
  case round =>
    obtain ⟨j, hj, rfl, rfl, hown, hb⟩ := hrel
    by_cases hlt : 0 < j
    · obtain ⟨t, rfl⟩ : ∃ t, j = t + 1 := ⟨j - 1, by omega⟩
      have et : ((t + 1 : Nat) : Int) - 1 = (t : Int) := by omega
      rw [et]
      have hl1 := packed_len n s (t + 1) hj
      have hc2 : ∃ u, wr.cell? ⟨w.heap.size, t, none⟩ = some u := ⟨_, hown.cell hl1 t (by omega)⟩
      obtain ⟨u, hc2⟩ := hc2
      have hf2 := hown.open hl1 t
      have hs2 := hown.stored hl1 t (n / 256 ^ (s - (t + 1)) % 256)
      rw [packed_set n s t (by omega)] at hs2
      have hb2 := hb.setCell (p := ⟨w.heap.size, t, none⟩) (Nat.le_refl _) (bv (n / 256 ^ (s - (t + 1)) % 256))
      have hx : n / 256 ^ (s - (t + 1)) < 9223372036854775808 := Nat.lt_of_le_of_lt (Nat.div_le_self _ _) hn
      have Hq : Hid (n / 256 ^ (s - t) = n / 256 ^ (s - (t + 1)) / 256) := by unfold Hid; rw [quot_step, show s - (t + 1) + 1 = s - t by omega]
      generalize n / 256 ^ (s - (t + 1)) = x at *
      unfold bv at hs2 hb2
      have e : ((x % 256 : Nat) : Int) = (x : Int) % 256 := by omega
      rw [e] at hs2 hb2
      clear hown hb e et
      go_wp2
      go_roundw
      case rel => exact ⟨t, by omega, rfl, by rw [Hq.out]; rfl, hs2.1, hb2⟩
      case measure => simp [intOf]
    · have hk8 : j = 0 := by omega
      subst hk8
      rw [packed_zero] at hown
      go_wp2
      go_ret
      exact ⟨rfl, hown, hb⟩
end Go.Proofs.Ytflnhjbanlpjiai.W

namespace Go.Proofs.Ytflnhjbanlpjiai.M
open Go.RowKit

/-- The number that k bytes of l tell from place 'at' on, the highest one first. -/
def vt (l : List Nat) (a : Nat) : Nat → Nat
  | 0 => 0
  | k + 1 => vt l a k * 256 + l.getD (a + k) 0
theorem getD_lt (l : List Nat) (h : Byt l) (i : Nat) : l.getD i 0 < 256 := by
  rw [List.getD_eq_getElem?_getD]
  by_cases hi : i < l.length
  · rw [List.getElem?_eq_getElem hi]; exact h.at i hi
  · rw [List.getElem?_eq_none (by omega)]; decide
theorem getD_at (l : List Nat) (i : Nat) (h : i < l.length) : l.getD i 0 = l[i] := by
  rw [List.getD_eq_getElem?_getD, List.getElem?_eq_getElem h]; rfl
theorem vt_lt (l : List Nat) (h : Byt l) (a : Nat) : ∀ k, vt l a k < 256 ^ k
  | 0 => by simp [vt]
  | k + 1 => by
    have h1 := vt_lt l h a k
    have h2 := getD_lt l h (a + k)
    rw [vt, Nat.pow_succ]
    omega
theorem vt_top (l : List Nat) (a : Nat) : ∀ k, vt l a (k + 1) = l.getD a 0 * 256 ^ k + vt l (a + 1) k
  | 0 => by simp [vt]
  | k + 1 => by
    have ih := vt_top l a k
    rw [vt, ih, vt, Nat.pow_succ, show a + (k + 1) = a + 1 + k by omega]
    rw [Nat.add_mul, Nat.mul_assoc]
    omega
theorem pow256 : (256 : Nat) ^ 6 = 281474976710656 ∧ (256 : Nat) ^ 7 = 72057594037927936 ∧ (256 : Nat) ^ 8 = 18446744073709551616 := by decide
theorem vt_mono (k m : Nat) (h : k ≤ m) : (256 : Nat) ^ k ≤ 256 ^ m := Nat.pow_le_pow_right (by omega) h
/-- Ahead of the eighth byte alone there may be too much. -/
theorem vt_small (l : List Nat) (h : Byt l) (a k : Nat) (hk : k ≤ 6) : vt l a k < 36028797018963968 := by
  have h1 := vt_lt l h a k
  have h2 := vt_mono k 6 hk
  have h3 := pow256.1
  omega
theorem vt_seven (l : List Nat) (h : Byt l) (a : Nat) : 36028797018963968 ≤ vt l a 7 ↔ 127 < l.getD a 0 := by
  have h1 : vt l a 7 = l.getD a 0 * 256 ^ 6 + vt l (a + 1) 6 := vt_top l a 6
  have h2 := vt_lt l h (a + 1) 6
  rw [pow256.1] at h1 h2
  omega
theorem vt_fits (l : List Nat) (h : Byt l) (a k : Nat) (hk : k ≤ 8) (hf : ¬ (k = 8 ∧ 127 < l.getD a 0)) : vt l a k < 9223372036854775808 := by
  by_cases e : k = 8
  · subst e
    have h1 : ¬ 36028797018963968 ≤ vt l a 7 := fun q => hf ⟨rfl, (vt_seven l h a).1 q⟩
    have h2 := getD_lt l h (a + 7)
    have h3 : vt l a 8 = vt l a 7 * 256 + l.getD (a + 7) 0 := rfl
    omega
  · have h1 := vt_lt l h a k
    have h2 := vt_mono k 7 (by omega)
    have h3 := pow256.2.1
    omega
/-- What ReadWord tells: its code, its value. -/
def rdOk (l : List Nat) (a s : Int) : Bool := decide ((1 ≤ s ∧ s ≤ 8) ∧ 0 ≤ a ∧ a ≤ (l.length : Int) - s)
def rdC (l : List Nat) (a s : Int) : Int := if rdOk l a s then (if s = 8 ∧ 127 < l.getD a.toNat 0 then 1 else 0) else 3
def rdV (l : List Nat) (a s : Int) : Int := if rdOk l a s then (if s = 8 ∧ 127 < l.getD a.toNat 0 then 0 else (vt l a.toNat s.toNat : Nat)) else 0
end Go.Proofs.Ytflnhjbanlpjiai.M

namespace Go.Proofs.Ytflnhjbanlpjiai.W
open Go.ChangeShapes Go.WideShapes Go.ChangeAt Go.RowKit
open Go.Proofs.Ytflnhjbanlpjiai.M

set_option maxRecDepth 100000 in
theorem l1read (v : Value) (l : List Nat) (a s : Nat) (w : World) (h : Rd w v l) (y : Byt l) (hs : s ≤ 8) (ha : a + s ≤ l.length) (hf : ¬ (s = 8 ∧ 127 < l.getD a 0)) (hm : l.length ≤ 1048576) :
    Calls Try.prog 42 #[v, .int .i64 (a : Int), .int .i64 (s : Int)] w fun e w' => e = .returned (.int .i64 (vt l a s : Nat)) ∧ w' = w := by
  obtain ⟨p, cap, rfl, _, _, hcs⟩ := h.parts
  have HC := hid hcs
  have HF := hid hf
  clear h hcs hf
  go_enter Try.func42, Try.ntmps42
  go_wp2
  go_loop [7, 8] (fun n i => ∃ k : Nat, k ≤ s ∧ i = .int .i64 k ∧ n = .int .i64 (vt l a k : Nat)) (fun _ i => s - (intOf i).toNat)
  case atStart => exact ⟨0, by omega, rfl, rfl⟩
  case round =>
    obtain ⟨k, hk, rfl, rfl⟩ := hrel
    by_cases hlt : k < s
    · obtain ⟨b, o, rfl, hc⟩ := HC.out (a + k) (by omega)
      have E1 := hid (show vt l a (k + 1) = vt l a k * 256 + l[a + k]'(by omega) by rw [vt, getD_at])
      have b1 : vt l a (k + 1) < 9223372036854775808 := vt_fits l y a (k + 1) (by omega) (fun q => HF.out ⟨by omega, q.2⟩)
      rw [E1.out] at b1
      have b2 := y.at (a + k) (by omega)
      unfold bv at hc
      generalize l[a + k] = x at *
      generalize vt l a k = n at *
      clear HC
      go_wp2
      exact ⟨⟨k + 1, by omega, by go_num, by rw [E1.out]; go_num⟩, by simp [intOf]; omega⟩
    · have hk8 : k = s := by omega
      subst hk8
      go_wp2
      go_ret
      exact ⟨rfl, rfl⟩
end Go.Proofs.Ytflnhjbanlpjiai.W

namespace Go.Proofs.Ytflnhjbanlpjiai.M
open Go.RowKit

/-- A block counted up. -/
def cu (l : List Nat) : List Nat := l.take 12 ++ packL ((vt l 12 4 + 1) % 4294967296) 4
theorem cu_len (l : List Nat) (hl : l.length = 16) : (cu l).length = 16 := by simp [cu, packL_len, hl]
theorem cu_byt (l : List Nat) (y : Byt l) : Byt (cu l) := by
  intro x hx
  rcases List.mem_append.1 hx with h | h
  · exact y x (List.mem_of_mem_take h)
  · exact packL_byt _ _ x h
/-- The last n bytes are zeros. -/
def zd (l : List Nat) (n : Nat) : List Nat := l.take (16 - n) ++ List.replicate n 0
theorem zd_len (l : List Nat) (hl : l.length = 16) (n : Nat) (hn : n ≤ 16) : (zd l n).length = 16 := by simp [zd, hl]; omega
theorem zd_zero (l : List Nat) (hl : l.length = 16) : zd l 0 = l := by simp [zd, ← hl]
theorem list16 (l : List Nat) (h : l.length = 16) : ∃ a0 a1 a2 a3 a4 a5 a6 a7 a8 a9 b0 b1 b2 b3 b4 b5, l = [a0, a1, a2, a3, a4, a5, a6, a7, a8, a9, b0, b1, b2, b3, b4, b5] := by
  match l, h with
  | [a0, a1, a2, a3, a4, a5, a6, a7, a8, a9, b0, b1, b2, b3, b4, b5], _ => exact ⟨a0, a1, a2, a3, a4, a5, a6, a7, a8, a9, b0, b1, b2, b3, b4, b5, rfl⟩
theorem zd_gt (l : List Nat) (hl : l.length = 16) (n : Nat) (hn : n < 16) : gt (zd l n) (15 - n) = gt l (15 - n) := by
  unfold zd gt
  rw [List.getD_eq_getElem?_getD, List.getD_eq_getElem?_getD, List.getElem?_append_left (by simp [hl]; omega), List.getElem?_take, if_pos (by omega)]
theorem zd_set (l : List Nat) (hl : l.length = 16) (n : Nat) (hn : n < 4) : (zd l n).set (15 - n) 0 = zd l (n + 1) := by
  obtain ⟨a0, a1, a2, a3, a4, a5, a6, a7, a8, a9, b0, b1, b2, b3, b4, b5, rfl⟩ := list16 l hl
  match n, hn with
  | 0, _ | 1, _ | 2, _ | 3, _ => rfl
theorem cu_explicit (a0 a1 a2 a3 a4 a5 a6 a7 a8 a9 b0 b1 b2 b3 b4 b5 : Nat) :
    cu [a0, a1, a2, a3, a4, a5, a6, a7, a8, a9, b0, b1, b2, b3, b4, b5] = [a0, a1, a2, a3, a4, a5, a6, a7, a8, a9, b0, b1, ((((b2 * 256 + b3) * 256 + b4) * 256 + b5 + 1) % 4294967296) / 16777216 % 256, ((((b2 * 256 + b3) * 256 + b4) * 256 + b5 + 1) % 4294967296) / 65536 % 256, ((((b2 * 256 + b3) * 256 + b4) * 256 + b5 + 1) % 4294967296) / 256 % 256, ((((b2 * 256 + b3) * 256 + b4) * 256 + b5 + 1) % 4294967296) % 256] := by
  have e : vt [a0, a1, a2, a3, a4, a5, a6, a7, a8, a9, b0, b1, b2, b3, b4, b5] 12 4 = ((b2 * 256 + b3) * 256 + b4) * 256 + b5 := by
    simp [vt]
  unfold cu
  rw [e]
  generalize (((b2 * 256 + b3) * 256 + b4) * 256 + b5 + 1) % 4294967296 = m
  simp [packL, List.range_succ]
theorem cu_stop (l : List Nat) (hl : l.length = 16) (y : Byt l) (n : Nat) (hn : n < 4) (h : ∀ j, j < n → gt l (15 - j) = 255) (hne : gt l (15 - n) ≠ 255) : (zd l n).set (15 - n) (gt l (15 - n) + 1) = cu l := by
  obtain ⟨a0, a1, a2, a3, a4, a5, a6, a7, a8, a9, b0, b1, b2, b3, b4, b5, rfl⟩ := list16 l hl
  have y2 : b2 < 256 := y b2 (by simp)
  have y3 : b3 < 256 := y b3 (by simp)
  have y4 : b4 < 256 := y b4 (by simp)
  have y5 : b5 < 256 := y b5 (by simp)
  rw [cu_explicit]
  match n, hn with
  | 0, _ =>
    have h0 : b5 ≠ 255 := hne
    simp [zd, gt]
    omega
  | 1, _ =>
    have h0 : b4 ≠ 255 := hne
    have h1 : b5 = 255 := h 0 (by omega)
    simp [zd, gt]
    omega
  | 2, _ =>
    have h0 : b3 ≠ 255 := hne
    have h1 : b5 = 255 := h 0 (by omega)
    have h2 : b4 = 255 := h 1 (by omega)
    simp [zd, gt]
    omega
  | 3, _ =>
    have h0 : b2 ≠ 255 := hne
    have h1 : b5 = 255 := h 0 (by omega)
    have h2 : b4 = 255 := h 1 (by omega)
    have h3 : b3 = 255 := h 2 (by omega)
    simp [zd, gt]
    omega
theorem cu_all (l : List Nat) (hl : l.length = 16) (h : ∀ j, j < 4 → gt l (15 - j) = 255) : zd l 4 = cu l := by
  obtain ⟨a0, a1, a2, a3, a4, a5, a6, a7, a8, a9, b0, b1, b2, b3, b4, b5, rfl⟩ := list16 l hl
  have h1 : b5 = 255 := h 0 (by omega)
  have h2 : b4 = 255 := h 1 (by omega)
  have h3 : b3 = 255 := h 2 (by omega)
  have h4 : b2 = 255 := h 3 (by omega)
  subst h1 h2 h3 h4
  rw [cu_explicit]
  simp [zd]
def cuN (l : List Nat) : Nat → List Nat
  | 0 => l
  | n + 1 => cu (cuN l n)
theorem cuN_len (l : List Nat) (hl : l.length = 16) : ∀ n, (cuN l n).length = 16
  | 0 => hl
  | n + 1 => cu_len _ (cuN_len l hl n)
theorem cuN_byt (l : List Nat) (y : Byt l) : ∀ n, Byt (cuN l n)
  | 0 => y
  | n + 1 => cu_byt _ (cuN_byt l y n)
end Go.Proofs.Ytflnhjbanlpjiai.M

namespace Go.Proofs.Ytflnhjbanlpjiai.M
open Go.RowKit

/-- Bytes, and as few zeros as make whole blocks. -/
def whole (l : List Nat) : List Nat := l ++ zs ((16 - l.length % 16) % 16)
theorem whole_len (l : List Nat) : (whole l).length = l.length + (16 - l.length % 16) % 16 := by simp [whole, zs]
theorem whole_mod (l : List Nat) : (whole l).length % 16 = 0 := by rw [whole_len]; omega
theorem zs_byt (n : Nat) : Byt (zs n) := by
  intro x hx
  rw [List.eq_of_mem_replicate hx]
  decide
theorem app_byt {a b : List Nat} (ha : Byt a) (hb : Byt b) : Byt (a ++ b) := fun x hx => (List.mem_append.1 hx).elim (ha x) (hb x)
theorem whole_byt (l : List Nat) (y : Byt l) : Byt (whole l) := app_byt y (zs_byt _)
/-- What the tag hashes. -/
def thash (e c : List Nat) : List Nat := whole e ++ whole c ++ packL (8 * e.length) 8 ++ packL (8 * c.length) 8
theorem thash_len (e c : List Nat) : (thash e c).length = (whole e).length + (whole c).length + 16 := by simp [thash, packL_len]; omega
theorem thash_byt (e c : List Nat) (ye : Byt e) (yc : Byt c) : Byt (thash e c) := app_byt (app_byt (app_byt (whole_byt e ye) (whole_byt c yc)) (packL_byt _ _)) (packL_byt _ _)
theorem thash_mod (e c : List Nat) : (thash e c).length % 16 = 0 := by
  have h1 := whole_mod e
  have h2 := whole_mod c
  rw [thash_len]
  omega
/-- The first block of a nonce. -/
def jb (n : List Nat) : List Nat := n ++ [0, 0, 0, 1]
theorem jb_len (n : List Nat) (h : n.length = 12) : (jb n).length = 16 := by simp [jb, h]
theorem jb_byt (n : List Nat) (y : Byt n) : Byt (jb n) := app_byt y (by intro x hx; simp at hx; omega)
end Go.Proofs.Ytflnhjbanlpjiai.M

namespace Go.Proofs.Ytflnhjbanlpjiai.W
open Go.ChangeShapes Go.WideShapes Go.ChangeAt Go.RowKit
open Go.Proofs.Ytflnhjbanlpjiai.M

theorem copyA (v : Value) (l : List Nat) (w : World) (h : Rd w v l) (hl : l.length ≤ 1048576) :
    Calls Try.prog 43 #[v] w fun e w' => ∃ v', e = .returned v' ∧ Own w' w.heap.size v' l ∧ Below w.heap.size w w' := by
  obtain ⟨a, cap, rfl, -, -, -⟩ := h.parts
  have O0 := own_lit0 w
  have H := hid (h.below (below_alloc1 w (.cells #[] 5)))
  clear h
  go_enter Try.func43, Try.ntmps43
  go_wp2_with (at_builtin; refine list_app rfl _ _ rfl _ _ [] l w.heap.size rfl rfl O0 H.out (by simp; omega) (by simp) ?_; intro v' w1 O G)
  rw [List.nil_append] at O
  have hB1 : Below w.heap.size w w1 := (below_alloc1 w _).grown G (by simp) (fun x e => by cases e; exact Nat.le_refl _)
  clear G
  go_wp2
  go_ret
  exact ⟨v', rfl, O, hB1⟩

set_option maxRecDepth 100000 in
theorem l3count' (v : Value) (l t r : List Nat) (n : Nat) (w : World) (h : Rd w v l) (y : Byt l) (hl : l.length = 16) (ht : l.take 12 = t) (hn : vt l 12 4 = n) (hr : packL ((n + 1) % 4294967296) 4 = r) :
    Calls Try.prog 21 #[v] w fun e w' => ∃ v', e = .returned v' ∧ Own w' w.heap.size v' (t ++ r) ∧ Below w.heap.size w w' := by
  obtain ⟨b, o, cap, rfl, ecap, -⟩ := h.spot (by omega)
  have TL := hid (show t.length = 12 by rw [← ht]; simp [hl])
  have RL := hid (show r.length = 4 by rw [← hr, packL_len])
  rw [hl] at h ecap ⊢
  have H := hid h
  have HL := hid hl
  have n1 : n < 4294967296 := by rw [← hn]; exact vt_lt l y 12 4
  have RU := run_upto b o 16 cap 12 (by omega) (by omega)
  have PD := hid (rd_piece h 0 12 (by omega))
  rw [Nat.add_zero, Nat.sub_zero, sub_take, ht] at PD
  have w1 : IntKind.i64.wrap ((n : Int) + 1) = (n : Int) + 1 := by rw [IntKind.wrap_i64]; omega
  have e1 : ((n : Int) + 1) % 4294967296 = (((n + 1) % 4294967296 : Nat) : Int) := by omega
  have HN := hid hn
  have HR := hid hr
  replace e1 := hid e1
  clear h hl ht hn hr
  go_enter Try.func21, Try.ntmps21
  go_wp2_with fail
  refine (l1read _ l 12 4 _ H.out y (by omega) (by rw [HL.out]; omega) (by omega) (by rw [HL.out]; omega)).mono ?_
  rintro e w' ⟨rfl, rfl⟩
  rw [HN.out]
  go_wp2_with fail
  refine (copyA _ t _ PD.out (by rw [TL.out]; omega)).mono ?_
  rintro e w1 ⟨v1, rfl, O1, B1⟩
  obtain ⟨p1, c1, rfl, -, -, -⟩ := O1.rd.parts
  rw [TL.out] at O1 ⊢
  replace O1 := hid O1
  replace B1 := hid B1
  go_wp2_with fail
  rw [e1.out]
  refine (l1pack ((n + 1) % 4294967296) 4 _ (by omega) (by omega) (by omega)).mono ?_
  rintro e w2 ⟨rfl, O2, B2⟩
  rw [HR.out] at O2
  have Q1 := hid (O1.out.below B2)
  have R2 := hid (B1.out.trans (B2.mono B1.out.size))
  have S2 := hid O2.rd
  clear O2 B2
  go_wp2_with (at_builtin; refine list_app rfl _ _ rfl _ _ t r w'.heap.size rfl rfl Q1.out S2.out (by rw [TL.out, RL.out]; omega) (R2.out.size) ?_; intro v' w3 O G)
  have hB : Below w'.heap.size w' w3 := R2.out.grown G R2.out.size (Q1.out.row (Nat.le_refl _))
  clear G
  go_wp2
  go_ret
  exact ⟨v', rfl, O, hB⟩
theorem l3count (v : Value) (l : List Nat) (w : World) (h : Rd w v l) (y : Byt l) (hl : l.length = 16) :
    Calls Try.prog 21 #[v] w fun e w' => ∃ v', e = .returned v' ∧ Own w' w.heap.size v' (cu l) ∧ Below w.heap.size w w' := l3count' v l _ _ _ w h y hl rfl rfl rfl

theorem own_4 (w : World) : Own (w.alloc (.cells #[.int .u8 0, .int .u8 0, .int .u8 0, .int .u8 1] 5)) w.heap.size (.slice (some ⟨w.heap.size, 0, none⟩) 4 4) [0, 0, 0, 1] :=
  World.ownsRow_lit w #[.int .u8 0, .int .u8 0, .int .u8 0, .int .u8 1] 4 (Nat.le_refl _) (by unfold maxLen; omega) rfl
theorem own_0 (w : World) : Own (w.alloc (.cells #[.int .u8 0] 5)) w.heap.size (.slice (some ⟨w.heap.size, 0, none⟩) 1 1) [0] :=
  World.ownsRow_lit w #[.int .u8 0] 1 (Nat.le_refl _) (by unfold maxLen; omega) rfl
set_option maxRecDepth 100000 in
theorem l3first (v : Value) (l : List Nat) (w : World) (h : Rd w v l) (hl : l.length ≤ 1048576) :
    Calls Try.prog 53 #[v] w fun e w' => ∃ v', e = .returned v' ∧ Own w' w.heap.size v' (jb l) ∧ Below w.heap.size w w' := by
  obtain ⟨a, cap, rfl, -, -, -⟩ := h.parts
  have H := hid h
  have HL := hid hl
  clear h
  go_enter Try.func53, Try.ntmps53
  go_wp2_with fail
  refine (copyA _ l _ H.out hl).mono ?_
  rintro e w1 ⟨v1, rfl, O1, B1⟩
  obtain ⟨p1, c1, rfl, -, -, -⟩ := O1.rd.parts
  have Q1 := hid (O1.below (below_alloc1 w1 (.cells #[.int .u8 0, .int .u8 0, .int .u8 0, .int .u8 1] 5)))
  have S2 := hid (own_4 w1).rd
  have R2 := hid (B1.alloc B1.size (.cells #[.int .u8 0, .int .u8 0, .int .u8 0, .int .u8 1] 5))
  clear O1 B1
  go_wp2_with (at_builtin; refine list_app rfl _ _ rfl _ _ l [0, 0, 0, 1] w.heap.size rfl rfl Q1.out S2.out (by have := HL.out; simp; omega) (R2.out.size) ?_; intro v' w3 O G)
  have hB : Below w.heap.size w w3 := R2.out.grown G R2.out.size (Q1.out.row (Nat.le_refl _))
  clear G
  go_wp2
  go_ret
  exact ⟨v', rfl, O, hB⟩

/-- How long a slice is. -/
def slen : Value → Nat
  | .slice _ n _ => n
  | _ => 0
/-- k zeros behind. -/
theorem whole_at (l : List Nat) (k : Nat) (h : k = (16 - l.length % 16) % 16) : l ++ zs k = whole l := by rw [whole, h]
theorem zs_snoc (l : List Nat) (k : Nat) : l ++ zs k ++ [0] = l ++ zs (k + 1) := by
  rw [List.append_assoc, zs, zs, List.replicate_succ']
set_option maxRecDepth 100000 in
theorem l3whole (v : Value) (l : List Nat) (w : World) (h : Rd w v l) (hl : l.length ≤ 1000000) :
    Calls Try.prog 68 #[v] w fun e w' => ∃ v', e = .returned v' ∧ Own w' w.heap.size v' (whole l) ∧ Below w.heap.size w w' := by
  obtain ⟨a, cap, rfl, -, -, -⟩ := h.parts
  have H := hid h
  have HL := hid hl
  clear h
  go_enter Try.func68, Try.ntmps68
  go_wp2_with fail
  refine (copyA _ l _ H.out (by omega)).mono ?_
  rintro e w1 ⟨v1, rfl, O1, B1⟩
  replace O1 := hid O1
  replace B1 := hid B1
  go_wp2_with fail
  go_loopw [3] (fun o3 ws => ∃ k : Nat, k ≤ (16 - l.length % 16) % 16 ∧ Hid (Own ws w.heap.size o3 (l ++ zs k)) ∧ Hid (Below w.heap.size w ws)) (fun o3 _ => 32 + l.length - slen o3)
  case atStart => exact ⟨0, by omega, hid (by rw [show zs 0 = [] from rfl, List.append_nil]; exact O1.out), B1⟩
  case round =>
    clear O1 B1
    obtain ⟨k, hk, HO, HB⟩ := hrel
    have LK : (l ++ zs k).length = l.length + k := by rw [List.length_append, zs_len]
    obtain ⟨p, c, e, -, -, -⟩ := HO.out.rd.parts
    rw [LK] at e
    subst e
    by_cases hlt : k < (16 - l.length % 16) % 16
    · have c1 : (((l.length + k : Nat) : Int) % 16 != 0) = true := by rw [bne_iff_ne]; omega
      have SN := hid (zs_snoc l k)
      have Q1 := hid (HO.out.below (below_alloc1 wr (.cells #[.int .u8 0] 5)))
      have S2 := hid (own_0 wr).rd
      have R2 := hid (HB.out.alloc HB.out.size (.cells #[.int .u8 0] 5))
      have LKH := hid LK
      have HM := hid (rfl : l.length + k = l.length + k)
      generalize hm : l.length + k = m at *
      clear HO HB LK HM
      go_wp2_with (at_builtin; refine list_app rfl _ _ rfl _ _ (l ++ zs k) [0] w.heap.size rfl rfl Q1.out S2.out (by rw [LKH.out]; have := HL.out; simp; omega) (R2.out.size) ?_; intro v' w3 O G)
      rw [SN.out] at O
      have hB : Below w.heap.size w w3 := R2.out.grown G R2.out.size (Q1.out.row (Nat.le_refl _))
      have hV : slen v' = m + 1 := by
        obtain ⟨p3, c3, rfl, -, -, -⟩ := O.rd.parts
        show (l ++ zs (k + 1)).length = m + 1
        rw [List.length_append, zs_len]
        omega
      clear G
      go_wp2
      go_roundw
      case rel => exact ⟨k + 1, by omega, hid O, hid hB⟩
      case measure => rw [hV]; simp only [slen]; omega
    · have hk8 : k = (16 - l.length % 16) % 16 := by omega
      have c1 : (((l.length + k : Nat) : Int) % 16 != 0) = false := by rw [bne_eq_false_iff_eq]; omega
      rw [whole_at l k hk8] at HO
      generalize l.length + k = m at *
      go_wp2
      go_ret
      exact ⟨_, rfl, HO.out, HB.out⟩
end Go.Proofs.Ytflnhjbanlpjiai.W

namespace Go.Proofs.Ytflnhjbanlpjiai.M
open Go.RowKit

/-- A byte times the power 1. -/
def xt (a : Nat) : Nat := if a / 128 = 1 then (a * 2 % 256) ^^^ 27 else a * 2 % 256
theorem xt_lt (a : Nat) : xt a < 256 := by
  unfold xt
  split
  · exact Nat.xor_lt_two_pow (n := 8) (by omega) (by omega)
  · omega
def xtN (a : Nat) : Nat → Nat
  | 0 => a
  | k + 1 => xt (xtN a k)
theorem xtN_lt (a : Nat) (ha : a < 256) : ∀ k, xtN a k < 256
  | 0 => ha
  | _ + 1 => xt_lt _
/-- The sum of the first k parts of a product. -/
def acc (a b : Nat) : Nat → Nat
  | 0 => 0
  | k + 1 => if b / 2 ^ k % 2 = 1 then acc a b k ^^^ xtN a k else acc a b k
theorem acc_lt (a b : Nat) (ha : a < 256) : ∀ k, acc a b k < 256
  | 0 => by simp [acc]
  | k + 1 => by
    have h1 := acc_lt a b ha k
    have h2 := xtN_lt a ha k
    unfold acc
    split
    · exact Nat.xor_lt_two_pow (n := 8) (by omega) (by omega)
    · exact h1
def ft (a b : Nat) : Nat := acc a b 8
theorem ft_lt (a b : Nat) (ha : a < 256) : ft a b < 256 := acc_lt a b ha 8

theorem half_pow (b k : Nat) : b / 2 ^ k / 2 = b / 2 ^ (k + 1) := by rw [Nat.div_div_eq_div_mul, Nat.pow_succ]
theorem acc_yes (a b k : Nat) (h : b / 2 ^ k % 2 = 1) : acc a b (k + 1) = acc a b k ^^^ xtN a k := by rw [acc, if_pos h]
theorem acc_no (a b k : Nat) (h : ¬ b / 2 ^ k % 2 = 1) : acc a b (k + 1) = acc a b k := by rw [acc, if_neg h]

/-- How the walk writes it. -/
theorem xor8 (a b : Nat) (ha : a < 256) (hb : b < 256) : bits .xor .u8 (a : Int) (b : Int) = ((a ^^^ b : Nat) : Int) := u8_xor_nat a b ha hb
theorem xt_hi (x : Nat) (h : 128 ≤ (x : Int)) (h' : x < 256) : bits .xor .u8 ((x : Int) * 2 % 256) 27 = ((xt x : Nat) : Int) := by
  have e : ((x : Int) * 2 % 256) = ((x * 2 % 256 : Nat) : Int) := by omega
  rw [e, show (27 : Int) = ((27 : Nat) : Int) from rfl, xor8 _ _ (by omega) (by omega), xt, if_pos (by omega)]
theorem xt_lo (x : Nat) (h : (x : Int) < 128) : (x : Int) * 2 % 256 = ((xt x : Nat) : Int) := by
  rw [xt, if_neg (by omega)]; omega
theorem xt_hi' (x : Nat) (h : ((x : Int) / 128 == 1) = true) (h' : x < 256) : bits .xor .u8 ((x : Int) * 2 % 256) 27 = ((xt x : Nat) : Int) := by
  have h := beq_iff_eq.1 h
  exact xt_hi x (by omega) h'
theorem xt_lo' (x : Nat) (h : ((x : Int) / 128 == 1) = false) (h' : x < 256) : (x : Int) * 2 % 256 = ((xt x : Nat) : Int) := by
  have h := beq_eq_false_iff_ne.1 h
  exact xt_lo x (by omega)
theorem int_u8 {a b : Int} (h : a = b) : Value.int .u8 a = .int .u8 b := by rw [h]
theorem int_i64 {a b : Int} (h : a = b) : Value.int .i64 a = .int .i64 b := by rw [h]
theorem ret_int {k : IntKind} {a b : Int} (h : a = b) : Ending.returned (.int k a) = .returned (.int k b) := by rw [h]
theorem bit_at (b k : Nat) (hb : b < 256) : bits .and .u8 ((b : Int) / 2 ^ k) 1 = ((b / 2 ^ k % 2 : Nat) : Int) := by
  have h : b / 2 ^ k < 256 := Nat.lt_of_le_of_lt (Nat.div_le_self _ _) hb
  have e : ((b : Int) / 2 ^ k) = ((b / 2 ^ k : Nat) : Int) := by simp
  rw [e, show (1 : Int) = ((1 : Nat) : Int) from rfl, u8_and_nat _ _ h (by omega), nat_mask1]
theorem bit_yes (b k : Nat) (hb : b < 256) (h : (bits .and .u8 ((b : Int) / 2 ^ k) 1 == 1) = true) : b / 2 ^ k % 2 = 1 := by
  have h := beq_iff_eq.1 h
  rw [bit_at b k hb] at h
  omega
theorem bit_no (b k : Nat) (hb : b < 256) (h : (bits .and .u8 ((b : Int) / 2 ^ k) 1 == 1) = false) : ¬ b / 2 ^ k % 2 = 1 := by
  have h := beq_eq_false_iff_ne.1 h
  rw [bit_at b k hb] at h
  omega
theorem acc_step_yes (a b k : Nat) (ha : a < 256) (hb : b < 256) (h : (bits .and .u8 ((b : Int) / 2 ^ k) 1 == 1) = true) : bits .xor .u8 (acc a b k : Nat) (xtN a k : Nat) = ((acc a b (k + 1) : Nat) : Int) := by
  rw [acc_yes a b k (bit_yes b k hb h), xor8 _ _ (acc_lt a b ha k) (xtN_lt a ha k)]
theorem acc_step_no (a b k : Nat) (hb : b < 256) (h : (bits .and .u8 ((b : Int) / 2 ^ k) 1 == 1) = false) : ((acc a b k : Nat) : Int) = ((acc a b (k + 1) : Nat) : Int) := by
  rw [acc_no a b k (bit_no b k hb h)]
/-- A byte that came in. -/
theorem byte_of {x : Int} (h : (Lit.int .u8 x).wf = true) : ∃ a : Nat, a < 256 ∧ x = (a : Int) := by
  have h' := bounds_u8 h
  exact ⟨x.toNat, by omega, by omega⟩
end Go.Proofs.Ytflnhjbanlpjiai.M
