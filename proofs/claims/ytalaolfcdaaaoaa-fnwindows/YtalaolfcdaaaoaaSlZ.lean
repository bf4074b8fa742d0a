/-
  Slices of whole numbers (int64) in memory: what a slice reads, what a call owns. No function of the program is named here (a type's number alone).
-/
import Derived.Test.YtalaolfcdaaaoaaIv
namespace Go.Proofs.Ytalaolfcdaaaoaa.M
open Go.RowKit Go.ChangeShapes Go.WideShapes Go.ChangeAt

/-- A number as a value. -/
def zv (n : Int) : Value := .int .i64 n
/-- The slice v reads the numbers l. -/
def RdZ (w : World) (v : Value) (l : List Int) : Prop :=
  ∃ (a : Option Addr) (cap : Nat), v = .slice a l.length cap ∧ l.length ≤ cap ∧ cap ≤ maxLen ∧ ∀ i (hi : i < l.length), ∃ b o, a = some ⟨b, o, none⟩ ∧ w.cell? ⟨b, o + i, none⟩ = some (.int .i64 l[i])
theorem RdZ.parts {w : World} {v : Value} {l : List Int} (h : RdZ w v l) :
    ∃ (a : Option Addr) (cap : Nat), v = .slice a l.length cap ∧ l.length ≤ cap ∧ cap ≤ maxLen ∧ ∀ i (hi : i < l.length), ∃ b o, a = some ⟨b, o, none⟩ ∧ w.cell? ⟨b, o + i, none⟩ = some (.int .i64 l[i]) := h
/-- All are numbers of 64 bits. -/
def WfZ (l : List Int) : Prop := ∀ x ∈ l, (Lit.int .i64 x).wf = true
theorem WfZ.at {l : List Int} (h : WfZ l) (i : Nat) (hi : i < l.length) : (Lit.int .i64 l[i]).wf = true := h _ (List.getElem_mem hi)
/-- The slice v is the call's own, from block 'base' on, and reads l. -/
def OwZ (w : World) (base : Nat) (v : Value) (l : List Int) : Prop := w.ownsRow base 2 1 v l.length (l.map zv)

theorem RdZ.nil (w : World) : RdZ w (.slice none 0 0) [] := ⟨none, 0, rfl, Nat.le_refl _, Nat.zero_le _, fun i hi => by simp at hi⟩
theorem OwZ.rd {w : World} {base : Nat} {v : Value} {l : List Int} (h : OwZ w base v l) : RdZ w v l := by
  rcases h.2 with ⟨rfl, h0⟩ | ⟨g, cap, cur, rfl, hb, hg, hn, hm, hs, ht⟩
  · obtain rfl := List.eq_nil_of_length_eq_zero h0
    exact RdZ.nil w
  · refine ⟨_, cap, rfl, hn, hm, fun i hi => ⟨g, 0, rfl, ?_⟩⟩
    have hc := World.ownsRow.cellAt (show w.ownsRow base 2 1 (.slice (some ⟨g, 0, none⟩) l.length cap) l.length (l.map zv) from h) i (by omega)
    rw [Nat.zero_add, hc, List.getElem?_map, List.getElem?_eq_getElem hi]
    rfl
theorem RdZ.below {w w' : World} {v : Value} {l : List Int} (h : RdZ w v l) (hb : Below w.heap.size w w') : RdZ w' v l := by
  obtain ⟨a, cap, rfl, hn, hm, hcs⟩ := h
  refine ⟨a, cap, rfl, hn, hm, fun i hi => ?_⟩
  obtain ⟨b, o, rfl, hc⟩ := hcs i hi
  exact ⟨b, o, rfl, by rw [hb.cell (p := ⟨b, o + i, none⟩) (World.block_lt_of_cell? w _ hc)]; exact hc⟩
theorem OwZ.below {w w' : World} {base : Nat} {v : Value} {l : List Int} (h : OwZ w base v l) (hb : Below w.heap.size w w') : OwZ w' base v l := by
  refine ⟨h.1, ?_⟩
  rcases h.2 with hn | ⟨g, cap, cur, rfl, hbb, hgg, rest⟩
  · exact .inl hn
  · exact .inr ⟨g, cap, cur, rfl, hbb, by rw [hb.block g (Array.getElem?_eq_some_iff.1 hgg).1]; exact hgg, rest⟩
theorem OwZ.mono {w : World} {base base' : Nat} {v : Value} {l : List Int} (h : OwZ w base v l) (hb : base' ≤ base) : OwZ w base' v l := by
  refine ⟨h.1, ?_⟩
  rcases h.2 with hn | ⟨g, cap, cur, rfl, hbb, rest⟩
  · exact .inl hn
  · exact .inr ⟨g, cap, cur, rfl, by omega, rest⟩
theorem OwZ.nil (w : World) (base : Nat) : OwZ w base (.slice none 0 0) [] := World.ownsRow_nil _ _ _ _
theorem OwZ.kept {w w' : World} {base : Nat} {v : Value} {l : List Int} {row : Option Nat} (h : OwZ w base v l) (hg : w.grownBy w' row) (hne : v.ownBlock = none ∨ v.ownBlock ≠ row) : OwZ w' base v l :=
  World.ownsRow.kept h hg hne
theorem OwZ.lt {w : World} {base : Nat} {v : Value} {l : List Int} (h : OwZ w base v l) (g : Nat) (e : v.ownBlock = some g) : base ≤ g ∧ g < w.heap.size := World.ownsRow.lt h g e
theorem OwZ.row {w : World} {base B : Nat} {v : Value} {l : List Int} (h : OwZ w base v l) (hB : B ≤ base) : ∀ k, v.ownBlock = some k → B ≤ k := by
  intro k hk
  have := h.lt k hk
  omega
theorem OwZ.ne {w : World} {base : Nat} {v : Value} {l : List Int} (h : OwZ w base v l) {g : Nat} (hg : g < base) : some g ≠ v.ownBlock := by
  intro e
  have := h.lt g e.symm
  omega
/-- The first k numbers of l, zeros behind them. -/
def frontZ (l : List Int) (k : Nat) : List Int := l.take k ++ List.replicate (l.length - k) 0
theorem frontZ_len (l : List Int) (k : Nat) (h : k ≤ l.length) : (frontZ l k).length = l.length := by simp [frontZ]; omega
theorem frontZ_get (l : List Int) (k : Nat) (h : k ≤ l.length) (i : Nat) : (frontZ l k)[i]? = if i < k then l[i]? else if i < l.length then some 0 else none := by
  have e1 : (l.take k).length = k := by simp; omega
  unfold frontZ
  by_cases h2 : i < k
  · rw [List.getElem?_append_left (by omega), List.getElem?_take, if_pos h2, if_pos h2]
  · rw [List.getElem?_append_right (by omega), e1, List.getElem?_replicate, if_neg h2]
    by_cases h3 : i < l.length
    · rw [if_pos (by omega), if_pos h3]
    · rw [if_neg (by omega), if_neg h3]
theorem frontZ_set (l : List Int) (k : Nat) (h : k < l.length) : (frontZ l k).set k l[k] = frontZ l (k + 1) := by
  apply List.ext_getElem?
  intro i
  rw [List.getElem?_set, frontZ_len l k (by omega), frontZ_get l k (by omega), frontZ_get l (k + 1) (by omega)]
  by_cases hi : k = i
  · subst hi
    rw [if_pos rfl, if_pos h, if_pos (by omega), List.getElem?_eq_getElem h]
  · rw [if_neg hi]
    by_cases h2 : i < k
    · rw [if_pos h2, if_pos (by omega)]
    · rw [if_neg h2, if_neg (show ¬ i < k + 1 by omega)]
theorem frontZ_end (l : List Int) : frontZ l l.length = l := by simp [frontZ]
theorem frontZ_zero (l : List Int) : frontZ l 0 = List.replicate l.length 0 := by simp [frontZ]
theorem map_setZ (l : List Int) (k : Nat) (x : Int) : (l.map zv).set k (zv x) = (l.set k x).map zv := by rw [List.map_set]
/-- One number is stored into a row of the call's own. -/
theorem OwZ.stored {w : World} {base g cap n : Nat} {l : List Int} (hn : l.length = n) (h : OwZ w base (.slice (some ⟨g, 0, none⟩) n cap) l) (k : Nat) (x : Int) :
    OwZ (w.setCell ⟨g, k, none⟩ (.int .i64 x)) base (.slice (some ⟨g, 0, none⟩) n cap) (l.set k x) ∧ w.grownBy (w.setCell ⟨g, k, none⟩ (.int .i64 x)) (some g) := by
  subst hn
  have h' := World.ownsRow.stored (show w.ownsRow base 2 1 (.slice (some ⟨g, 0, none⟩) l.length cap) l.length (l.map zv) from h) k (zv x)
  rw [map_setZ] at h'
  refine ⟨?_, h'.2⟩
  unfold OwZ
  rw [List.length_set]
  exact h'.1
theorem OwZ.cell {w : World} {base g cap n : Nat} {l : List Int} (hn : l.length = n) (h : OwZ w base (.slice (some ⟨g, 0, none⟩) n cap) l) (k : Nat) (hk : k < l.length) :
    w.cell? ⟨g, k, none⟩ = some (.int .i64 l[k]) := by
  subst hn
  have hc := World.ownsRow.cellAt (show w.ownsRow base 2 1 (.slice (some ⟨g, 0, none⟩) l.length cap) l.length (l.map zv) from h) k (by omega)
  rw [hc, List.getElem?_map, List.getElem?_eq_getElem hk]
  rfl
theorem OwZ.open {w : World} {base g cap n : Nat} {l : List Int} (hn : l.length = n) (h : OwZ w base (.slice (some ⟨g, 0, none⟩) n cap) l) (k : Nat) :
    w.frozen? ⟨g, k, none⟩ = false := by
  subst hn
  exact World.ownsRow.frozenAt (show w.ownsRow base 2 1 (.slice (some ⟨g, 0, none⟩) l.length cap) l.length (l.map zv) from h) k
/-- The marks that a row bears: the numbers from k on. -/
def marksZ (k n : Nat) : List Int := (List.range n).map fun i => ((k + i : Nat) : Int)
theorem marksZ_len (k n : Nat) : (marksZ k n).length = n := by simp [marksZ]
theorem marksZ_at (k n i : Nat) (h : i < (marksZ k n).length) : (marksZ k n)[i] = ((k + i : Nat) : Int) := by simp [marksZ]
/-- The first j numbers are marked. -/
def markedZ (l : List Int) (k j : Nat) : List Int := marksZ k j ++ l.drop j
theorem markedZ_len (l : List Int) (k j : Nat) (h : j ≤ l.length) : (markedZ l k j).length = l.length := by simp [markedZ, marksZ_len]; omega
theorem markedZ_zero (l : List Int) (k : Nat) : markedZ l k 0 = l := by simp [markedZ, marksZ]
theorem markedZ_end (l : List Int) (k : Nat) : markedZ l k l.length = marksZ k l.length := by simp [markedZ]
theorem markedZ_set (l : List Int) (k j : Nat) (h : j < l.length) : (markedZ l k j).set j ((k + j : Nat) : Int) = markedZ l k (j + 1) := by
  unfold markedZ
  have e1 : marksZ k (j + 1) = marksZ k j ++ [((k + j : Nat) : Int)] := by simp [marksZ, List.range_succ]
  rw [e1, List.append_assoc, List.singleton_append, List.set_append_right _ _ (by rw [marksZ_len]; omega), marksZ_len, Nat.sub_self, List.drop_eq_getElem_cons h, List.set_cons_zero]
/-- A slice of numbers that came in. -/
theorem rdZ_of_row {w : World} {a : Option Addr} {len cap : Nat} {zs : List Int}
    (h : (a = none ∧ len = 0 ∧ cap = 0 ∧ zs = []) ∨ ∃ x, a = some x ∧ len ≤ cap ∧ cap ≤ maxLen ∧ zs.length = cap ∧ (∀ i, i < zs.length → w.cell? (x.add i) = some (.int .i64 (zs.getD i 0))) ∧ ∀ n ∈ zs, (Lit.int .i64 n).wf = true) :
    ∃ l : List Int, l.length = len ∧ WfZ l ∧ RdZ w (.slice a len cap) l := by
  rcases h with ⟨rfl, rfl, rfl, rfl⟩ | ⟨x, rfl, hl, hm, hz, hc, hw⟩
  · exact ⟨[], rfl, fun x hx => by simp at hx, RdZ.nil w⟩
  · have hlen : (zs.take len).length = len := by simp; omega
    refine ⟨zs.take len, hlen, fun n hn => hw n (List.mem_of_mem_take hn), ?_⟩
    refine ⟨some x, cap, by rw [hlen], by omega, hm, fun i hi => ?_⟩
    have hi' : i < zs.length := by omega
    have h1 := hc i hi'
    obtain ⟨b, o, spot⟩ := x
    have hspot : spot = none := by simpa [Addr.add] using World.cell?_spot (hc 0 (by omega))
    subst hspot
    refine ⟨b, o, rfl, ?_⟩
    rw [Addr.add_lit] at h1
    rw [h1]
    simp only [List.getElem_take, List.getD, List.getElem?_eq_getElem hi', Option.getD_some]
theorem ownZ_snoc {w : World} {base : Nat} {v : Value} {l : List Int} {x : Int} (h : w.ownsRow base 2 1 v (l.length + 1) (l.map zv ++ [zv x])) : OwZ w base v (l ++ [x]) := by
  unfold OwZ
  rw [List.length_append, List.map_append]
  exact h
/-- The slice v reads l, and it is its own: its block lies between lo and hi. -/
def OZ (w : World) (lo hi : Nat) (v : Value) (l : List Int) : Prop := OwZ w lo v l ∧ ∀ g, v.ownBlock = some g → g < hi
theorem OZ.of {w : World} {lo : Nat} {v : Value} {l : List Int} (h : OwZ w lo v l) : OZ w lo w.heap.size v l := ⟨h, fun g e => (h.lt g e).2⟩
theorem OZ.nil (w : World) (lo hi : Nat) : OZ w lo hi (.slice none 0 0) [] := ⟨OwZ.nil w lo, fun g e => by cases e⟩
theorem OZ.rd {w : World} {lo hi : Nat} {v : Value} {l : List Int} (h : OZ w lo hi v l) : RdZ w v l := h.1.rd
theorem OZ.agr {w w' : World} {lo hi : Nat} {v : Value} {l : List Int} (h : OZ w lo hi v l) (k : Agr lo hi w w') : OZ w' lo hi v l := by
  obtain ⟨⟨h1, h2⟩, h3⟩ := h
  refine ⟨⟨h1, ?_⟩, h3⟩
  rcases h2 with hn | ⟨g, cap, cur, rfl, hbb, hgg, rest⟩
  · exact .inl hn
  · exact .inr ⟨g, cap, cur, rfl, hbb, by rw [k g hbb (h3 g rfl)]; exact hgg, rest⟩
theorem OZ.below {w w' : World} {lo hi : Nat} {v : Value} {l : List Int} (h : OZ w lo hi v l) (k : Below w.heap.size w w') : OZ w' lo hi v l := ⟨h.1.below k, h.2⟩
theorem OZ.mono {w : World} {lo hi lo' hi' : Nat} {v : Value} {l : List Int} (h : OZ w lo hi v l) (h1 : lo' ≤ lo) (h2 : hi ≤ hi') : OZ w lo' hi' v l :=
  ⟨h.1.mono h1, fun g e => Nat.lt_of_lt_of_le (h.2 g e) h2⟩
theorem OZ.under {w : World} {lo hi : Nat} {v : Value} {l : List Int} (h : OZ w lo hi v l) (a : Addr) (ha : a.block < lo) (x : Value) : OZ (w.setCell a x) lo hi v l :=
  ⟨ownsRow_setCell_below h.1 ha x, h.2⟩
theorem OZ.blk {w : World} {lo hi g : Nat} {v : Value} {l : List Int} (h : OZ w lo hi v l) (e : v.ownBlock = some g) : lo ≤ g ∧ g < hi := ⟨(h.1.lt g e).1, h.2 g e⟩
end Go.Proofs.Ytalaolfcdaaaoaa.M
