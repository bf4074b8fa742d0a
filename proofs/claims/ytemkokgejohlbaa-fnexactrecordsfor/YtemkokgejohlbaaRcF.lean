/-
  Slices of records in memory: what they read, what a call owns. No function of the program is named here (types' numbers alone).
-/
import Derived.Test.YtemkokgejohlbaaIv
namespace Go.Proofs.Ytemkokgejohlbaa.W
open Go.RowKit
open Go.Proofs.Ytemkokgejohlbaa.M

/-- A record. -/
structure Rcd where
  a : Int
  b : Int
  c : Int
theorem Rcd.ext' {x y : Rcd} (h0 : x.a = y.a) (h1 : x.b = y.b) (h2 : x.c = y.c) : x = y := by
  cases x; cases y; simp only at h0 h1 h2; subst h0; subst h1; subst h2; rfl
/-- A record's cells. -/
def drow (c : Rcd) : List Value := [.int .i64 c.a, .int .i64 c.b, .int .i64 c.c]
def rowD : List Rcd → List Value
  | [] => []
  | c :: cs => drow c ++ rowD cs
theorem drow_len (c : Rcd) : (drow c).length = 3 := rfl
theorem rowD_len : ∀ (cs : List Rcd), (rowD cs).length = cs.length * 3
  | [] => rfl
  | c :: cs => by
    have := rowD_len cs
    rw [rowD, List.length_append, this, drow_len, List.length_cons]; omega
theorem rowD_get : ∀ (cs : List Rcd) (j : Nat) (hj : j < cs.length) (t : Nat), t < 3 → (rowD cs)[j * 3 + t]? = (drow cs[j])[t]?
  | [], j, hj, _, _ => by simp at hj
  | c :: cs, 0, hj, t, ht => by
    rw [rowD, List.getElem?_append_left (by rw [drow_len]; omega)]
    simp
  | c :: cs, j + 1, hj, t, ht => by
    have := rowD_get cs j (by simpa using hj) t ht
    rw [rowD, List.getElem?_append_right (by rw [drow_len]; omega), drow_len, show (j + 1) * 3 + t - 3 = j * 3 + t by omega, this]
    simp
theorem setD_right (c : Rcd) (x : Value) (R : List Value) (j t : Nat) : (drow c ++ R).set ((j + 1) * 3 + t) x = drow c ++ R.set (j * 3 + t) x := by
  rw [List.set_append_right _ _ (by rw [drow_len]; omega), drow_len, show (j + 1) * 3 + t - 3 = j * 3 + t by omega]
/-- The numbers of a record are set from place i on. -/
def set3d (L : List Value) (i : Nat) (c : Rcd) : List Value :=
  ((L.set (i + 0) (.int .i64 c.a)).set (i + 1) (.int .i64 c.b)).set (i + 2) (.int .i64 c.c)
theorem rowD_set3 : ∀ (cs : List Rcd) (j : Nat) (_ : j < cs.length) (c' : Rcd), set3d (rowD cs) (j * 3) c' = rowD (cs.set j c')
  | [], j, hj, _ => by simp at hj
  | c :: cs, 0, hj, c' => by simp [set3d, rowD, drow]
  | c :: cs, j + 1, hj, c' => by
    have := rowD_set3 cs j (by simpa using hj) c'
    unfold set3d at this ⊢
    rw [rowD]
    simp only [setD_right]
    rw [this, List.set_cons_succ, rowD]
theorem rowD_append : ∀ (cs ds : List Rcd), rowD (cs ++ ds) = rowD cs ++ rowD ds
  | [], ds => rfl
  | c :: cs, ds => by rw [List.cons_append, rowD, rowD, rowD_append cs ds, List.append_assoc]
theorem rowD_take : ∀ (cs : List Rcd) (k : Nat), (rowD cs).take (k * 3) = rowD (cs.take k)
  | [], k => by simp [rowD]
  | c :: cs, 0 => by simp [rowD]
  | c :: cs, k + 1 => by
    have := rowD_take cs k
    rw [rowD, List.take_succ_cons, rowD, show (k + 1) * 3 = (drow c).length + k * 3 by rw [drow_len]; omega, List.take_length_add_append, this]
theorem rowD_drop : ∀ (cs : List Rcd) (k : Nat), (rowD cs).drop (k * 3) = rowD (cs.drop k)
  | [], k => by simp [rowD]
  | c :: cs, 0 => by simp [rowD]
  | c :: cs, k + 1 => by
    have := rowD_drop cs k
    rw [rowD, List.drop_succ_cons, show (k + 1) * 3 = (drow c).length + k * 3 by rw [drow_len]; omega, List.drop_length_add_append, this]
theorem rowD_one : ∀ (cs : List Rcd) (v : Value), v ∈ rowD cs → v.oneCell' = true
  | [], v, h => by simp [rowD] at h
  | c :: cs, v, h => by
    rw [rowD, List.mem_append] at h
    rcases h with h | h
    · simp only [drow, List.mem_cons, List.mem_nil_iff, or_false] at h
      rcases h with rfl | rfl | rfl <;> rfl
    · exact rowD_one cs v h
/-- v reads the records cs. -/
def RdD (w : World) (v : Value) (cs : List Rcd) : Prop :=
  ∃ (a : Option Addr) (cap : Nat), v = .slice a cs.length cap ∧ cs.length ≤ cap ∧ cap ≤ maxLen ∧
    ∀ i (hi : i < cs.length), ∃ b o, a = some ⟨b, o, none⟩ ∧ ∀ t x, (drow cs[i])[t]? = some x → w.cell? ⟨b, o + i * 3 + t, none⟩ = some x
theorem RdD.parts {w : World} {v : Value} {cs : List Rcd} (h : RdD w v cs) : ∃ (a : Option Addr) (cap : Nat), v = .slice a cs.length cap ∧ cs.length ≤ cap ∧ cap ≤ maxLen ∧
    ∀ i (hi : i < cs.length), ∃ b o, a = some ⟨b, o, none⟩ ∧ ∀ t x, (drow cs[i])[t]? = some x → w.cell? ⟨b, o + i * 3 + t, none⟩ = some x := h
theorem RdD.nil (w : World) : RdD w (.slice none 0 0) [] := ⟨none, 0, rfl, Nat.le_refl _, Nat.zero_le _, fun i hi => by simp at hi⟩
theorem RdD.below {w w' : World} {v : Value} {cs : List Rcd} (h : RdD w v cs) (hb : Below w.heap.size w w') : RdD w' v cs := by
  obtain ⟨a, cap, rfl, hn, hm, hcs⟩ := h
  refine ⟨a, cap, rfl, hn, hm, fun i hi => ?_⟩
  obtain ⟨b, o, rfl, h1⟩ := hcs i hi
  exact ⟨b, o, rfl, fun t x q => cell_kept hb (h1 t x q)⟩
/-- A record's cells at an address. -/
theorem d_cells {w : World} {b o : Nat} {c : Rcd} (h : ∀ t x, (drow c)[t]? = some x → w.cell? ⟨b, o + t, none⟩ = some x) :
    w.cell? ⟨b, o, none⟩ = some (.int .i64 c.a) ∧ w.cell? ⟨b, o + 1, none⟩ = some (.int .i64 c.b) ∧ w.cell? ⟨b, o + 2, none⟩ = some (.int .i64 c.c) :=
  ⟨h 0 _ rfl, h 1 _ rfl, h 2 _ rfl⟩
/-- The slice v is the call's own, from block 'base' on, and reads cs. -/
def OwD (w : World) (base : Nat) (v : Value) (cs : List Rcd) : Prop := w.ownsRow base 47 3 v cs.length (rowD cs)
theorem lt3d {c : Rcd} {t : Nat} {x : Value} (q : (drow c)[t]? = some x) : t < 3 := by
  rcases Nat.lt_or_ge t 3 with q' | q'
  · exact q'
  · rw [List.getElem?_eq_none (by rw [drow_len]; omega)] at q; cases q
theorem OwD.nil (w : World) (base : Nat) : OwD w base (.slice none 0 0) [] := World.ownsRow_nil _ _ _ _
theorem OwD.rd {w : World} {base : Nat} {v : Value} {cs : List Rcd} (h : OwD w base v cs) : RdD w v cs := by
  rcases h.2 with ⟨rfl, h0⟩ | ⟨g, cap, cur, rfl, hb, hg, hn, hm, hs, ht⟩
  · obtain rfl := List.eq_nil_of_length_eq_zero h0
    exact RdD.nil w
  · refine ⟨_, cap, rfl, hn, hm, fun i hi' => ⟨g, 0, rfl, fun t x q => ?_⟩⟩
    have ht := lt3d q
    rw [Nat.zero_add, World.ownsRow.cellAt h (i * 3 + t) (by omega), rowD_get cs i hi' t ht]
    exact q
theorem row_below3 {w w' : World} {lo n : Nat} {T : TypeId} {v : Value} {L : List Value} (h1 : w.ownsRow lo T 3 v n L) (hB : Below w.heap.size w w') : w'.ownsRow lo T 3 v n L := by
  refine ⟨h1.1, ?_⟩
  rcases h1.2 with hn | ⟨g, cap, cur, rfl, hbb, hgg, rest⟩
  · exact .inl hn
  · exact .inr ⟨g, cap, cur, rfl, hbb, var_below hB hgg, rest⟩
theorem OwD.below {w w' : World} {base : Nat} {v : Value} {cs : List Rcd} (h : OwD w base v cs) (hb : Below w.heap.size w w') : OwD w' base v cs := row_below3 h hb
theorem OwD.mono {w : World} {base base' : Nat} {v : Value} {cs : List Rcd} (h : OwD w base v cs) (hb : base' ≤ base) : OwD w base' v cs := by
  refine ⟨h.1, ?_⟩
  rcases h.2 with hn | ⟨g, cap, cur, rfl, hbb, rest⟩
  · exact .inl hn
  · exact .inr ⟨g, cap, cur, rfl, by omega, rest⟩
theorem OwD.kept {w w' : World} {base : Nat} {v : Value} {cs : List Rcd} {row : Option Nat} (h : OwD w base v cs) (hg : w.grownBy w' row) (hne : v.ownBlock = none ∨ v.ownBlock ≠ row) : OwD w' base v cs :=
  World.ownsRow.kept h hg hne
theorem OwD.lt {w : World} {base : Nat} {v : Value} {cs : List Rcd} (h : OwD w base v cs) (g : Nat) (e : v.ownBlock = some g) : base ≤ g ∧ g < w.heap.size := World.ownsRow.lt h g e
theorem OwD.row {w : World} {base B : Nat} {v : Value} {cs : List Rcd} (h : OwD w base v cs) (hB : B ≤ base) : ∀ k, v.ownBlock = some k → B ≤ k := by
  intro k hk
  have := h.lt k hk
  omega
/-- The row's cells are there, and may be stored into. -/
theorem OwD.open {w : World} {lo g cap n : Nat} {cs : List Rcd} (hn : cs.length = n) (h : OwD w lo (.slice (some ⟨g, 0, none⟩) n cap) cs) (j : Nat) (hj : j < cs.length) :
    (∀ t x, (drow cs[j])[t]? = some x → w.cell? ⟨g, j * 3 + t, none⟩ = some x) ∧ ∀ i, w.frozen? ⟨g, i, none⟩ = false := by
  subst hn
  refine ⟨fun t x q => ?_, fun i => World.ownsRow.frozenAt h _⟩
  have ht := lt3d q
  rw [World.ownsRow.cellAt h (j * 3 + t) (by omega), rowD_get cs j hj t ht]
  exact q
/-- Four numbers stored from cell i of block g on. -/
def st3d (w : World) (g i : Nat) (c : Rcd) : World :=
  ((w.setCell ⟨g, i + 0, none⟩ (.int .i64 c.a)).setCell ⟨g, i + 1, none⟩ (.int .i64 c.b)).setCell ⟨g, i + 2, none⟩ (.int .i64 c.c)
theorem st3d_row {w : World} {lo g cap n i : Nat} {T : TypeId} {L : List Value} {c : Rcd} (h : w.ownsRow lo T 3 (.slice (some ⟨g, 0, none⟩) n cap) n L) : (st3d w g i c).ownsRow lo T 3 (.slice (some ⟨g, 0, none⟩) n cap) n (set3d L i c) := by
  have h0 := (World.ownsRow.stored h (i + 0) (.int .i64 c.a)).1
  have h1 := (World.ownsRow.stored h0 (i + 1) (.int .i64 c.b)).1
  exact (World.ownsRow.stored h1 (i + 2) (.int .i64 c.c)).1
theorem setD_grown (w : World) (g i : Nat) (x : Value) : w.grownBy (w.setCell ⟨g, i, none⟩ x) (some g) :=
  ⟨by simp [World.setCell], by simp [World.setCell], by simp [World.setCell], by simp, fun k hk hne => Below.heap_setCell _ _ _ _ (fun e => hne (by rw [e]))⟩
theorem st3d_grown (w : World) (g i : Nat) (c : Rcd) : w.grownBy (st3d w g i c) (some g) := by
  unfold st3d
  exact grown_trans (grown_trans (setD_grown _ _ _ _) (setD_grown _ _ _ _)) (setD_grown _ _ _ _)
/-- One record is stored into a row of the call's own. -/
theorem OwD.put {w : World} {lo g cap n : Nat} {cs : List Rcd} (hn : cs.length = n) (h : OwD w lo (.slice (some ⟨g, 0, none⟩) n cap) cs) (j : Nat) (hj : j < cs.length) (c : Rcd) :
    OwD (st3d w g (j * 3) c) lo (.slice (some ⟨g, 0, none⟩) n cap) (cs.set j c) := by
  subst hn
  have := st3d_row (i := j * 3) (c := c) h
  rw [rowD_set3 cs j hj c] at this
  unfold OwD
  rw [List.length_set]
  exact this
/-- The slice v reads cs, and it is its own: its block lies between lo and hi. -/
def OD (w : World) (lo hi : Nat) (v : Value) (cs : List Rcd) : Prop := OwD w lo v cs ∧ ∀ g, v.ownBlock = some g → g < hi
theorem OD.of {w : World} {lo : Nat} {v : Value} {cs : List Rcd} (h : OwD w lo v cs) : OD w lo w.heap.size v cs := ⟨h, fun g e => (h.lt g e).2⟩
theorem OD.nil (w : World) (lo hi : Nat) : OD w lo hi (.slice none 0 0) [] := ⟨OwD.nil w lo, fun g e => by cases e⟩
theorem OD.rd {w : World} {lo hi : Nat} {v : Value} {cs : List Rcd} (h : OD w lo hi v cs) : RdD w v cs := h.1.rd
theorem OD.agr {w w' : World} {lo hi : Nat} {v : Value} {cs : List Rcd} (h : OD w lo hi v cs) (k : Agr lo hi w w') : OD w' lo hi v cs := by
  obtain ⟨⟨h1, h2⟩, h3⟩ := h
  refine ⟨⟨h1, ?_⟩, h3⟩
  rcases h2 with hn | ⟨g, cap, cur, rfl, hbb, hgg, rest⟩
  · exact .inl hn
  · exact .inr ⟨g, cap, cur, rfl, hbb, by rw [k g hbb (h3 g rfl)]; exact hgg, rest⟩
theorem OD.below {w w' : World} {lo hi : Nat} {v : Value} {cs : List Rcd} (h : OD w lo hi v cs) (k : Below w.heap.size w w') : OD w' lo hi v cs := ⟨h.1.below k, h.2⟩
theorem OD.mono {w : World} {lo hi lo' hi' : Nat} {v : Value} {cs : List Rcd} (h : OD w lo hi v cs) (h1 : lo' ≤ lo) (h2 : hi ≤ hi') : OD w lo' hi' v cs :=
  ⟨h.1.mono h1, fun g e => Nat.lt_of_lt_of_le (h.2 g e) h2⟩
theorem OD.under {w : World} {lo hi : Nat} {v : Value} {cs : List Rcd} (h : OD w lo hi v cs) (a : Addr) (ha : a.block < lo) (x : Value) : OD (w.setCell a x) lo hi v cs :=
  ⟨ownsRow_setCell_below h.1 ha x, h.2⟩
theorem OD.blk {w : World} {lo hi g : Nat} {v : Value} {cs : List Rcd} (h : OD w lo hi v cs) (e : v.ownBlock = some g) : lo ≤ g ∧ g < hi := ⟨(h.1.lt g e).1, h.2 g e⟩
/-- The records whose numbers are k, k + 1, .. -/
def marksD (k n : Nat) : List Rcd := (List.range n).map fun i => ⟨((k + i * 3 : Nat) : Int), ((k + i * 3 + 1 : Nat) : Int), ((k + i * 3 + 2 : Nat) : Int)⟩
theorem marksD_len (k n : Nat) : (marksD k n).length = n := by simp [marksD]
theorem marksD_at (k n i : Nat) (h : i < (marksD k n).length) : (marksD k n)[i] = ⟨((k + i * 3 : Nat) : Int), ((k + i * 3 + 1 : Nat) : Int), ((k + i * 3 + 2 : Nat) : Int)⟩ := by simp [marksD]
/-- The first j records are marked. -/
def markedD (cs : List Rcd) (k j : Nat) : List Rcd := marksD k j ++ cs.drop j
theorem markedD_len (cs : List Rcd) (k j : Nat) (h : j ≤ cs.length) : (markedD cs k j).length = cs.length := by simp [markedD, marksD_len]; omega
theorem markedD_zero (cs : List Rcd) (k : Nat) : markedD cs k 0 = cs := by simp [markedD, marksD]
theorem markedD_end (cs : List Rcd) (k : Nat) : markedD cs k cs.length = marksD k cs.length := by simp [markedD]
theorem markedD_set (cs : List Rcd) (k j : Nat) (h : j < cs.length) : (markedD cs k j).set j ⟨((k + j * 3 : Nat) : Int), ((k + j * 3 + 1 : Nat) : Int), ((k + j * 3 + 2 : Nat) : Int)⟩ = markedD cs k (j + 1) := by
  unfold markedD
  have e1 : marksD k (j + 1) = marksD k j ++ [⟨((k + j * 3 : Nat) : Int), ((k + j * 3 + 1 : Nat) : Int), ((k + j * 3 + 2 : Nat) : Int)⟩] := by simp [marksD, List.range_succ]
  rw [e1, List.append_assoc, List.singleton_append, List.set_append_right _ _ (by rw [marksD_len]; omega), marksD_len, Nat.sub_self, List.drop_eq_getElem_cons h, List.set_cons_zero]
/-- No record. -/
def zD : Rcd := ⟨0, 0, 0⟩
/-- The first k are there. -/
def tkD (cs : List Rcd) (k : Nat) : List Rcd := cs.take k ++ List.replicate (cs.length - k) zD
theorem tkD_len (cs : List Rcd) (k : Nat) (h : k ≤ cs.length) : (tkD cs k).length = cs.length := by simp [tkD]; omega
theorem tkD_set (cs : List Rcd) (k : Nat) (h : k < cs.length) : (tkD cs k).set k cs[k] = tkD cs (k + 1) := by
  unfold tkD
  rw [List.take_succ_eq_append_getElem h, List.set_append_right _ _ (by simp; omega), List.length_take, show k - min k cs.length = 0 by omega, show cs.length - k = (cs.length - (k + 1)) + 1 by omega, List.replicate_succ, List.set_cons_zero, List.append_assoc]
  rfl
theorem tkD_end (cs : List Rcd) : tkD cs cs.length = cs := by simp [tkD]
theorem maded3 (n : Nat) : (madeCells (Value.agg #[.int .i64 0, .int .i64 0, .int .i64 0]).cells (n * 3)).toList = rowD (List.replicate n zD) := by
  apply List.ext_getElem?
  intro i
  by_cases hi : i < n * 3
  · have h1 := rowD_get (List.replicate n zD) (i / 3) (by simp; omega) (i % 3) (by omega)
    rw [show i / 3 * 3 + i % 3 = i by omega] at h1
    rw [h1]
    have h2 : ∀ t, t < 3 → some ((Value.agg #[.int .i64 0, .int .i64 0, .int .i64 0]).cells[t]!) = (drow zD)[t]? := fun t ht => by
      match t, ht with
      | 0, _ => rfl
      | 1, _ => rfl
      | 2, _ => rfl
    have h3 := h2 (i % 3) (by omega)
    simp only [List.getElem_replicate]
    rw [← h3]
    simp [madeCells, hi, Value.cells]
  · rw [List.getElem?_eq_none (by simp [madeCells]; omega), List.getElem?_eq_none (by rw [rowD_len]; simp; omega)]
end Go.Proofs.Ytemkokgejohlbaa.W
