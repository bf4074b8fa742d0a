/-
  Slices of claims in memory: what they read, what a call owns. No function of the program is named here (types' numbers alone).
-/
import Derived.Test.YtalaolfcdaaaoaaIv
namespace Go.Proofs.Ytalaolfcdaaaoaa.W
open Go.RowKit
open Go.Proofs.Ytalaolfcdaaaoaa.M

/-- A claim. -/
structure Clm where
  n : Int
  i : Int
  s : Int
  m : Int
theorem Clm.ext' {a b : Clm} (h1 : a.n = b.n) (h2 : a.i = b.i) (h3 : a.s = b.s) (h4 : a.m = b.m) : a = b := by
  cases a; cases b; simp only at h1 h2 h3 h4; subst h1; subst h2; subst h3; subst h4; rfl
/-- A claim's cells. -/
def crow (c : Clm) : List Value := [.int .i64 c.n, .int .i64 c.i, .int .i64 c.s, .int .i64 c.m]
def rowC : List Clm → List Value
  | [] => []
  | c :: cs => crow c ++ rowC cs
theorem crow_len (c : Clm) : (crow c).length = 4 := rfl
theorem rowC_len : ∀ (cs : List Clm), (rowC cs).length = cs.length * 4
  | [] => rfl
  | c :: cs => by
    have := rowC_len cs
    rw [rowC, List.length_append, this, crow_len, List.length_cons]; omega
theorem rowC_get : ∀ (cs : List Clm) (j : Nat) (hj : j < cs.length) (t : Nat), t < 4 → (rowC cs)[j * 4 + t]? = (crow cs[j])[t]?
  | [], j, hj, _, _ => by simp at hj
  | c :: cs, 0, hj, t, ht => by
    rw [rowC, List.getElem?_append_left (by rw [crow_len]; omega)]
    simp
  | c :: cs, j + 1, hj, t, ht => by
    have := rowC_get cs j (by simpa using hj) t ht
    rw [rowC, List.getElem?_append_right (by rw [crow_len]; omega), crow_len, show (j + 1) * 4 + t - 4 = j * 4 + t by omega, this]
    simp
theorem setC_right (c : Clm) (x : Value) (R : List Value) (j t : Nat) : (crow c ++ R).set ((j + 1) * 4 + t) x = crow c ++ R.set (j * 4 + t) x := by
  rw [List.set_append_right _ _ (by rw [crow_len]; omega), crow_len, show (j + 1) * 4 + t - 4 = j * 4 + t by omega]
/-- The numbers of a claim are set from place i on. -/
def set4 (L : List Value) (i : Nat) (c : Clm) : List Value :=
  (((L.set (i + 0) (.int .i64 c.n)).set (i + 1) (.int .i64 c.i)).set (i + 2) (.int .i64 c.s)).set (i + 3) (.int .i64 c.m)
theorem rowC_set4 : ∀ (cs : List Clm) (j : Nat) (_ : j < cs.length) (c' : Clm), set4 (rowC cs) (j * 4) c' = rowC (cs.set j c')
  | [], j, hj, _ => by simp at hj
  | c :: cs, 0, hj, c' => by simp [set4, rowC, crow]
  | c :: cs, j + 1, hj, c' => by
    have := rowC_set4 cs j (by simpa using hj) c'
    unfold set4 at this ⊢
    rw [rowC]
    simp only [setC_right]
    rw [this, List.set_cons_succ, rowC]
theorem rowC_append : ∀ (cs ds : List Clm), rowC (cs ++ ds) = rowC cs ++ rowC ds
  | [], ds => rfl
  | c :: cs, ds => by rw [List.cons_append, rowC, rowC, rowC_append cs ds, List.append_assoc]
theorem rowC_take : ∀ (cs : List Clm) (k : Nat), (rowC cs).take (k * 4) = rowC (cs.take k)
  | [], k => by simp [rowC]
  | c :: cs, 0 => by simp [rowC]
  | c :: cs, k + 1 => by
    have := rowC_take cs k
    rw [rowC, List.take_succ_cons, rowC, show (k + 1) * 4 = (crow c).length + k * 4 by rw [crow_len]; omega, List.take_length_add_append, this]
theorem rowC_drop : ∀ (cs : List Clm) (k : Nat), (rowC cs).drop (k * 4) = rowC (cs.drop k)
  | [], k => by simp [rowC]
  | c :: cs, 0 => by simp [rowC]
  | c :: cs, k + 1 => by
    have := rowC_drop cs k
    rw [rowC, List.drop_succ_cons, show (k + 1) * 4 = (crow c).length + k * 4 by rw [crow_len]; omega, List.drop_length_add_append, this]
theorem rowC_one : ∀ (cs : List Clm) (v : Value), v ∈ rowC cs → v.oneCell' = true
  | [], v, h => by simp [rowC] at h
  | c :: cs, v, h => by
    rw [rowC, List.mem_append] at h
    rcases h with h | h
    · simp only [crow, List.mem_cons, List.mem_nil_iff, or_false] at h
      rcases h with rfl | rfl | rfl | rfl <;> rfl
    · exact rowC_one cs v h
/-- v reads the claims cs. -/
def RdC (w : World) (v : Value) (cs : List Clm) : Prop :=
  ∃ (a : Option Addr) (cap : Nat), v = .slice a cs.length cap ∧ cs.length ≤ cap ∧ cap ≤ maxLen ∧
    ∀ i (hi : i < cs.length), ∃ b o, a = some ⟨b, o, none⟩ ∧ ∀ t x, (crow cs[i])[t]? = some x → w.cell? ⟨b, o + i * 4 + t, none⟩ = some x
theorem RdC.parts {w : World} {v : Value} {cs : List Clm} (h : RdC w v cs) : ∃ (a : Option Addr) (cap : Nat), v = .slice a cs.length cap ∧ cs.length ≤ cap ∧ cap ≤ maxLen ∧
    ∀ i (hi : i < cs.length), ∃ b o, a = some ⟨b, o, none⟩ ∧ ∀ t x, (crow cs[i])[t]? = some x → w.cell? ⟨b, o + i * 4 + t, none⟩ = some x := h
theorem RdC.nil (w : World) : RdC w (.slice none 0 0) [] := ⟨none, 0, rfl, Nat.le_refl _, Nat.zero_le _, fun i hi => by simp at hi⟩
theorem RdC.below {w w' : World} {v : Value} {cs : List Clm} (h : RdC w v cs) (hb : Below w.heap.size w w') : RdC w' v cs := by
  obtain ⟨a, cap, rfl, hn, hm, hcs⟩ := h
  refine ⟨a, cap, rfl, hn, hm, fun i hi => ?_⟩
  obtain ⟨b, o, rfl, h1⟩ := hcs i hi
  exact ⟨b, o, rfl, fun t x q => cell_kept hb (h1 t x q)⟩
/-- A claim's cells at an address. -/
theorem c_cells {w : World} {b o : Nat} {c : Clm} (h : ∀ t x, (crow c)[t]? = some x → w.cell? ⟨b, o + t, none⟩ = some x) :
    w.cell? ⟨b, o, none⟩ = some (.int .i64 c.n) ∧ w.cell? ⟨b, o + 1, none⟩ = some (.int .i64 c.i) ∧ w.cell? ⟨b, o + 2, none⟩ = some (.int .i64 c.s) ∧ w.cell? ⟨b, o + 3, none⟩ = some (.int .i64 c.m) :=
  ⟨h 0 _ rfl, h 1 _ rfl, h 2 _ rfl, h 3 _ rfl⟩
/-- The slice v is the call's own, from block 'base' on, and reads cs. -/
def OwC (w : World) (base : Nat) (v : Value) (cs : List Clm) : Prop := w.ownsRow base 38 4 v cs.length (rowC cs)
theorem lt4 {c : Clm} {t : Nat} {x : Value} (q : (crow c)[t]? = some x) : t < 4 := by
  rcases Nat.lt_or_ge t 4 with q' | q'
  · exact q'
  · rw [List.getElem?_eq_none (by rw [crow_len]; omega)] at q; cases q
theorem OwC.nil (w : World) (base : Nat) : OwC w base (.slice none 0 0) [] := World.ownsRow_nil _ _ _ _
theorem OwC.rd {w : World} {base : Nat} {v : Value} {cs : List Clm} (h : OwC w base v cs) : RdC w v cs := by
  rcases h.2 with ⟨rfl, h0⟩ | ⟨g, cap, cur, rfl, hb, hg, hn, hm, hs, ht⟩
  · obtain rfl := List.eq_nil_of_length_eq_zero h0
    exact RdC.nil w
  · refine ⟨_, cap, rfl, hn, hm, fun i hi' => ⟨g, 0, rfl, fun t x q => ?_⟩⟩
    have ht := lt4 q
    rw [Nat.zero_add, World.ownsRow.cellAt h (i * 4 + t) (by omega), rowC_get cs i hi' t ht]
    exact q
theorem row_below4 {w w' : World} {lo n : Nat} {T : TypeId} {v : Value} {L : List Value} (h1 : w.ownsRow lo T 4 v n L) (hB : Below w.heap.size w w') : w'.ownsRow lo T 4 v n L := by
  refine ⟨h1.1, ?_⟩
  rcases h1.2 with hn | ⟨g, cap, cur, rfl, hbb, hgg, rest⟩
  · exact .inl hn
  · exact .inr ⟨g, cap, cur, rfl, hbb, var_below hB hgg, rest⟩
theorem OwC.below {w w' : World} {base : Nat} {v : Value} {cs : List Clm} (h : OwC w base v cs) (hb : Below w.heap.size w w') : OwC w' base v cs := row_below4 h hb
theorem OwC.mono {w : World} {base base' : Nat} {v : Value} {cs : List Clm} (h : OwC w base v cs) (hb : base' ≤ base) : OwC w base' v cs := by
  refine ⟨h.1, ?_⟩
  rcases h.2 with hn | ⟨g, cap, cur, rfl, hbb, rest⟩
  · exact .inl hn
  · exact .inr ⟨g, cap, cur, rfl, by omega, rest⟩
theorem OwC.kept {w w' : World} {base : Nat} {v : Value} {cs : List Clm} {row : Option Nat} (h : OwC w base v cs) (hg : w.grownBy w' row) (hne : v.ownBlock = none ∨ v.ownBlock ≠ row) : OwC w' base v cs :=
  World.ownsRow.kept h hg hne
theorem OwC.lt {w : World} {base : Nat} {v : Value} {cs : List Clm} (h : OwC w base v cs) (g : Nat) (e : v.ownBlock = some g) : base ≤ g ∧ g < w.heap.size := World.ownsRow.lt h g e
theorem OwC.row {w : World} {base B : Nat} {v : Value} {cs : List Clm} (h : OwC w base v cs) (hB : B ≤ base) : ∀ k, v.ownBlock = some k → B ≤ k := by
  intro k hk
  have := h.lt k hk
  omega
/-- The row's cells are there, and may be stored into. -/
theorem OwC.open {w : World} {lo g cap n : Nat} {cs : List Clm} (hn : cs.length = n) (h : OwC w lo (.slice (some ⟨g, 0, none⟩) n cap) cs) (j : Nat) (hj : j < cs.length) :
    (∀ t x, (crow cs[j])[t]? = some x → w.cell? ⟨g, j * 4 + t, none⟩ = some x) ∧ ∀ i, w.frozen? ⟨g, i, none⟩ = false := by
  subst hn
  refine ⟨fun t x q => ?_, fun i => World.ownsRow.frozenAt h _⟩
  have ht := lt4 q
  rw [World.ownsRow.cellAt h (j * 4 + t) (by omega), rowC_get cs j hj t ht]
  exact q
/-- Four numbers stored from cell i of block g on. -/
def st4 (w : World) (g i : Nat) (c : Clm) : World :=
  (((w.setCell ⟨g, i + 0, none⟩ (.int .i64 c.n)).setCell ⟨g, i + 1, none⟩ (.int .i64 c.i)).setCell ⟨g, i + 2, none⟩ (.int .i64 c.s)).setCell ⟨g, i + 3, none⟩ (.int .i64 c.m)
theorem st4_row {w : World} {lo g cap n i : Nat} {T : TypeId} {L : List Value} {c : Clm} (h : w.ownsRow lo T 4 (.slice (some ⟨g, 0, none⟩) n cap) n L) : (st4 w g i c).ownsRow lo T 4 (.slice (some ⟨g, 0, none⟩) n cap) n (set4 L i c) := by
  have h0 := (World.ownsRow.stored h (i + 0) (.int .i64 c.n)).1
  have h1 := (World.ownsRow.stored h0 (i + 1) (.int .i64 c.i)).1
  have h2 := (World.ownsRow.stored h1 (i + 2) (.int .i64 c.s)).1
  exact (World.ownsRow.stored h2 (i + 3) (.int .i64 c.m)).1
theorem set_grown (w : World) (g i : Nat) (x : Value) : w.grownBy (w.setCell ⟨g, i, none⟩ x) (some g) :=
  ⟨by simp [World.setCell], by simp [World.setCell], by simp [World.setCell], by simp, fun k hk hne => Below.heap_setCell _ _ _ _ (fun e => hne (by rw [e]))⟩
theorem st4_grown (w : World) (g i : Nat) (c : Clm) : w.grownBy (st4 w g i c) (some g) := by
  unfold st4
  exact grown_trans (grown_trans (grown_trans (set_grown _ _ _ _) (set_grown _ _ _ _)) (set_grown _ _ _ _)) (set_grown _ _ _ _)
/-- One claim is stored into a row of the call's own. -/
theorem OwC.put {w : World} {lo g cap n : Nat} {cs : List Clm} (hn : cs.length = n) (h : OwC w lo (.slice (some ⟨g, 0, none⟩) n cap) cs) (j : Nat) (hj : j < cs.length) (c : Clm) :
    OwC (st4 w g (j * 4) c) lo (.slice (some ⟨g, 0, none⟩) n cap) (cs.set j c) := by
  subst hn
  have := st4_row (i := j * 4) (c := c) h
  rw [rowC_set4 cs j hj c] at this
  unfold OwC
  rw [List.length_set]
  exact this
/-- The slice v reads cs, and it is its own: its block lies between lo and hi. -/
def OC (w : World) (lo hi : Nat) (v : Value) (cs : List Clm) : Prop := OwC w lo v cs ∧ ∀ g, v.ownBlock = some g → g < hi
theorem OC.of {w : World} {lo : Nat} {v : Value} {cs : List Clm} (h : OwC w lo v cs) : OC w lo w.heap.size v cs := ⟨h, fun g e => (h.lt g e).2⟩
theorem OC.nil (w : World) (lo hi : Nat) : OC w lo hi (.slice none 0 0) [] := ⟨OwC.nil w lo, fun g e => by cases e⟩
theorem OC.rd {w : World} {lo hi : Nat} {v : Value} {cs : List Clm} (h : OC w lo hi v cs) : RdC w v cs := h.1.rd
theorem OC.agr {w w' : World} {lo hi : Nat} {v : Value} {cs : List Clm} (h : OC w lo hi v cs) (k : Agr lo hi w w') : OC w' lo hi v cs := by
  obtain ⟨⟨h1, h2⟩, h3⟩ := h
  refine ⟨⟨h1, ?_⟩, h3⟩
  rcases h2 with hn | ⟨g, cap, cur, rfl, hbb, hgg, rest⟩
  · exact .inl hn
  · exact .inr ⟨g, cap, cur, rfl, hbb, by rw [k g hbb (h3 g rfl)]; exact hgg, rest⟩
theorem OC.below {w w' : World} {lo hi : Nat} {v : Value} {cs : List Clm} (h : OC w lo hi v cs) (k : Below w.heap.size w w') : OC w' lo hi v cs := ⟨h.1.below k, h.2⟩
theorem OC.mono {w : World} {lo hi lo' hi' : Nat} {v : Value} {cs : List Clm} (h : OC w lo hi v cs) (h1 : lo' ≤ lo) (h2 : hi ≤ hi') : OC w lo' hi' v cs :=
  ⟨h.1.mono h1, fun g e => Nat.lt_of_lt_of_le (h.2 g e) h2⟩
theorem OC.under {w : World} {lo hi : Nat} {v : Value} {cs : List Clm} (h : OC w lo hi v cs) (a : Addr) (ha : a.block < lo) (x : Value) : OC (w.setCell a x) lo hi v cs :=
  ⟨ownsRow_setCell_below h.1 ha x, h.2⟩
theorem OC.blk {w : World} {lo hi g : Nat} {v : Value} {cs : List Clm} (h : OC w lo hi v cs) (e : v.ownBlock = some g) : lo ≤ g ∧ g < hi := ⟨(h.1.lt g e).1, h.2 g e⟩
/-- The claims whose numbers are k, k + 1, .. -/
def marksC (k n : Nat) : List Clm := (List.range n).map fun i => ⟨((k + i * 4 : Nat) : Int), ((k + i * 4 + 1 : Nat) : Int), ((k + i * 4 + 2 : Nat) : Int), ((k + i * 4 + 3 : Nat) : Int)⟩
theorem marksC_len (k n : Nat) : (marksC k n).length = n := by simp [marksC]
theorem marksC_at (k n i : Nat) (h : i < (marksC k n).length) : (marksC k n)[i] = ⟨((k + i * 4 : Nat) : Int), ((k + i * 4 + 1 : Nat) : Int), ((k + i * 4 + 2 : Nat) : Int), ((k + i * 4 + 3 : Nat) : Int)⟩ := by simp [marksC]
/-- The first j claims are marked. -/
def markedC (cs : List Clm) (k j : Nat) : List Clm := marksC k j ++ cs.drop j
theorem markedC_len (cs : List Clm) (k j : Nat) (h : j ≤ cs.length) : (markedC cs k j).length = cs.length := by simp [markedC, marksC_len]; omega
theorem markedC_zero (cs : List Clm) (k : Nat) : markedC cs k 0 = cs := by simp [markedC, marksC]
theorem markedC_end (cs : List Clm) (k : Nat) : markedC cs k cs.length = marksC k cs.length := by simp [markedC]
theorem markedC_set (cs : List Clm) (k j : Nat) (h : j < cs.length) : (markedC cs k j).set j ⟨((k + j * 4 : Nat) : Int), ((k + j * 4 + 1 : Nat) : Int), ((k + j * 4 + 2 : Nat) : Int), ((k + j * 4 + 3 : Nat) : Int)⟩ = markedC cs k (j + 1) := by
  unfold markedC
  have e1 : marksC k (j + 1) = marksC k j ++ [⟨((k + j * 4 : Nat) : Int), ((k + j * 4 + 1 : Nat) : Int), ((k + j * 4 + 2 : Nat) : Int), ((k + j * 4 + 3 : Nat) : Int)⟩] := by simp [marksC, List.range_succ]
  rw [e1, List.append_assoc, List.singleton_append, List.set_append_right _ _ (by rw [marksC_len]; omega), marksC_len, Nat.sub_self, List.drop_eq_getElem_cons h, List.set_cons_zero]
/-- No claim. -/
def zC : Clm := ⟨0, 0, 0, 0⟩
/-- The first k are there. -/
def tkC (cs : List Clm) (k : Nat) : List Clm := cs.take k ++ List.replicate (cs.length - k) zC
theorem tkC_len (cs : List Clm) (k : Nat) (h : k ≤ cs.length) : (tkC cs k).length = cs.length := by simp [tkC]; omega
theorem tkC_set (cs : List Clm) (k : Nat) (h : k < cs.length) : (tkC cs k).set k cs[k] = tkC cs (k + 1) := by
  unfold tkC
  rw [List.take_succ_eq_append_getElem h, List.set_append_right _ _ (by simp; omega), List.length_take, show k - min k cs.length = 0 by omega, show cs.length - k = (cs.length - (k + 1)) + 1 by omega, List.replicate_succ, List.set_cons_zero, List.append_assoc]
  rfl
theorem tkC_end (cs : List Clm) : tkC cs cs.length = cs := by simp [tkC]
theorem made4 (n : Nat) : (madeCells (Value.agg #[.int .i64 0, .int .i64 0, .int .i64 0, .int .i64 0]).cells (n * 4)).toList = rowC (List.replicate n zC) := by
  apply List.ext_getElem?
  intro i
  by_cases hi : i < n * 4
  · have h1 := rowC_get (List.replicate n zC) (i / 4) (by simp; omega) (i % 4) (by omega)
    rw [show i / 4 * 4 + i % 4 = i by omega] at h1
    rw [h1]
    have h2 : ∀ t, t < 4 → some ((Value.agg #[.int .i64 0, .int .i64 0, .int .i64 0, .int .i64 0]).cells[t]!) = (crow zC)[t]? := fun t ht => by
      match t, ht with
      | 0, _ => rfl
      | 1, _ => rfl
      | 2, _ => rfl
      | 3, _ => rfl
    have h3 := h2 (i % 4) (by omega)
    simp only [List.getElem_replicate]
    rw [← h3]
    simp [madeCells, hi, Value.cells]
  · rw [List.getElem?_eq_none (by simp [madeCells]; omega), List.getElem?_eq_none (by rw [rowC_len]; simp; omega)]
end Go.Proofs.Ytalaolfcdaaaoaa.W
