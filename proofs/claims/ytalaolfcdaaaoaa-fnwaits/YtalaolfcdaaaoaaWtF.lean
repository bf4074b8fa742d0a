/-
  Slices of waits in memory: what they read, what a call owns. No function of the program is named here (types' numbers alone).
-/
import Derived.Test.YtalaolfcdaaaoaaIv
namespace Go.Proofs.Ytalaolfcdaaaoaa.W
open Go.RowKit
open Go.Proofs.Ytalaolfcdaaaoaa.M

/-- A wait. -/
structure Wai where
  a : Int
  b : Int
  c : Int
  d : Int
  e : Int
  f : Int
  g : Int
theorem Wai.ext' {x y : Wai} (h0 : x.a = y.a) (h1 : x.b = y.b) (h2 : x.c = y.c) (h3 : x.d = y.d) (h4 : x.e = y.e) (h5 : x.f = y.f) (h6 : x.g = y.g) : x = y := by
  cases x; cases y; simp only at h0 h1 h2 h3 h4 h5 h6; subst h0; subst h1; subst h2; subst h3; subst h4; subst h5; subst h6; rfl
/-- A wait's cells. -/
def jrow (c : Wai) : List Value := [.int .i64 c.a, .int .i64 c.b, .int .i64 c.c, .int .i64 c.d, .int .i64 c.e, .int .i64 c.f, .int .i64 c.g]
def rowJ : List Wai → List Value
  | [] => []
  | c :: cs => jrow c ++ rowJ cs
theorem jrow_len (c : Wai) : (jrow c).length = 7 := rfl
theorem rowJ_len : ∀ (cs : List Wai), (rowJ cs).length = cs.length * 7
  | [] => rfl
  | c :: cs => by
    have := rowJ_len cs
    rw [rowJ, List.length_append, this, jrow_len, List.length_cons]; omega
theorem rowJ_get : ∀ (cs : List Wai) (j : Nat) (hj : j < cs.length) (t : Nat), t < 7 → (rowJ cs)[j * 7 + t]? = (jrow cs[j])[t]?
  | [], j, hj, _, _ => by simp at hj
  | c :: cs, 0, hj, t, ht => by
    rw [rowJ, List.getElem?_append_left (by rw [jrow_len]; omega)]
    simp
  | c :: cs, j + 1, hj, t, ht => by
    have := rowJ_get cs j (by simpa using hj) t ht
    rw [rowJ, List.getElem?_append_right (by rw [jrow_len]; omega), jrow_len, show (j + 1) * 7 + t - 7 = j * 7 + t by omega, this]
    simp
theorem setJ_right (c : Wai) (x : Value) (R : List Value) (j t : Nat) : (jrow c ++ R).set ((j + 1) * 7 + t) x = jrow c ++ R.set (j * 7 + t) x := by
  rw [List.set_append_right _ _ (by rw [jrow_len]; omega), jrow_len, show (j + 1) * 7 + t - 7 = j * 7 + t by omega]
/-- The numbers of a wait are set from place i on. -/
def set7 (L : List Value) (i : Nat) (c : Wai) : List Value :=
  ((((((L.set (i + 0) (.int .i64 c.a)).set (i + 1) (.int .i64 c.b)).set (i + 2) (.int .i64 c.c)).set (i + 3) (.int .i64 c.d)).set (i + 4) (.int .i64 c.e)).set (i + 5) (.int .i64 c.f)).set (i + 6) (.int .i64 c.g)
theorem rowJ_set7 : ∀ (cs : List Wai) (j : Nat) (_ : j < cs.length) (c' : Wai), set7 (rowJ cs) (j * 7) c' = rowJ (cs.set j c')
  | [], j, hj, _ => by simp at hj
  | c :: cs, 0, hj, c' => by simp [set7, rowJ, jrow]
  | c :: cs, j + 1, hj, c' => by
    have := rowJ_set7 cs j (by simpa using hj) c'
    unfold set7 at this ⊢
    rw [rowJ]
    simp only [setJ_right]
    rw [this, List.set_cons_succ, rowJ]
theorem rowJ_append : ∀ (cs ds : List Wai), rowJ (cs ++ ds) = rowJ cs ++ rowJ ds
  | [], ds => rfl
  | c :: cs, ds => by rw [List.cons_append, rowJ, rowJ, rowJ_append cs ds, List.append_assoc]
theorem rowJ_take : ∀ (cs : List Wai) (k : Nat), (rowJ cs).take (k * 7) = rowJ (cs.take k)
  | [], k => by simp [rowJ]
  | c :: cs, 0 => by simp [rowJ]
  | c :: cs, k + 1 => by
    have := rowJ_take cs k
    rw [rowJ, List.take_succ_cons, rowJ, show (k + 1) * 7 = (jrow c).length + k * 7 by rw [jrow_len]; omega, List.take_length_add_append, this]
theorem rowJ_drop : ∀ (cs : List Wai) (k : Nat), (rowJ cs).drop (k * 7) = rowJ (cs.drop k)
  | [], k => by simp [rowJ]
  | c :: cs, 0 => by simp [rowJ]
  | c :: cs, k + 1 => by
    have := rowJ_drop cs k
    rw [rowJ, List.drop_succ_cons, show (k + 1) * 7 = (jrow c).length + k * 7 by rw [jrow_len]; omega, List.drop_length_add_append, this]
theorem rowJ_one : ∀ (cs : List Wai) (v : Value), v ∈ rowJ cs → v.oneCell' = true
  | [], v, h => by simp [rowJ] at h
  | c :: cs, v, h => by
    rw [rowJ, List.mem_append] at h
    rcases h with h | h
    · simp only [jrow, List.mem_cons, List.mem_nil_iff, or_false] at h
      rcases h with rfl | rfl | rfl | rfl | rfl | rfl | rfl <;> rfl
    · exact rowJ_one cs v h
/-- v reads the waits cs. -/
def RdJ (w : World) (v : Value) (cs : List Wai) : Prop :=
  ∃ (a : Option Addr) (cap : Nat), v = .slice a cs.length cap ∧ cs.length ≤ cap ∧ cap ≤ maxLen ∧
    ∀ i (hi : i < cs.length), ∃ b o, a = some ⟨b, o, none⟩ ∧ ∀ t x, (jrow cs[i])[t]? = some x → w.cell? ⟨b, o + i * 7 + t, none⟩ = some x
theorem RdJ.parts {w : World} {v : Value} {cs : List Wai} (h : RdJ w v cs) : ∃ (a : Option Addr) (cap : Nat), v = .slice a cs.length cap ∧ cs.length ≤ cap ∧ cap ≤ maxLen ∧
    ∀ i (hi : i < cs.length), ∃ b o, a = some ⟨b, o, none⟩ ∧ ∀ t x, (jrow cs[i])[t]? = some x → w.cell? ⟨b, o + i * 7 + t, none⟩ = some x := h
theorem RdJ.nil (w : World) : RdJ w (.slice none 0 0) [] := ⟨none, 0, rfl, Nat.le_refl _, Nat.zero_le _, fun i hi => by simp at hi⟩
theorem RdJ.below {w w' : World} {v : Value} {cs : List Wai} (h : RdJ w v cs) (hb : Below w.heap.size w w') : RdJ w' v cs := by
  obtain ⟨a, cap, rfl, hn, hm, hcs⟩ := h
  refine ⟨a, cap, rfl, hn, hm, fun i hi => ?_⟩
  obtain ⟨b, o, rfl, h1⟩ := hcs i hi
  exact ⟨b, o, rfl, fun t x q => cell_kept hb (h1 t x q)⟩
/-- A wait's cells at an address. -/
theorem j_cells {w : World} {b o : Nat} {c : Wai} (h : ∀ t x, (jrow c)[t]? = some x → w.cell? ⟨b, o + t, none⟩ = some x) :
    w.cell? ⟨b, o, none⟩ = some (.int .i64 c.a) ∧ w.cell? ⟨b, o + 1, none⟩ = some (.int .i64 c.b) ∧ w.cell? ⟨b, o + 2, none⟩ = some (.int .i64 c.c) ∧ w.cell? ⟨b, o + 3, none⟩ = some (.int .i64 c.d) ∧ w.cell? ⟨b, o + 4, none⟩ = some (.int .i64 c.e) ∧ w.cell? ⟨b, o + 5, none⟩ = some (.int .i64 c.f) ∧ w.cell? ⟨b, o + 6, none⟩ = some (.int .i64 c.g) :=
  ⟨h 0 _ rfl, h 1 _ rfl, h 2 _ rfl, h 3 _ rfl, h 4 _ rfl, h 5 _ rfl, h 6 _ rfl⟩
/-- The slice v is the call's own, from block 'base' on, and reads cs. -/
def OwJ (w : World) (base : Nat) (v : Value) (cs : List Wai) : Prop := w.ownsRow base 63 7 v cs.length (rowJ cs)
theorem lt7 {c : Wai} {t : Nat} {x : Value} (q : (jrow c)[t]? = some x) : t < 7 := by
  rcases Nat.lt_or_ge t 7 with q' | q'
  · exact q'
  · rw [List.getElem?_eq_none (by rw [jrow_len]; omega)] at q; cases q
theorem OwJ.nil (w : World) (base : Nat) : OwJ w base (.slice none 0 0) [] := World.ownsRow_nil _ _ _ _
theorem OwJ.rd {w : World} {base : Nat} {v : Value} {cs : List Wai} (h : OwJ w base v cs) : RdJ w v cs := by
  rcases h.2 with ⟨rfl, h0⟩ | ⟨g, cap, cur, rfl, hb, hg, hn, hm, hs, ht⟩
  · obtain rfl := List.eq_nil_of_length_eq_zero h0
    exact RdJ.nil w
  · refine ⟨_, cap, rfl, hn, hm, fun i hi' => ⟨g, 0, rfl, fun t x q => ?_⟩⟩
    have ht := lt7 q
    rw [Nat.zero_add, World.ownsRow.cellAt h (i * 7 + t) (by omega), rowJ_get cs i hi' t ht]
    exact q
theorem row_below7 {w w' : World} {lo n : Nat} {T : TypeId} {v : Value} {L : List Value} (h1 : w.ownsRow lo T 7 v n L) (hB : Below w.heap.size w w') : w'.ownsRow lo T 7 v n L := by
  refine ⟨h1.1, ?_⟩
  rcases h1.2 with hn | ⟨g, cap, cur, rfl, hbb, hgg, rest⟩
  · exact .inl hn
  · exact .inr ⟨g, cap, cur, rfl, hbb, var_below hB hgg, rest⟩
theorem OwJ.below {w w' : World} {base : Nat} {v : Value} {cs : List Wai} (h : OwJ w base v cs) (hb : Below w.heap.size w w') : OwJ w' base v cs := row_below7 h hb
theorem OwJ.mono {w : World} {base base' : Nat} {v : Value} {cs : List Wai} (h : OwJ w base v cs) (hb : base' ≤ base) : OwJ w base' v cs := by
  refine ⟨h.1, ?_⟩
  rcases h.2 with hn | ⟨g, cap, cur, rfl, hbb, rest⟩
  · exact .inl hn
  · exact .inr ⟨g, cap, cur, rfl, by omega, rest⟩
theorem OwJ.kept {w w' : World} {base : Nat} {v : Value} {cs : List Wai} {row : Option Nat} (h : OwJ w base v cs) (hg : w.grownBy w' row) (hne : v.ownBlock = none ∨ v.ownBlock ≠ row) : OwJ w' base v cs :=
  World.ownsRow.kept h hg hne
theorem OwJ.lt {w : World} {base : Nat} {v : Value} {cs : List Wai} (h : OwJ w base v cs) (g : Nat) (e : v.ownBlock = some g) : base ≤ g ∧ g < w.heap.size := World.ownsRow.lt h g e
theorem OwJ.row {w : World} {base B : Nat} {v : Value} {cs : List Wai} (h : OwJ w base v cs) (hB : B ≤ base) : ∀ k, v.ownBlock = some k → B ≤ k := by
  intro k hk
  have := h.lt k hk
  omega
/-- The row's cells are there, and may be stored into. -/
theorem OwJ.open {w : World} {lo g cap n : Nat} {cs : List Wai} (hn : cs.length = n) (h : OwJ w lo (.slice (some ⟨g, 0, none⟩) n cap) cs) (j : Nat) (hj : j < cs.length) :
    (∀ t x, (jrow cs[j])[t]? = some x → w.cell? ⟨g, j * 7 + t, none⟩ = some x) ∧ ∀ i, w.frozen? ⟨g, i, none⟩ = false := by
  subst hn
  refine ⟨fun t x q => ?_, fun i => World.ownsRow.frozenAt h _⟩
  have ht := lt7 q
  rw [World.ownsRow.cellAt h (j * 7 + t) (by omega), rowJ_get cs j hj t ht]
  exact q
/-- Four numbers stored from cell i of block g on. -/
def st7 (w : World) (g i : Nat) (c : Wai) : World :=
  ((((((w.setCell ⟨g, i + 0, none⟩ (.int .i64 c.a)).setCell ⟨g, i + 1, none⟩ (.int .i64 c.b)).setCell ⟨g, i + 2, none⟩ (.int .i64 c.c)).setCell ⟨g, i + 3, none⟩ (.int .i64 c.d)).setCell ⟨g, i + 4, none⟩ (.int .i64 c.e)).setCell ⟨g, i + 5, none⟩ (.int .i64 c.f)).setCell ⟨g, i + 6, none⟩ (.int .i64 c.g)
theorem st7_row {w : World} {lo g cap n i : Nat} {T : TypeId} {L : List Value} {c : Wai} (h : w.ownsRow lo T 7 (.slice (some ⟨g, 0, none⟩) n cap) n L) : (st7 w g i c).ownsRow lo T 7 (.slice (some ⟨g, 0, none⟩) n cap) n (set7 L i c) := by
  have h0 := (World.ownsRow.stored h (i + 0) (.int .i64 c.a)).1
  have h1 := (World.ownsRow.stored h0 (i + 1) (.int .i64 c.b)).1
  have h2 := (World.ownsRow.stored h1 (i + 2) (.int .i64 c.c)).1
  have h3 := (World.ownsRow.stored h2 (i + 3) (.int .i64 c.d)).1
  have h4 := (World.ownsRow.stored h3 (i + 4) (.int .i64 c.e)).1
  have h5 := (World.ownsRow.stored h4 (i + 5) (.int .i64 c.f)).1
  exact (World.ownsRow.stored h5 (i + 6) (.int .i64 c.g)).1
theorem setJ_grown (w : World) (g i : Nat) (x : Value) : w.grownBy (w.setCell ⟨g, i, none⟩ x) (some g) :=
  ⟨by simp [World.setCell], by simp [World.setCell], by simp [World.setCell], by simp, fun k hk hne => Below.heap_setCell _ _ _ _ (fun e => hne (by rw [e]))⟩
theorem st7_grown (w : World) (g i : Nat) (c : Wai) : w.grownBy (st7 w g i c) (some g) := by
  unfold st7
  exact grown_trans (grown_trans (grown_trans (grown_trans (grown_trans (grown_trans (setJ_grown _ _ _ _) (setJ_grown _ _ _ _)) (setJ_grown _ _ _ _)) (setJ_grown _ _ _ _)) (setJ_grown _ _ _ _)) (setJ_grown _ _ _ _)) (setJ_grown _ _ _ _)
/-- One wait is stored into a row of the call's own. -/
theorem OwJ.put {w : World} {lo g cap n : Nat} {cs : List Wai} (hn : cs.length = n) (h : OwJ w lo (.slice (some ⟨g, 0, none⟩) n cap) cs) (j : Nat) (hj : j < cs.length) (c : Wai) :
    OwJ (st7 w g (j * 7) c) lo (.slice (some ⟨g, 0, none⟩) n cap) (cs.set j c) := by
  subst hn
  have := st7_row (i := j * 7) (c := c) h
  rw [rowJ_set7 cs j hj c] at this
  unfold OwJ
  rw [List.length_set]
  exact this
/-- The slice v reads cs, and it is its own: its block lies between lo and hi. -/
def OJ (w : World) (lo hi : Nat) (v : Value) (cs : List Wai) : Prop := OwJ w lo v cs ∧ ∀ g, v.ownBlock = some g → g < hi
theorem OJ.of {w : World} {lo : Nat} {v : Value} {cs : List Wai} (h : OwJ w lo v cs) : OJ w lo w.heap.size v cs := ⟨h, fun g e => (h.lt g e).2⟩
theorem OJ.nil (w : World) (lo hi : Nat) : OJ w lo hi (.slice none 0 0) [] := ⟨OwJ.nil w lo, fun g e => by cases e⟩
theorem OJ.rd {w : World} {lo hi : Nat} {v : Value} {cs : List Wai} (h : OJ w lo hi v cs) : RdJ w v cs := h.1.rd
theorem OJ.agr {w w' : World} {lo hi : Nat} {v : Value} {cs : List Wai} (h : OJ w lo hi v cs) (k : Agr lo hi w w') : OJ w' lo hi v cs := by
  obtain ⟨⟨h1, h2⟩, h3⟩ := h
  refine ⟨⟨h1, ?_⟩, h3⟩
  rcases h2 with hn | ⟨g, cap, cur, rfl, hbb, hgg, rest⟩
  · exact .inl hn
  · exact .inr ⟨g, cap, cur, rfl, hbb, by rw [k g hbb (h3 g rfl)]; exact hgg, rest⟩
theorem OJ.below {w w' : World} {lo hi : Nat} {v : Value} {cs : List Wai} (h : OJ w lo hi v cs) (k : Below w.heap.size w w') : OJ w' lo hi v cs := ⟨h.1.below k, h.2⟩
theorem OJ.mono {w : World} {lo hi lo' hi' : Nat} {v : Value} {cs : List Wai} (h : OJ w lo hi v cs) (h1 : lo' ≤ lo) (h2 : hi ≤ hi') : OJ w lo' hi' v cs :=
  ⟨h.1.mono h1, fun g e => Nat.lt_of_lt_of_le (h.2 g e) h2⟩
theorem OJ.under {w : World} {lo hi : Nat} {v : Value} {cs : List Wai} (h : OJ w lo hi v cs) (a : Addr) (ha : a.block < lo) (x : Value) : OJ (w.setCell a x) lo hi v cs :=
  ⟨ownsRow_setCell_below h.1 ha x, h.2⟩
theorem OJ.blk {w : World} {lo hi g : Nat} {v : Value} {cs : List Wai} (h : OJ w lo hi v cs) (e : v.ownBlock = some g) : lo ≤ g ∧ g < hi := ⟨(h.1.lt g e).1, h.2 g e⟩
/-- The waits whose numbers are k, k + 1, .. -/
def marksJ (k n : Nat) : List Wai := (List.range n).map fun i => ⟨((k + i * 7 : Nat) : Int), ((k + i * 7 + 1 : Nat) : Int), ((k + i * 7 + 2 : Nat) : Int), ((k + i * 7 + 3 : Nat) : Int), ((k + i * 7 + 4 : Nat) : Int), ((k + i * 7 + 5 : Nat) : Int), ((k + i * 7 + 6 : Nat) : Int)⟩
theorem marksJ_len (k n : Nat) : (marksJ k n).length = n := by simp [marksJ]
theorem marksJ_at (k n i : Nat) (h : i < (marksJ k n).length) : (marksJ k n)[i] = ⟨((k + i * 7 : Nat) : Int), ((k + i * 7 + 1 : Nat) : Int), ((k + i * 7 + 2 : Nat) : Int), ((k + i * 7 + 3 : Nat) : Int), ((k + i * 7 + 4 : Nat) : Int), ((k + i * 7 + 5 : Nat) : Int), ((k + i * 7 + 6 : Nat) : Int)⟩ := by simp [marksJ]
/-- The first j waits are marked. -/
def markedJ (cs : List Wai) (k j : Nat) : List Wai := marksJ k j ++ cs.drop j
theorem markedJ_len (cs : List Wai) (k j : Nat) (h : j ≤ cs.length) : (markedJ cs k j).length = cs.length := by simp [markedJ, marksJ_len]; omega
theorem markedJ_zero (cs : List Wai) (k : Nat) : markedJ cs k 0 = cs := by simp [markedJ, marksJ]
theorem markedJ_end (cs : List Wai) (k : Nat) : markedJ cs k cs.length = marksJ k cs.length := by simp [markedJ]
theorem markedJ_set (cs : List Wai) (k j : Nat) (h : j < cs.length) : (markedJ cs k j).set j ⟨((k + j * 7 : Nat) : Int), ((k + j * 7 + 1 : Nat) : Int), ((k + j * 7 + 2 : Nat) : Int), ((k + j * 7 + 3 : Nat) : Int), ((k + j * 7 + 4 : Nat) : Int), ((k + j * 7 + 5 : Nat) : Int), ((k + j * 7 + 6 : Nat) : Int)⟩ = markedJ cs k (j + 1) := by
  unfold markedJ
  have e1 : marksJ k (j + 1) = marksJ k j ++ [⟨((k + j * 7 : Nat) : Int), ((k + j * 7 + 1 : Nat) : Int), ((k + j * 7 + 2 : Nat) : Int), ((k + j * 7 + 3 : Nat) : Int), ((k + j * 7 + 4 : Nat) : Int), ((k + j * 7 + 5 : Nat) : Int), ((k + j * 7 + 6 : Nat) : Int)⟩] := by simp [marksJ, List.range_succ]
  rw [e1, List.append_assoc, List.singleton_append, List.set_append_right _ _ (by rw [marksJ_len]; omega), marksJ_len, Nat.sub_self, List.drop_eq_getElem_cons h, List.set_cons_zero]
/-- No wait. -/
def zJ : Wai := ⟨0, 0, 0, 0, 0, 0, 0⟩
/-- The first k are there. -/
def tkJ (cs : List Wai) (k : Nat) : List Wai := cs.take k ++ List.replicate (cs.length - k) zJ
theorem tkJ_len (cs : List Wai) (k : Nat) (h : k ≤ cs.length) : (tkJ cs k).length = cs.length := by simp [tkJ]; omega
theorem tkJ_set (cs : List Wai) (k : Nat) (h : k < cs.length) : (tkJ cs k).set k cs[k] = tkJ cs (k + 1) := by
  unfold tkJ
  rw [List.take_succ_eq_append_getElem h, List.set_append_right _ _ (by simp; omega), List.length_take, show k - min k cs.length = 0 by omega, show cs.length - k = (cs.length - (k + 1)) + 1 by omega, List.replicate_succ, List.set_cons_zero, List.append_assoc]
  rfl
theorem tkJ_end (cs : List Wai) : tkJ cs cs.length = cs := by simp [tkJ]
theorem made7 (n : Nat) : (madeCells (Value.agg #[.int .i64 0, .int .i64 0, .int .i64 0, .int .i64 0, .int .i64 0, .int .i64 0, .int .i64 0]).cells (n * 7)).toList = rowJ (List.replicate n zJ) := by
  apply List.ext_getElem?
  intro i
  by_cases hi : i < n * 7
  · have h1 := rowJ_get (List.replicate n zJ) (i / 7) (by simp; omega) (i % 7) (by omega)
    rw [show i / 7 * 7 + i % 7 = i by omega] at h1
    rw [h1]
    have h2 : ∀ t, t < 7 → some ((Value.agg #[.int .i64 0, .int .i64 0, .int .i64 0, .int .i64 0, .int .i64 0, .int .i64 0, .int .i64 0]).cells[t]!) = (jrow zJ)[t]? := fun t ht => by
      match t, ht with
      | 0, _ => rfl
      | 1, _ => rfl
      | 2, _ => rfl
      | 3, _ => rfl
      | 4, _ => rfl
      | 5, _ => rfl
      | 6, _ => rfl
    have h3 := h2 (i % 7) (by omega)
    simp only [List.getElem_replicate]
    rw [← h3]
    simp [madeCells, hi, Value.cells]
  · rw [List.getElem?_eq_none (by simp [madeCells]; omega), List.getElem?_eq_none (by rw [rowJ_len]; simp; omega)]
end Go.Proofs.Ytalaolfcdaaaoaa.W
