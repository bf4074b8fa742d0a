/-
  Slices of messages in memory: what they read, what a call owns. No function of the program is named here (types' numbers alone).
-/
import Derived.Test.YtifgcffifffdnamIv
import Derived.Test.YtifgcffifffdnamMsF
namespace Go.Proofs.Ytifgcffifffdnam.W
open Go.RowKit
open Go.Proofs.Ytifgcffifffdnam.M

/-- A message's cells, its bytes told by u. -/
def mrow (m : Msg) (u : Value) : List Value := [.int .i64 m.k, .int .i64 m.s, .int .i64 m.n, .int .i64 m.cn, .int .i64 m.ci, .int .i64 m.cs, .int .i64 m.cm, .int .i64 m.op, .int .i64 m.id, u]
def rowL : List Msg → List Value → List Value
  | m :: ms, u :: us => mrow m u ++ rowL ms us
  | _, _ => []
theorem mrow_len (m : Msg) (u : Value) : (mrow m u).length = 10 := rfl
theorem rowL_len : ∀ (ms : List Msg) (us : List Value), us.length = ms.length → (rowL ms us).length = ms.length * 10
  | [], _, _ => by simp [rowL]
  | m :: ms, [], h => by simp at h
  | m :: ms, u :: us, h => by
    have := rowL_len ms us (by simpa using h)
    rw [rowL, List.length_append, this, mrow_len, List.length_cons]; omega
theorem rowL_get : ∀ (ms : List Msg) (us : List Value) (h : us.length = ms.length) (j : Nat) (hj : j < ms.length) (t : Nat), t < 10 → (rowL ms us)[j * 10 + t]? = (mrow ms[j] (us[j]'(by omega)))[t]?
  | [], _, _, j, hj, _, _ => by simp at hj
  | m :: ms, [], h, _, _, _, _ => by simp at h
  | m :: ms, u :: us, h, 0, hj, t, ht => by
    rw [rowL, List.getElem?_append_left (by rw [mrow_len]; omega)]
    simp
  | m :: ms, u :: us, h, j + 1, hj, t, ht => by
    have := rowL_get ms us (by simpa using h) j (by simpa using hj) t ht
    rw [rowL, List.getElem?_append_right (by rw [mrow_len]; omega), mrow_len, show (j + 1) * 10 + t - 10 = j * 10 + t by omega, this]
    simp
theorem set_right (m : Msg) (u x : Value) (R : List Value) (j t : Nat) : (mrow m u ++ R).set ((j + 1) * 10 + t) x = mrow m u ++ R.set (j * 10 + t) x := by
  rw [List.set_append_right _ _ (by rw [mrow_len]; omega), mrow_len, show (j + 1) * 10 + t - 10 = j * 10 + t by omega]
/-- The numbers of a message are set from place i on. -/
def set9 (L : List Value) (i : Nat) (m : Msg) : List Value :=
  ((((((((L.set (i + 0) (.int .i64 m.k)).set (i + 1) (.int .i64 m.s)).set (i + 2) (.int .i64 m.n)).set (i + 3) (.int .i64 m.cn)).set (i + 4) (.int .i64 m.ci)).set (i + 5) (.int .i64 m.cs)).set (i + 6) (.int .i64 m.cm)).set (i + 7) (.int .i64 m.op)).set (i + 8) (.int .i64 m.id)
theorem rowL_set9 : ∀ (ms : List Msg) (us : List Value) (_ : us.length = ms.length) (j : Nat) (_ : j < ms.length) (m' : Msg), set9 (rowL ms us) (j * 10) m' = rowL (ms.set j m') us
  | [], _, _, j, hj, _ => by simp at hj
  | m :: ms, [], h, _, _, _ => by simp at h
  | m :: ms, u :: us, h, 0, hj, m' => by simp [set9, rowL, mrow]
  | m :: ms, u :: us, h, j + 1, hj, m' => by
    have := rowL_set9 ms us (by simpa using h) j (by simpa using hj) m'
    unfold set9 at this ⊢
    rw [rowL]
    simp only [set_right]
    rw [this, List.set_cons_succ, rowL]
theorem rowL_setu : ∀ (ms : List Msg) (us : List Value) (_ : us.length = ms.length) (j : Nat) (_ : j < ms.length) (u' : Value), (rowL ms us).set (j * 10 + 9) u' = rowL ms (us.set j u')
  | [], _, _, j, hj, _ => by simp at hj
  | m :: ms, [], h, _, _, _ => by simp at h
  | m :: ms, u :: us, h, 0, hj, u' => by simp [rowL, mrow]
  | m :: ms, u :: us, h, j + 1, hj, u' => by
    have := rowL_setu ms us (by simpa using h) j (by simpa using hj) u'
    rw [rowL, set_right, this, List.set_cons_succ, rowL]
theorem rowL_snoc : ∀ (ms : List Msg) (us : List Value) (_ : us.length = ms.length) (m : Msg) (u : Value), rowL (ms ++ [m]) (us ++ [u]) = rowL ms us ++ mrow m u
  | [], [], _, m, u => by simp [rowL]
  | [], _ :: _, h, _, _ => by simp at h
  | m :: ms, [], h, _, _ => by simp at h
  | a :: ms, b :: us, h, m, u => by
    have := rowL_snoc ms us (by simpa using h) m u
    simp [rowL, this]
/-- How many bytes there are. -/
def totM (ms : List Msg) : Nat := (ms.map fun m => m.l.length).sum
theorem totM_take (ms : List Msg) (i : Nat) (hi : i < ms.length) : totM (ms.take (i + 1)) = totM (ms.take i) + (ms[i]).l.length := by
  unfold totM
  rw [List.take_succ_eq_append_getElem hi, List.map_append, List.sum_append]
  simp
theorem totM_le (ms : List Msg) (i : Nat) : totM (ms.take i) ≤ totM ms := by
  unfold totM
  conv => rhs; rw [← List.take_append_drop i ms, List.map_append, List.sum_append]
  omega
theorem totM_at (ms : List Msg) (i : Nat) (hi : i < ms.length) : (ms[i]).l.length ≤ totM ms := by
  have h1 := totM_take ms i hi
  have h2 := totM_le ms (i + 1)
  omega
/-- v reads the messages ms. -/
def RdM (w : World) (v : Value) (ms : List Msg) : Prop :=
  ∃ (a : Option Addr) (cap : Nat), v = .slice a ms.length cap ∧ ms.length ≤ cap ∧ cap ≤ maxLen ∧
    ∀ i (hi : i < ms.length), ∃ b o u, a = some ⟨b, o, none⟩ ∧ (∀ t x, (mrow ms[i] u)[t]? = some x → w.cell? ⟨b, o + i * 10 + t, none⟩ = some x) ∧ Rd w u ms[i].l
theorem RdM.parts {w : World} {v : Value} {ms : List Msg} (h : RdM w v ms) : ∃ (a : Option Addr) (cap : Nat), v = .slice a ms.length cap ∧ ms.length ≤ cap ∧ cap ≤ maxLen ∧
    ∀ i (hi : i < ms.length), ∃ b o u, a = some ⟨b, o, none⟩ ∧ (∀ t x, (mrow ms[i] u)[t]? = some x → w.cell? ⟨b, o + i * 10 + t, none⟩ = some x) ∧ Rd w u ms[i].l := h
theorem RdM.nil (w : World) : RdM w (.slice none 0 0) [] := ⟨none, 0, rfl, Nat.le_refl _, Nat.zero_le _, fun i hi => by simp at hi⟩
theorem RdM.below {w w' : World} {v : Value} {ms : List Msg} (h : RdM w v ms) (hb : Below w.heap.size w w') : RdM w' v ms := by
  obtain ⟨a, cap, rfl, hn, hm, hcs⟩ := h
  refine ⟨a, cap, rfl, hn, hm, fun i hi => ?_⟩
  obtain ⟨b, o, u, rfl, h1, h2⟩ := hcs i hi
  exact ⟨b, o, u, rfl, fun t x q => cell_kept hb (h1 t x q), h2.below hb⟩
/-- A message's cells at an address. -/
theorem m_cells {w : World} {b o : Nat} {m : Msg} {u : Value} (h : ∀ t x, (mrow m u)[t]? = some x → w.cell? ⟨b, o + t, none⟩ = some x) :
    w.cell? ⟨b, o, none⟩ = some (.int .i64 m.k) ∧ w.cell? ⟨b, o + 1, none⟩ = some (.int .i64 m.s) ∧ w.cell? ⟨b, o + 2, none⟩ = some (.int .i64 m.n) ∧ w.cell? ⟨b, o + 3, none⟩ = some (.int .i64 m.cn) ∧ w.cell? ⟨b, o + 4, none⟩ = some (.int .i64 m.ci) ∧ w.cell? ⟨b, o + 5, none⟩ = some (.int .i64 m.cs) ∧ w.cell? ⟨b, o + 6, none⟩ = some (.int .i64 m.cm) ∧ w.cell? ⟨b, o + 7, none⟩ = some (.int .i64 m.op) ∧ w.cell? ⟨b, o + 8, none⟩ = some (.int .i64 m.id) ∧ w.cell? ⟨b, o + 9, none⟩ = some u :=
  ⟨h 0 _ rfl, h 1 _ rfl, h 2 _ rfl, h 3 _ rfl, h 4 _ rfl, h 5 _ rfl, h 6 _ rfl, h 7 _ rfl, h 8 _ rfl, h 9 _ rfl⟩
/-- v reads the messages ms; its row and each message's bytes lie between lo and hi, no two of them in one block. -/
def OMs (w : World) (lo hi : Nat) (v : Value) (ms : List Msg) : Prop :=
  ∃ us : List Value, us.length = ms.length ∧ w.ownsRow lo 45 10 v ms.length (rowL ms us) ∧ (∀ g, v.ownBlock = some g → g < hi) ∧
    (∀ i (h : i < ms.length) (h' : i < us.length), OB w lo hi us[i] ms[i].l ∧ ∀ b, (us[i]).ownBlock = some b → v.ownBlock ≠ some b) ∧
    (∀ i j (hi : i < us.length) (hj : j < us.length) a, i < j → (us[i]).ownBlock = some a → (us[j]).ownBlock ≠ some a)
theorem OMs.nil (w : World) (lo hi : Nat) : OMs w lo hi (.slice none 0 0) [] :=
  ⟨[], rfl, World.ownsRow_nil _ _ _ _, (fun g e => by cases e), (fun i h => absurd h (Nat.not_lt_zero i)), (fun i _ h => absurd h (Nat.not_lt_zero i))⟩
theorem OMs.rd {w : World} {lo hi : Nat} {v : Value} {ms : List Msg} (h : OMs w lo hi v ms) : RdM w v ms := by
  obtain ⟨us, hl, h1, h2, h3, -⟩ := h
  rcases h1.2 with ⟨rfl, h0⟩ | ⟨g, cap, cur, rfl, hb, hg, hn, hm, hs, ht⟩
  · obtain rfl := List.eq_nil_of_length_eq_zero h0
    exact RdM.nil w
  · refine ⟨_, cap, rfl, hn, hm, fun i hi' => ⟨g, 0, us[i]'(by omega), rfl, fun t x q => ?_, (h3 i hi' (by omega)).1.rd⟩⟩
    have ht : t < 10 := by
      rcases Nat.lt_or_ge t 10 with q' | q'
      · exact q'
      · rw [List.getElem?_eq_none (by rw [mrow_len]; omega)] at q; cases q
    rw [Nat.zero_add, World.ownsRow.cellAt h1 (i * 10 + t) (by omega), rowL_get ms us hl i hi' t ht]
    exact q
theorem OMs.agr {w w' : World} {lo hi : Nat} {v : Value} {ms : List Msg} (h : OMs w lo hi v ms) (k : Agr lo hi w w') : OMs w' lo hi v ms := by
  obtain ⟨us, hl, h1, h2, h3, h4⟩ := h
  refine ⟨us, hl, ⟨h1.1, ?_⟩, h2, fun i hi' h' => ⟨(h3 i hi' h').1.agr k, (h3 i hi' h').2⟩, h4⟩
  rcases h1.2 with hn | ⟨g, cap, cur, rfl, hbb, hgg, rest⟩
  · exact .inl hn
  · exact .inr ⟨g, cap, cur, rfl, hbb, by rw [k g hbb (h2 g rfl)]; exact hgg, rest⟩
theorem row_below10 {w w' : World} {lo n : Nat} {T : TypeId} {v : Value} {L : List Value} (h1 : w.ownsRow lo T 10 v n L) (hB : Below w.heap.size w w') : w'.ownsRow lo T 10 v n L := by
  refine ⟨h1.1, ?_⟩
  rcases h1.2 with hn | ⟨g, cap, cur, rfl, hbb, hgg, rest⟩
  · exact .inl hn
  · exact .inr ⟨g, cap, cur, rfl, hbb, var_below hB hgg, rest⟩
theorem OMs.below {w w' : World} {lo hi : Nat} {v : Value} {ms : List Msg} (h : OMs w lo hi v ms) (hB : Below w.heap.size w w') : OMs w' lo hi v ms := by
  obtain ⟨us, hl, h1, h2, h3, h4⟩ := h
  exact ⟨us, hl, row_below10 h1 hB, h2, fun i hi' h' => ⟨(h3 i hi' h').1.below hB, (h3 i hi' h').2⟩, h4⟩
theorem OMs.low {w : World} {lo hi : Nat} {v : Value} {ms : List Msg} (h : OMs w lo hi v ms) (a : Addr) (ha : a.block < lo) (x : Value) : OMs (w.setCell a x) lo hi v ms :=
  h.agr fun k hk _ => Below.heap_setCell _ _ _ _ (by omega)
theorem OMs.row {w : World} {lo hi B : Nat} {v : Value} {ms : List Msg} (h : OMs w lo hi v ms) (hB : B ≤ lo) : ∀ b, v.ownBlock = some b → B ≤ b := fun b e => by
  obtain ⟨L, -, h1, -⟩ := h
  have := World.ownsRow.lt h1 b e
  omega
theorem OMs.mono {w : World} {lo hi lo' hi' : Nat} {v : Value} {ms : List Msg} (h : OMs w lo hi v ms) (h1 : lo' ≤ lo) (h2 : hi ≤ hi') : OMs w lo' hi' v ms := by
  obtain ⟨us, hl, r1, r2, r3, r4⟩ := h
  refine ⟨us, hl, ⟨r1.1, ?_⟩, fun g e => Nat.lt_of_lt_of_le (r2 g e) h2, fun i hi' h' => ⟨(r3 i hi' h').1.mono h1 h2, (r3 i hi' h').2⟩, r4⟩
  rcases r1.2 with hn | ⟨g, cap, cur, rfl, hbb, rest⟩
  · exact .inl hn
  · exact .inr ⟨g, cap, cur, rfl, by omega, rest⟩
/-- The row's cells are there, and may be stored into. -/
theorem OMs.open {w : World} {lo hi g cap n : Nat} {ms : List Msg} (hn : ms.length = n) (h : OMs w lo hi (.slice (some ⟨g, 0, none⟩) n cap) ms) (j : Nat) (hj : j < ms.length) :
    ∃ u, (∀ t x, (mrow ms[j] u)[t]? = some x → w.cell? ⟨g, j * 10 + t, none⟩ = some x) ∧ (∀ i, w.frozen? ⟨g, i, none⟩ = false) ∧ OB w lo hi u ms[j].l ∧ lo ≤ g ∧ g < hi ∧ g < w.heap.size := by
  subst hn
  obtain ⟨us, hl, h1, h2, h3, h4⟩ := h
  have lt := World.ownsRow.lt h1 g rfl
  refine ⟨us[j]'(by omega), fun t x q => ?_, fun i => World.ownsRow.frozenAt h1 _, (h3 j hj (by omega)).1, lt.1, h2 g rfl, lt.2⟩
  have ht : t < 10 := by
    rcases Nat.lt_or_ge t 10 with q' | q'
    · exact q'
    · rw [List.getElem?_eq_none (by rw [mrow_len]; omega)] at q; cases q
  rw [World.ownsRow.cellAt h1 (j * 10 + t) (by omega), rowL_get ms us hl j hj t ht]
  exact q
/-- Nine numbers stored from cell i of block g on. -/
def st9 (w : World) (g i : Nat) (m : Msg) : World :=
  (((((((((w.setCell ⟨g, i + 0, none⟩ (.int .i64 m.k)).setCell ⟨g, i + 1, none⟩ (.int .i64 m.s)).setCell ⟨g, i + 2, none⟩ (.int .i64 m.n)).setCell ⟨g, i + 3, none⟩ (.int .i64 m.cn)).setCell ⟨g, i + 4, none⟩ (.int .i64 m.ci)).setCell ⟨g, i + 5, none⟩ (.int .i64 m.cs)).setCell ⟨g, i + 6, none⟩ (.int .i64 m.cm)).setCell ⟨g, i + 7, none⟩ (.int .i64 m.op)).setCell ⟨g, i + 8, none⟩ (.int .i64 m.id))
theorem st9_heap {w : World} {g i b : Nat} {m : Msg} (h : b ≠ g) : (st9 w g i m).heap[b]? = w.heap[b]? := by
  unfold st9
  repeat rw [Below.heap_setCell _ _ _ _ h]
theorem st9_row {w : World} {lo g cap n i : Nat} {T : TypeId} {L : List Value} {m : Msg} (h : w.ownsRow lo T 10 (.slice (some ⟨g, 0, none⟩) n cap) n L) : (st9 w g i m).ownsRow lo T 10 (.slice (some ⟨g, 0, none⟩) n cap) n (set9 L i m) := by
  have h0 := (World.ownsRow.stored h (i + 0) (.int .i64 m.k)).1
  have h1 := (World.ownsRow.stored h0 (i + 1) (.int .i64 m.s)).1
  have h2 := (World.ownsRow.stored h1 (i + 2) (.int .i64 m.n)).1
  have h3 := (World.ownsRow.stored h2 (i + 3) (.int .i64 m.cn)).1
  have h4 := (World.ownsRow.stored h3 (i + 4) (.int .i64 m.ci)).1
  have h5 := (World.ownsRow.stored h4 (i + 5) (.int .i64 m.cs)).1
  have h6 := (World.ownsRow.stored h5 (i + 6) (.int .i64 m.cm)).1
  have h7 := (World.ownsRow.stored h6 (i + 7) (.int .i64 m.op)).1
  exact (World.ownsRow.stored h7 (i + 8) (.int .i64 m.id)).1
theorem st9_grown (w : World) (g i : Nat) (m : Msg) : w.grownBy (st9 w g i m) (some g) := by
  have s : ∀ (w : World) (i : Nat) (x : Value), w.grownBy (w.setCell ⟨g, i, none⟩ x) (some g) := fun w i x => ⟨by simp [World.setCell], by simp [World.setCell], by simp [World.setCell], by simp, fun k hk hne => Below.heap_setCell _ _ _ _ (fun e => hne (by rw [e]))⟩
  unfold st9
  exact grown_trans (grown_trans (grown_trans (grown_trans (grown_trans (grown_trans (grown_trans (grown_trans (s _ _ _) (s _ _ _)) (s _ _ _)) (s _ _ _)) (s _ _ _)) (s _ _ _)) (s _ _ _)) (s _ _ _)) (s _ _ _)
end Go.Proofs.Ytifgcffifffdnam.W
