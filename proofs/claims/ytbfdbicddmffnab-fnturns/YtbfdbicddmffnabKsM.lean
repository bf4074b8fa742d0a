/-
  Slices of keys that are their own: each key's bytes in a block of their own. No function of the program is named here (types' numbers alone).
-/
import Derived.Test.YtbfdbicddmffnabIv
import Derived.Test.YtbfdbicddmffnabRng
namespace Go.Proofs.Ytbfdbicddmffnab.M
open Go.RowKit

/-- v reads the keys ks; its row and each key's bytes lie between lo and hi, no two of them in one block. -/
def OKs (w : World) (lo hi : Nat) (v : Value) (ks : List (Int × List Nat)) : Prop :=
  ∃ L : List Value, w.ownsRow lo 40 2 v ks.length L ∧ (∀ g, v.ownBlock = some g → g < hi) ∧
    (∀ i (h : i < ks.length), ∃ u, L[i * 2]? = some (.int .i64 ks[i].1) ∧ L[i * 2 + 1]? = some u ∧ OB w lo hi u ks[i].2 ∧ ∀ b, u.ownBlock = some b → v.ownBlock ≠ some b) ∧
    (∀ i j u u' a, i < j → j < ks.length → L[i * 2 + 1]? = some u → L[j * 2 + 1]? = some u' → u.ownBlock = some a → u'.ownBlock ≠ some a)
theorem OKs.nil (w : World) (lo hi : Nat) : OKs w lo hi (.slice none 0 0) [] :=
  ⟨[], World.ownsRow_nil _ _ _ _, (fun g e => by cases e), (fun i h => absurd h (Nat.not_lt_zero i)), (fun _ j _ _ _ _ h => absurd h (Nat.not_lt_zero j))⟩
theorem OKs.rd {w : World} {lo hi : Nat} {v : Value} {ks : List (Int × List Nat)} (h : OKs w lo hi v ks) : RdK w v ks := by
  obtain ⟨L, h1, h2, h3, -⟩ := h
  rcases h1.2 with ⟨rfl, h0⟩ | ⟨g, cap, cur, rfl, hb, hg, hn, hm, hs, ht⟩
  · obtain rfl := List.eq_nil_of_length_eq_zero h0
    exact RdK.nil w
  · refine ⟨_, cap, rfl, hn, hm, fun i hi' => ?_⟩
    obtain ⟨u, q1, q2, q3, -⟩ := h3 i hi'
    refine ⟨g, 0, u, rfl, ?_, ?_, q3.rd⟩
    · rw [Nat.zero_add, World.ownsRow.cellAt h1 (i * 2) (by omega)]; exact q1
    · rw [Nat.zero_add, World.ownsRow.cellAt h1 (i * 2 + 1) (by omega)]; exact q2
theorem OKs.agr {w w' : World} {lo hi : Nat} {v : Value} {ks : List (Int × List Nat)} (h : OKs w lo hi v ks) (k : Agr lo hi w w') : OKs w' lo hi v ks := by
  obtain ⟨L, h1, h2, h3, h4⟩ := h
  refine ⟨L, ⟨h1.1, ?_⟩, h2, fun i hi' => ?_, h4⟩
  · rcases h1.2 with hn | ⟨g, cap, cur, rfl, hbb, hgg, rest⟩
    · exact .inl hn
    · exact .inr ⟨g, cap, cur, rfl, hbb, by rw [k g hbb (h2 g rfl)]; exact hgg, rest⟩
  · obtain ⟨u, q1, q2, q3, q4⟩ := h3 i hi'
    exact ⟨u, q1, q2, q3.agr k, q4⟩
theorem OKs.row {w : World} {lo hi B : Nat} {v : Value} {ks : List (Int × List Nat)} (h : OKs w lo hi v ks) (hB : B ≤ lo) : ∀ b, v.ownBlock = some b → B ≤ b := fun b e => by
  obtain ⟨L, h1, -⟩ := h
  have := World.ownsRow.lt h1 b e
  omega
theorem OKs.below {w w' : World} {lo hi : Nat} {v : Value} {ks : List (Int × List Nat)} (h : OKs w lo hi v ks) (hB : Below w.heap.size w w') : OKs w' lo hi v ks := by
  obtain ⟨L, h1, h2, h3, h4⟩ := h
  refine ⟨L, ⟨h1.1, ?_⟩, h2, fun i hi' => ?_, h4⟩
  · rcases h1.2 with hn | ⟨g, cap, cur, rfl, hbb, hgg, rest⟩
    · exact .inl hn
    · exact .inr ⟨g, cap, cur, rfl, hbb, var_below hB hgg, rest⟩
  · obtain ⟨u, q1, q2, q3, q4⟩ := h3 i hi'
    exact ⟨u, q1, q2, q3.below hB, q4⟩
theorem OKs.low {w : World} {lo hi : Nat} {v : Value} {ks : List (Int × List Nat)} (h : OKs w lo hi v ks) (a : Addr) (ha : a.block < lo) (x : Value) : OKs (w.setCell a x) lo hi v ks :=
  h.agr fun k hk _ => Below.heap_setCell _ _ _ _ (by omega)
theorem OKs.mono {w : World} {lo hi lo' hi' : Nat} {v : Value} {ks : List (Int × List Nat)} (h : OKs w lo hi v ks) (h1 : lo' ≤ lo) (h2 : hi ≤ hi') : OKs w lo' hi' v ks := by
  obtain ⟨L, r1, r2, r3, r4⟩ := h
  refine ⟨L, ⟨r1.1, ?_⟩, fun g e => Nat.lt_of_lt_of_le (r2 g e) h2, fun i hi' => ?_, r4⟩
  · rcases r1.2 with hn | ⟨g, cap, cur, rfl, hbb, rest⟩
    · exact .inl hn
    · exact .inr ⟨g, cap, cur, rfl, by omega, rest⟩
  · obtain ⟨u, q1, q2, q3, q4⟩ := r3 i hi'
    exact ⟨u, q1, q2, q3.mono h1 h2, q4⟩
theorem OKs.shape {w : World} {lo hi : Nat} {v : Value} {ks : List (Int × List Nat)} (h : OKs w lo hi v ks) (hn : 0 < ks.length) : ∃ g cap, v = .slice (some ⟨g, 0, none⟩) ks.length cap ∧ lo ≤ g ∧ g < hi ∧ g < w.heap.size := by
  obtain ⟨L, h1, h2, h3, -⟩ := h
  rcases h1.2 with ⟨rfl, h0⟩ | ⟨g, cap, cur, rfl, hb, hg, -⟩
  · omega
  · exact ⟨g, cap, rfl, hb, h2 g rfl, var_lt hg⟩
/-- A key's number is stored anew. -/
theorem OKs.mark1 {w : World} {lo hi g cap n : Nat} {ks : List (Int × List Nat)} (hn : ks.length = n) (h : OKs w lo hi (.slice (some ⟨g, 0, none⟩) n cap) ks) (j : Nat) (hj : j < ks.length) (x : Int) :
    OKs (w.setCell ⟨g, j * 2, none⟩ (.int .i64 x)) lo hi (.slice (some ⟨g, 0, none⟩) n cap) (ks.set j (x, ks[j].2)) ∧ w.cell? ⟨g, j * 2, none⟩ = some (.int .i64 ks[j].1) ∧ w.frozen? ⟨g, j * 2, none⟩ = false ∧ Ins lo hi w (w.setCell ⟨g, j * 2, none⟩ (.int .i64 x)) := by
  subst hn
  obtain ⟨L, h1, h2, h3, h4⟩ := h
  have s1 := World.ownsRow.stored h1 (j * 2) (.int .i64 x)
  have hg : lo ≤ g ∧ g < hi := ⟨(World.ownsRow.lt h1 g rfl).1, h2 g rfl⟩
  have hL : L.length = ks.length * 2 := h1.1
  obtain ⟨u, q1, q2, q3, q4⟩ := h3 j hj
  refine ⟨⟨L.set (j * 2) (.int .i64 x), by rw [List.length_set]; exact s1.1, h2, fun i hi' => ?_, fun i i' u u' a hlt hl e1 e2 => ?_⟩, ?_, World.ownsRow.frozenAt h1 _, Ins.of_grown s1.2 (fun k e => by cases e; exact hg)⟩
  · rw [List.length_set] at hi'
    obtain ⟨u, q1, q2, q3, q4⟩ := h3 i hi'
    have q3' : OB (w.setCell ⟨g, j * 2, none⟩ (.int .i64 x)) lo hi u ks[i].2 := by
      obtain ⟨⟨T, o1, o2⟩, o3⟩ := q3
      refine ⟨⟨T, o1, ?_⟩, o3⟩
      rcases o2 with hn | ⟨g', cap', cur', rfl, hbb, hgg, rest⟩
      · exact .inl hn
      · refine .inr ⟨g', cap', cur', rfl, hbb, ?_, rest⟩
        rw [Below.heap_setCell _ _ _ _ (fun e => by subst e; exact q4 g' rfl rfl)]
        exact hgg
    refine ⟨u, ?_, ?_, ?_, q4⟩
    · by_cases e : i = j
      · subst e
        rw [List.getElem?_set_self (by omega), List.getElem_set_self]
      · rw [List.getElem?_set_ne (by omega), List.getElem_set_ne (by omega)]; exact q1
    · rw [List.getElem?_set_ne (by omega)]; exact q2
    · by_cases e : i = j
      · subst e
        rw [List.getElem_set_self]; exact q3'
      · rw [List.getElem_set_ne (by omega)]; exact q3'
  · rw [List.length_set] at hl
    rw [List.getElem?_set_ne (by omega)] at e1 e2
    exact h4 i i' u u' a hlt hl e1 e2
  · rw [World.ownsRow.cellAt h1 (j * 2) (by omega)]; exact q1
/-- A key's bytes are turned where they lie. -/
theorem OKs.bytes {w : World} {lo hi g cap n : Nat} {ks : List (Int × List Nat)} (hn : ks.length = n) (h : OKs w lo hi (.slice (some ⟨g, 0, none⟩) n cap) ks) (j : Nat) (hj : j < ks.length) :
    ∃ u, w.cell? ⟨g, j * 2 + 1, none⟩ = some u ∧ OB w lo hi u ks[j].2 ∧ ∀ (w' : World) (l : List Nat), w.grownBy w' u.ownBlock → Owx w' lo u l → OKs w' lo hi (.slice (some ⟨g, 0, none⟩) n cap) (ks.set j (ks[j].1, l)) ∧ Ins lo hi w w' := by
  subst hn
  obtain ⟨L, h1, h2, h3, h4⟩ := h
  have hL : L.length = ks.length * 2 := h1.1
  obtain ⟨u, q1, q2, q3, q4⟩ := h3 j hj
  refine ⟨u, by rw [World.ownsRow.cellAt h1 (j * 2 + 1) (by omega)]; exact q2, q3, fun w' l hG hO => ⟨⟨L, ?_, h2, fun i hi' => ?_, fun i i' u u' a hlt hl => h4 i i' u u' a hlt (by rw [List.length_set] at hl; exact hl)⟩, Ins.of_grown hG (fun k e => q3.blk e)⟩⟩
  · rw [List.length_set]
    exact World.ownsRow.kept h1 hG (by
      cases e : u.ownBlock with
      | none => exact .inr (by intro q; cases q)
      | some b => exact .inr (q4 b e))
  · rw [List.length_set] at hi'
    by_cases e : i = j
    · subst e
      refine ⟨u, ?_, q2, ?_, q4⟩
      · rw [List.getElem_set_self]; exact q1
      · rw [List.getElem_set_self]; exact ⟨hO, q3.2⟩
    · obtain ⟨u', r1, r2, r3, r4⟩ := h3 i hi'
      refine ⟨u', ?_, r2, ?_, r4⟩
      · rw [List.getElem_set_ne (by omega)]; exact r1
      · rw [List.getElem_set_ne (by omega)]
        refine ⟨r3.1.kept hG ?_, r3.2⟩
        cases e1 : u'.ownBlock with
        | none => exact .inl rfl
        | some b =>
          refine .inr (fun e2 => ?_)
          rcases Nat.lt_or_ge i j with q | q
          · exact h4 i j u' u b q hj r2 q2 e1 e2.symm
          · exact h4 j i u u' b (by omega) hi' q2 r2 e2.symm e1
/-- The marks of keys: numbers and bytes, on and on. -/
def kAt (k : Nat) (ks : List (Int × List Nat)) (i : Nat) : Nat := k + i + tot (ks.take i)
def mkAt (k : Nat) (ks : List (Int × List Nat)) (i : Nat) : Int × List Nat := (((kAt k ks i : Nat) : Int), marks (kAt k ks i + 1) (ks.getD i (0, [])).2.length)
/-- The first j are marked. -/
def mkTo (k : Nat) (ks : List (Int × List Nat)) (j : Nat) : List (Int × List Nat) := (List.range j).map (mkAt k ks) ++ ks.drop j
theorem mkTo_len (k : Nat) (ks : List (Int × List Nat)) (j : Nat) (h : j ≤ ks.length) : (mkTo k ks j).length = ks.length := by simp [mkTo]; omega
theorem mkTo_zero (k : Nat) (ks : List (Int × List Nat)) : mkTo k ks 0 = ks := by simp [mkTo]
theorem mkTo_at (k : Nat) (ks : List (Int × List Nat)) (j i : Nat) (hi : i < (mkTo k ks j).length) (hj : j ≤ ks.length) (h : j ≤ i) : (mkTo k ks j)[i] = ks[i]'(by rw [mkTo_len _ _ _ hj] at hi; exact hi) := by
  have hi' : i < ks.length := by rw [mkTo_len _ _ _ hj] at hi; exact hi
  apply Option.some.inj
  rw [← List.getElem?_eq_getElem hi, ← List.getElem?_eq_getElem hi', mkTo, List.getElem?_append_right (by simpa using h), List.length_map, List.length_range, List.getElem?_drop]
  congr 1
  omega
theorem mkTo_low (k : Nat) (ks : List (Int × List Nat)) (j i : Nat) (hi : i < (mkTo k ks j).length) (h : i < j) : (mkTo k ks j)[i] = mkAt k ks i := by
  apply Option.some.inj
  rw [← List.getElem?_eq_getElem hi, mkTo, List.getElem?_append_left (by simpa using h), List.getElem?_map, List.getElem?_range h]
  rfl
theorem mkTo_set (k : Nat) (ks : List (Int × List Nat)) (j : Nat) (h : j < ks.length) : (mkTo k ks j).set j (mkAt k ks j) = mkTo k ks (j + 1) := by
  unfold mkTo
  rw [List.range_succ, List.map_append, List.append_assoc, List.set_append_right _ _ (by simp), List.length_map, List.length_range, Nat.sub_self, List.drop_eq_getElem_cons h, List.set_cons_zero]
  rfl
theorem kAt_succ (k : Nat) (ks : List (Int × List Nat)) (i : Nat) (h : i < ks.length) : kAt k ks (i + 1) = kAt k ks i + 1 + ks[i].2.length := by
  unfold kAt
  rw [tot_take ks i h]
  omega
theorem kAt_end (k : Nat) (ks : List (Int × List Nat)) : kAt k ks ks.length = k + (ks.length + tot ks) := by
  unfold kAt
  rw [List.take_of_length_le (Nat.le_refl _)]
  omega
theorem kAt_le (k : Nat) (ks : List (Int × List Nat)) (i : Nat) (h : i ≤ ks.length) : kAt k ks i ≤ k + (ks.length + tot ks) := by
  unfold kAt
  have := tot_le ks i
  omega
theorem mkAt_get (k : Nat) (ks : List (Int × List Nat)) (i : Nat) (h : i < ks.length) : mkAt k ks i = (((kAt k ks i : Nat) : Int), marks (kAt k ks i + 1) ks[i].2.length) := by
  unfold mkAt
  rw [List.getD_eq_getElem?_getD, List.getElem?_eq_getElem h]
  rfl
/-- One key is marked: its number, then its bytes where they lie. -/
theorem OKs.step {w : World} {lo hi g cap k j : Nat} {ks : List (Int × List Nat)} (hj : j < ks.length) (h : OKs w lo hi (.slice (some ⟨g, 0, none⟩) ks.length cap) (mkTo k ks j)) (q : Nat) (hq : q = kAt k ks j) :
    w.cell? ⟨g, j * 2, none⟩ = some (.int .i64 ks[j].1) ∧ w.frozen? ⟨g, j * 2, none⟩ = false ∧ ∃ u, (w.setCell ⟨g, j * 2, none⟩ (.int .i64 (q : Int))).cell? ⟨g, j * 2 + 1, none⟩ = some u ∧ OB (w.setCell ⟨g, j * 2, none⟩ (.int .i64 (q : Int))) lo hi u ks[j].2 ∧
      ∀ w', (w.setCell ⟨g, j * 2, none⟩ (.int .i64 (q : Int))).grownBy w' u.ownBlock → Owx w' lo u (marks (q + 1) ks[j].2.length) → OKs w' lo hi (.slice (some ⟨g, 0, none⟩) ks.length cap) (mkTo k ks (j + 1)) ∧ Ins lo hi w w' := by
  have EL := mkTo_len k ks j (Nat.le_of_lt hj)
  have hj' : j < (mkTo k ks j).length := by rw [EL]; exact hj
  have TA := mkTo_at k ks j j hj' (Nat.le_of_lt hj) (Nat.le_refl _)
  obtain ⟨N1, c0, f0, I1⟩ := h.mark1 EL j hj' (q : Int)
  rw [TA] at N1 c0
  refine ⟨c0, f0, ?_⟩
  have LE : ((mkTo k ks j).set j ((q : Int), ks[j].2)).length = ks.length := by rw [List.length_set]; exact EL
  obtain ⟨u, c1, O1, NX⟩ := N1.bytes LE j (by rw [LE]; exact hj)
  rw [List.getElem_set_self] at O1 NX
  refine ⟨u, c1, O1, fun w' hG hO => ?_⟩
  obtain ⟨r1, r2⟩ := NX w' _ hG hO
  rw [List.set_set] at r1
  refine ⟨?_, I1.trans r2⟩
  rw [← mkTo_set k ks j hj, mkAt_get k ks j hj, ← hq]
  exact r1
end Go.Proofs.Ytbfdbicddmffnab.M
