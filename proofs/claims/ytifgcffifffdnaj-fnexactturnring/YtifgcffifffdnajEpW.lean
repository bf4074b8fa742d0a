/-
  Keys in a row whose bytes lie wherever they lie, apart from the row and from one variable; and the order of a ring with one key more.
-/
import Derived.Test.YtifgcffifffdnajIkF
import Derived.Test.YtifgcffifffdnajSrkW
namespace Go.Proofs.Ytifgcffifffdnaj.W
open Go.ChangeShapes Go.WideShapes Go.ChangeAt Go.RowKit
open Go.Proofs.Ytifgcffifffdnaj.M

theorem insK_cut (x : Int × List Nat) : ∀ (ks : List (Int × List Nat)) (k : Nat), (∀ j (h : j < ks.length), j < k → ¬ x.1 < ks[j].1) → (∀ h : k < ks.length, x.1 < ks[k].1) → k ≤ ks.length → insK x ks = ks.take k ++ x :: ks.drop k
  | [], k, _, _, hk => by
    obtain rfl : k = 0 := by simpa using hk
    rfl
  | y :: r, 0, _, h1, _ => by
    have q := h1 (by simp)
    simp only [List.getElem_cons_zero] at q
    simp [insK, q]
  | y :: r, k + 1, h0, h1, hk => by
    have q := h0 0 (by simp) (by omega)
    simp only [List.getElem_cons_zero] at q
    have := insK_cut x r k (fun j hj hjk => by have := h0 (j + 1) (by simp; omega) (by omega); simpa using this) (fun h => by have := h1 (by simp; omega); simpa using this) (by simpa using hk)
    simp [insK, q, this]
theorem insK_end (x : Int × List Nat) (ks : List (Int × List Nat)) (h : ∀ j (h : j < ks.length), ¬ x.1 < ks[j].1) : insK x ks = ks ++ [x] := by
  have := insK_cut x ks ks.length (fun j hj _ => h j hj) (fun q => absurd q (Nat.lt_irrefl _)) (Nat.le_refl _)
  simpa using this
/-- What stands behind k keys: acc, and whether x is among them. -/
def InsTo (x : Int × List Nat) (ks : List (Int × List Nat)) (k : Nat) (d : Bool) (acc : List (Int × List Nat)) : Prop :=
  (d = false ∧ acc = ks.take k ∧ ∀ j (h : j < ks.length), j < k → ¬ x.1 < ks[j].1) ∨ (d = true ∧ acc ++ ks.drop k = insK x ks)
theorem insTo_zero (x : Int × List Nat) (ks : List (Int × List Nat)) : InsTo x ks 0 false [] := .inl ⟨rfl, rfl, fun _ _ h => absurd h (Nat.not_lt_zero _)⟩
theorem insTo_put {x : Int × List Nat} {ks acc : List (Int × List Nat)} {k : Nat} (h : InsTo x ks k false acc) (hk : k < ks.length) (hx : x.1 < ks[k].1) : InsTo x ks k true (acc ++ [x]) := by
  rcases h with ⟨-, rfl, h0⟩ | ⟨h, -⟩
  · refine .inr ⟨rfl, ?_⟩
    rw [insK_cut x ks k h0 (fun _ => hx) (by omega)]
    simp
  · cases h
theorem insTo_step {x : Int × List Nat} {ks acc : List (Int × List Nat)} {k : Nat} {d : Bool} (h : InsTo x ks k d acc) (hk : k < ks.length) (hx : d = true ∨ ¬ x.1 < ks[k].1) : InsTo x ks (k + 1) d (acc ++ [ks[k]]) := by
  rcases h with ⟨rfl, rfl, h0⟩ | ⟨rfl, h⟩
  · refine .inl ⟨rfl, (List.take_succ_eq_append_getElem hk).symm, fun j hj hjk => ?_⟩
    by_cases e : j = k
    · subst e
      rcases hx with q | q
      · cases q
      · exact q
    · exact h0 j hj (by omega)
  · refine .inr ⟨rfl, ?_⟩
    rw [List.append_assoc, List.singleton_append, List.getElem_cons_drop]
    exact h
theorem insTo_done {x : Int × List Nat} {ks acc : List (Int × List Nat)} (h : InsTo x ks ks.length true acc) : acc = insK x ks := by
  rcases h with ⟨q, -⟩ | ⟨-, h⟩
  · cases q
  · simpa using h
theorem insTo_open {x : Int × List Nat} {ks acc : List (Int × List Nat)} (h : InsTo x ks ks.length false acc) : acc ++ [x] = insK x ks := by
  rcases h with ⟨-, rfl, h0⟩ | ⟨q, -⟩
  · rw [insK_end x ks fun j hj => h0 j hj hj]
    simp
  · cases q
theorem insTo_len {x : Int × List Nat} {ks acc : List (Int × List Nat)} {k : Nat} {d : Bool} (h : InsTo x ks k d acc) (hk : k ≤ ks.length) : acc.length ≤ ks.length + 1 := by
  rcases h with ⟨-, rfl, -⟩ | ⟨-, h⟩
  · rw [List.length_take]; omega
  · have := congrArg List.length h
    rw [insK_len] at this
    simp at this
    omega
/-- The bytes l of u lie in the block b. -/
def Li (w : World) (u : Value) (b : Nat) (l : List Nat) : Prop := Rd w u l ∧ b < w.heap.size ∧ ∃ o n c, u = .slice (some ⟨b, o, none⟩) n c
theorem Li.move {w w' : World} {u : Value} {b : Nat} {l : List Nat} (h : Li w u b l) (he : w'.heap[b]? = w.heap[b]?) (hs : w.heap.size ≤ w'.heap.size) : Li w' u b l := by
  obtain ⟨⟨a, cap, e, hn, hm, hc⟩, hb, o, n, c, rfl⟩ := h
  refine ⟨⟨a, cap, e, hn, hm, fun i hi => ?_⟩, Nat.lt_of_lt_of_le hb hs, o, n, c, rfl⟩
  obtain ⟨b', o', rfl, hcc⟩ := hc i hi
  simp only [Value.slice.injEq, Option.some.injEq, Addr.mk.injEq] at e
  obtain ⟨⟨rfl, -, -⟩, -, -⟩ := e
  refine ⟨b, o', rfl, ?_⟩
  rw [← hcc]
  simp only [World.cell?, he]
/-- The cells L tell the keys acc; their bytes lie in blocks from lo on, apart from go and from the row v. -/
def Ep (w : World) (v : Value) (lo go : Nat) (acc : List (Int × List Nat)) (L : List Value) : Prop := ∀ i (h : i < acc.length), ∃ u b, L[i * 2]? = some (.int .i64 acc[i].1) ∧ L[i * 2 + 1]? = some u ∧ Li w u b acc[i].2 ∧ lo ≤ b ∧ b ≠ go ∧ v.ownBlock ≠ some b
theorem Ep.nil (w : World) (v : Value) (lo go : Nat) (L : List Value) : Ep w v lo go [] L := fun _ h => absurd h (Nat.not_lt_zero _)
theorem Ep.move {w w' : World} {v v' : Value} {lo go : Nat} {acc : List (Int × List Nat)} {L : List Value} (h : Ep w v lo go acc L) (he : ∀ b, lo ≤ b → b < w.heap.size → b ≠ go → v.ownBlock ≠ some b → w'.heap[b]? = w.heap[b]?) (hs : w.heap.size ≤ w'.heap.size) (hv : ∀ b, v'.ownBlock = some b → v.ownBlock = some b ∨ w.heap.size ≤ b) : Ep w' v' lo go acc L := fun i hi => by
  obtain ⟨u, b, h1, h2, h3, h4, h5, h6⟩ := h i hi
  refine ⟨u, b, h1, h2, h3.move (he b h4 h3.2.1 h5 h6) hs, h4, h5, fun q => ?_⟩
  rcases hv b q with q | q
  · exact h6 q
  · exact absurd h3.2.1 (Nat.not_lt_of_le q)
theorem Ep.snoc {w : World} {v : Value} {lo go b : Nat} {acc : List (Int × List Nat)} {L : List Value} {x : Int × List Nat} {u : Value} (h : Ep w v lo go acc L) (hl : L.length = acc.length * 2) (hu : Li w u b x.2) (h4 : lo ≤ b) (h5 : b ≠ go) (h6 : v.ownBlock ≠ some b) : Ep w v lo go (acc ++ [x]) (L ++ [.int .i64 x.1, u]) := fun i hi' => by
  rcases Nat.lt_or_ge i acc.length with q | q
  · obtain ⟨u', b', h1, h2, h3⟩ := h i q
    refine ⟨u', b', ?_, ?_, ?_⟩
    · rw [List.getElem?_append_left (by omega), List.getElem_append_left q]; exact h1
    · rw [List.getElem?_append_left (by omega)]; exact h2
    · rw [List.getElem_append_left q]; exact h3
  · have e : i = acc.length := by simp at hi'; omega
    subst e
    refine ⟨u, b, ?_, ?_, ?_, h4, h5, h6⟩
    · rw [List.getElem?_append_right (by omega), List.getElem_append_right (by omega), show acc.length * 2 - L.length = 0 by omega]
      simp
    · rw [List.getElem?_append_right (by omega), show acc.length * 2 + 1 - L.length = 1 by omega]
      rfl
    · rw [List.getElem_append_right (by omega)]
      simpa using hu
theorem Ep.rd {w : World} {lo go base : Nat} {v : Value} {acc : List (Int × List Nat)} {L : List Value} (h : Ep w v lo go acc L) (hO : w.ownsRow base 28 2 v acc.length L) : RdK w v acc := by
  rcases hO.2 with ⟨rfl, h0⟩ | ⟨g, cap, cur, rfl, hb, hg, hn, hm, hs, ht⟩
  · obtain rfl := List.eq_nil_of_length_eq_zero h0
    exact RdK.nil _
  · refine ⟨_, cap, rfl, hn, hm, fun i hi => ?_⟩
    obtain ⟨u, b, h1, h2, h3, -⟩ := h i hi
    have hc := fun j hj => World.ownsRow.cellAt hO j hj
    refine ⟨g, 0, u, rfl, ?_, ?_, h3.1⟩
    · rw [Nat.zero_add, hc (i * 2) (by omega), h1]
    · rw [Nat.zero_add, hc (i * 2 + 1) (by omega), h2]
/-- A row of keys that is its own from bs on, with their bytes elsewhere. -/
def RowE (w : World) (bs : Nat) (v : Value) (lo go : Nat) (acc : List (Int × List Nat)) (L : List Value) : Prop := w.ownsRow bs 28 2 v acc.length L ∧ Ep w v lo go acc L ∧ bs ≤ w.heap.size
/-- Bytes that may stand in such a row. -/
def Nk (w : World) (v : Value) (lo go : Nat) (u : Value) (l : List Nat) : Prop := ∃ b, Li w u b l ∧ lo ≤ b ∧ b ≠ go ∧ v.ownBlock ≠ some b
theorem RowE.nil {w : World} {bs : Nat} (lo go : Nat) (h : bs ≤ w.heap.size) : RowE w bs (.slice none 0 0) lo go [] [] := ⟨World.ownsRow_nil _ _ _ _, Ep.nil _ _ _ _ _, h⟩
theorem RowE.below {w w' : World} {bs lo go : Nat} {v : Value} {acc : List (Int × List Nat)} {L : List Value} (h : RowE w bs v lo go acc L) (hb : Below w.heap.size w w') : RowE w' bs v lo go acc L :=
  ⟨orow_below h.1 hb, h.2.1.move (fun b _ hs _ _ => hb.block b hs) hb.size (fun _ e => .inl e), Nat.le_trans h.2.2 hb.size⟩
theorem Nk.below {w w' : World} {lo go : Nat} {v u : Value} {l : List Nat} (h : Nk w v lo go u l) (hb : Below w.heap.size w w') : Nk w' v lo go u l := by
  obtain ⟨b, h1, h2⟩ := h
  exact ⟨b, h1.move (hb.block b h1.2.1) hb.size, h2⟩
theorem Nk.one {w : World} {lo go : Nat} {v u : Value} {l : List Nat} (h : Nk w v lo go u l) : u.oneCell' = true := by
  obtain ⟨b, ⟨-, -, o, n, c, rfl⟩, -⟩ := h
  rfl
theorem Nk.rd {w : World} {lo go : Nat} {v u : Value} {l : List Nat} (h : Nk w v lo go u l) : Rd w u l := by
  obtain ⟨b, h1, -⟩ := h
  exact h1.1
theorem Nk.own {w w' : World} {bs lo go : Nat} {v u : Value} {acc : List (Int × List Nat)} {L : List Value} {l : List Nat} (h : RowE w bs v lo go acc L) (hu : Own w' w.heap.size u l) (h0 : 0 < l.length) (h1 : lo ≤ bs) (h2 : go < bs) : Nk w' v lo go u l := by
  rcases hu.2 with ⟨rfl, q⟩ | ⟨g, cap, cur, rfl, hb, hg, -⟩
  · omega
  · have := h.2.2
    exact ⟨g, ⟨hu.rd, var_lt hg, 0, _, _, rfl⟩, by omega, by omega, fun e => by have := (World.ownsRow.lt h.1 g e).2; omega⟩
theorem Nk.ob {w : World} {bs lo hi go : Nat} {v u : Value} {acc : List (Int × List Nat)} {L : List Value} {l : List Nat} (h : RowE w bs v lo go acc L) (hu : OB w lo hi u l) (h0 : 0 < l.length) (h1 : hi ≤ go) (h2 : go < bs) : Nk w v lo go u l := by
  obtain ⟨⟨T, hu⟩, hl⟩ := hu
  have hr : Rd w u l := Owx.rd ⟨T, hu⟩
  rcases hu.2 with ⟨rfl, q⟩ | ⟨g, cap, cur, rfl, hb, hg, -⟩
  · omega
  · have hh := hl g rfl
    exact ⟨g, ⟨hr, var_lt hg, 0, _, _, rfl⟩, hb, by omega, fun e => by have := (World.ownsRow.lt h.1 g e).1; omega⟩
theorem RowE.app {w w' : World} {bs lo go g cap : Nat} {v u : Value} {acc : List (Int × List Nat)} {L : List Value} {x : Int × List Nat} (h : RowE w bs v lo go acc L) (hu : Nk w v lo go u x.2)
    (ho : w'.ownsRow bs 28 2 (.slice (some ⟨g, 0, none⟩) (acc.length + 1) cap) (acc.length + 1) (L ++ [.int .i64 x.1, u])) (hG : w.grownBy w' v.ownBlock) (hg : v.ownBlock = some g ∨ g = w.heap.size) :
    RowE w' bs (.slice (some ⟨g, 0, none⟩) (acc.length + 1) cap) lo go (acc ++ [x]) (L ++ [.int .i64 x.1, u]) := by
  obtain ⟨b, h1, h2, h3, h4⟩ := hu
  refine ⟨by rw [List.length_append]; exact ho, ?_, Nat.le_trans h.2.2 hG.size⟩
  exact (h.2.1.snoc h.1.1 h1 h2 h3 h4).move (fun b _ hs _ hv => hG.block b hs (fun e => hv e.symm)) hG.size (fun b e => by
    have e : g = b := Option.some.inj e
    subst e
    rcases hg with q | q
    · exact .inl q
    · exact .inr (by omega))
theorem RowE.set {w : World} {bs lo go i : Nat} {v : Value} {acc : List (Int × List Nat)} {L : List Value} (h : RowE w bs v lo go acc L) (hg : go < bs) (x : Value) : RowE (w.setCell ⟨go, i, none⟩ x) bs v lo go acc L :=
  ⟨ownsRow_setCell_below h.1 (a := ⟨go, i, none⟩) hg x, h.2.1.move (fun b _ _ hb _ => Below.heap_setCell _ _ _ _ hb) (by rw [size_set1]; exact Nat.le_refl _) (fun _ e => .inl e), by rw [size_set1]; exact h.2.2⟩
theorem RowE.low {w : World} {bs lo go g1 i : Nat} {v : Value} {acc : List (Int × List Nat)} {L : List Value} (h : RowE w bs v lo go acc L) (hg : g1 < bs) (hl : g1 < lo) (x : Value) : RowE (w.setCell ⟨g1, i, none⟩ x) bs v lo go acc L :=
  ⟨ownsRow_setCell_below h.1 (a := ⟨g1, i, none⟩) hg x, h.2.1.move (fun b hb _ _ _ => Below.heap_setCell _ _ _ _ (show b ≠ g1 by omega)) (by rw [size_set1]; exact Nat.le_refl _) (fun _ e => .inl e), by rw [size_set1]; exact h.2.2⟩
theorem RowE.rd {w : World} {bs lo go : Nat} {v : Value} {acc : List (Int × List Nat)} {L : List Value} (h : RowE w bs v lo go acc L) : RdK w v acc := h.2.1.rd h.1
/-- An append to a row of keys, and where the row lies behind it. -/
theorem step_appL {ops : Array Oper} {o : Oper} {a : Act} {w : World} {K : Act → World → Prop} {Q : Exit → Act → World → Prop} {E : Prop} (hgd : o.guard = none) (s x : Operand)
    (ho : o.op = .call { callee := .builtin .append, args := #[s, x], argTypes := #[32, 32] }) (v u : Value) (n : Nat) (L : List Value) (base gx cx : Nat) (id' : Int) (hs : a.eval s = v) (hx : a.eval x = .slice (some ⟨gx, 0, none⟩) 1 cx) (h : w.ownsRow base 28 2 v n L) (hb : base ≤ w.heap.size)
    (c0 : w.cell? ⟨gx, 0, none⟩ = some (.int .i64 id')) (c1 : w.cell? ⟨gx, 1, none⟩ = some u) (h1 : u.oneCell' = true) (hn : n ≤ 1048576)
    (hK : ∀ g cap w', w'.ownsRow base 28 2 (.slice (some ⟨g, 0, none⟩) (n + 1) cap) (n + 1) (L ++ [.int .i64 id', u]) → w.grownBy w' v.ownBlock → (v.ownBlock = some g ∨ g = w.heap.size) → g < w'.heap.size → K (a.put o.dst (.slice (some ⟨g, 0, none⟩) (n + 1) cap)) w') : if Region.wanted o (yielded ops a.tmps) = true then Oper.wp Try.prog o a w K Q else E := by
  have hw : Region.wanted o (yielded ops a.tmps) = true := by simp [Region.wanted, hgd]
  rw [if_pos hw]
  obtain ⟨i0, hi, hz0, hz1, hz2⟩ := info_parts infoKa
  exact wp_append_lies w s x 32 ho base 28 i0 _ 2 32 Try.underlying32 hi hz0 hz1 hz2 rfl (by omega) v n L hs h ⟨gx, 0, none⟩ 1 cx [.int .i64 id', u] hx rfl (fun j x hj => by
    match j, hj with
    | 0, hj => cases hj; exact c0
    | 1, hj => cases hj; exact c1
    | j + 2, hj => simp at hj) (fun x hx => by
    rcases List.mem_cons.1 hx with rfl | hx
    · rfl
    · obtain rfl := List.mem_singleton.1 hx; exact h1) (by omega) (by unfold maxLen; omega) (by omega) hb _ rfl
    (fun g cap w' r1 r2 r3 r4 => hK g cap w' r1 r2 r3 r4)
end Go.Proofs.Ytifgcffifffdnaj.W
