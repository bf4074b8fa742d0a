/-
  Slices of keys (a number and bytes each) in memory: what they read. No function of the program is named here (types' numbers alone).
-/
import Derived.Test.YtbfdbicddmffnabSl
import Derived.Deep.SlicePairs
import Derived.Lib.SmallJoins
namespace Go.Proofs.Ytbfdbicddmffnab.M
open Go.RowKit Go.ChangeShapes Go.WideShapes Go.ChangeAt Go.Deep Go.Joins

/-- v reads the keys ks. -/
def RdK (w : World) (v : Value) (ks : List (Int × List Nat)) : Prop :=
  ∃ (a : Option Addr) (cap : Nat), v = .slice a ks.length cap ∧ ks.length ≤ cap ∧ cap ≤ maxLen ∧
    ∀ i (hi : i < ks.length), ∃ b o u, a = some ⟨b, o, none⟩ ∧ w.cell? ⟨b, o + i * 2, none⟩ = some (.int .i64 ks[i].1) ∧ w.cell? ⟨b, o + i * 2 + 1, none⟩ = some u ∧ Rd w u ks[i].2
theorem RdK.parts {w : World} {v : Value} {ks : List (Int × List Nat)} (h : RdK w v ks) :
    ∃ (a : Option Addr) (cap : Nat), v = .slice a ks.length cap ∧ ks.length ≤ cap ∧ cap ≤ maxLen ∧
    ∀ i (hi : i < ks.length), ∃ b o u, a = some ⟨b, o, none⟩ ∧ w.cell? ⟨b, o + i * 2, none⟩ = some (.int .i64 ks[i].1) ∧ w.cell? ⟨b, o + i * 2 + 1, none⟩ = some u ∧ Rd w u ks[i].2 := h
theorem RdK.below {w w' : World} {v : Value} {ks : List (Int × List Nat)} (h : RdK w v ks) (hb : Below w.heap.size w w') : RdK w' v ks := by
  obtain ⟨a, cap, rfl, hn, hm, hcs⟩ := h
  refine ⟨a, cap, rfl, hn, hm, fun i hi => ?_⟩
  obtain ⟨b, o, u, rfl, h1, h2, h3⟩ := hcs i hi
  exact ⟨b, o, u, rfl, cell_kept hb h1, cell_kept hb h2, h3.below hb⟩
theorem RdK.nil (w : World) : RdK w (.slice none 0 0) [] := ⟨none, 0, rfl, Nat.le_refl _, Nat.zero_le _, fun i hi => by simp at hi⟩
/-- All are bytes. -/
def KBy (ks : List (Int × List Nat)) : Prop := ∀ k ∈ ks, Byt k.2
/-- How many bytes there are. -/
def tot (ks : List (Int × List Nat)) : Nat := (ks.map fun k => k.2.length).sum
theorem tot_at (ks : List (Int × List Nat)) (i : Nat) (hi : i < ks.length) : (ks[i]).2.length ≤ tot ks := by
  unfold tot
  have h : (ks[i]).2.length ∈ ks.map fun k => k.2.length := List.mem_map.2 ⟨ks[i], List.getElem_mem hi, rfl⟩
  generalize ks.map (fun k => k.2.length) = l at h
  induction l with
  | nil => simp at h
  | cons x r ih =>
    rw [List.sum_cons]
    rcases List.mem_cons.1 h with e | e
    · omega
    · have := ih e; omega
theorem tot_take (ks : List (Int × List Nat)) (i : Nat) (hi : i < ks.length) : tot (ks.take (i + 1)) = tot (ks.take i) + (ks[i]).2.length := by
  unfold tot
  rw [List.take_succ_eq_append_getElem hi, List.map_append, List.sum_append]
  simp
theorem tot_le (ks : List (Int × List Nat)) (i : Nat) : tot (ks.take i) ≤ tot ks := by
  unfold tot
  conv => rhs; rw [← List.take_append_drop i ks, List.map_append, List.sum_append]
  omega
/-- A slice of keys that came in. -/
theorem rdK_of {P : Program} {H : Type} {enc : TypeId × Value → H} {w : World} {T E S : TypeId} {f0 f1 : Field} {fuel : Nat} {v : Value} {x : DataW H × List MemPlace}
    (ht : P.underlying T = some (.slice E)) (he : P.underlying E = some (.struct #[f0, f1])) (ce : P.cellsOf E = 2) (o0 : f0.offset = 0) (o1 : f1.offset = 1) (c0 : P.cellsOf f0.type = 1) (c1 : P.cellsOf f1.type = 1)
    (hi : P.underlying f0.type = some (.int .i64)) (hb : P.underlying f1.type = some (.slice S)) (hu : P.underlying S = some (.int .u8)) (hc : P.cellsOf S = 1)
    (h : DataW.trod enc P w 0 (fun _ => true) true fuel T [v] = some x) : ∃ ks, RdK w v ks ∧ KBy ks := by
  rcases open_slice_pairs ht he ce o0 o1 c0 c1 h with ⟨e, -⟩ | ⟨a, len, cap, m, n, V0, V1, D0, D1, P0, P1, e, -, hl, hm, hmm, -, hx⟩
  · simp only [List.cons.injEq, and_true] at e
    subst e
    exact ⟨[], RdK.nil w, fun k hk => by simp at hk⟩
  · simp only [List.cons.injEq, and_true] at e
    subst e
    simp only [if_true] at hmm
    subst hmm
    have each : ∀ i, ∃ p : Int × List Nat, i < m → w.cell? (a.add (i * 2)) = some (.int .i64 p.1) ∧ w.cell? (a.add (i * 2 + 1)) = some (V1 i) ∧ Rd w (V1 i) p.2 ∧ Byt p.2 := by
      intro i
      by_cases hlt : i < m
      · obtain ⟨q1, q2, q3, q4⟩ := hx i hlt
        obtain ⟨z, e0, -, -⟩ := DataW.trod_int hi q3
        simp only [List.cons.injEq, and_true] at e0
        rcases open_ints hb hu hc q4 with ⟨e1, -⟩ | ⟨y, l, c, zs, e1, -, hl', hm', hz, -, hcell, hwz⟩
        · simp only [List.cons.injEq, and_true] at e1
          refine ⟨(z, []), fun _ => ⟨by rw [q1, e0], q2, ?_, fun k hk => by simp at hk⟩⟩
          rw [e1]
          exact Rd.nil w
        · simp only [List.cons.injEq, and_true] at e1
          obtain ⟨l', -, hy, hr⟩ := rd_of_row (w := w) (a := some y) (len := l) (cap := c) (zs := zs) (.inr ⟨y, rfl, hl', hm', by simpa using hz, hcell, hwz⟩)
          refine ⟨(z, l'), fun _ => ⟨by rw [q1, e0], q2, ?_, hy⟩⟩
          rw [e1]
          exact hr
      · exact ⟨(0, []), fun h => absurd h hlt⟩
    obtain ⟨f, hf⟩ := Classical.axiomOfChoice each
    have hlen : ((List.range len).map f).length = len := by simp
    refine ⟨(List.range len).map f, ⟨some a, m, by rw [hlen], by omega, hm, fun i hi => ?_⟩, fun k hk => ?_⟩
    · rw [hlen] at hi
      obtain ⟨q1, q2, q3, -⟩ := hf i (by omega)
      obtain ⟨b, o, spot⟩ := a
      have hspot : spot = none := by simpa [Addr.add] using World.cell?_spot (hf 0 (by omega)).1
      subst hspot
      rw [Addr.add_lit] at q1 q2
      refine ⟨b, o, V1 i, rfl, ?_, ?_, ?_⟩
      · rw [q1]; simp
      · rw [Nat.add_assoc, q2]
      · simpa using q3
    · obtain ⟨i, hi, rfl⟩ := List.mem_map.1 hk
      exact (hf i (by have := List.mem_range.1 hi; omega)).2.2.2
end Go.Proofs.Ytbfdbicddmffnab.M
