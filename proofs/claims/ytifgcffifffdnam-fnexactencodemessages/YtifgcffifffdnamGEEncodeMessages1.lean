/-
  Slices of messages that came in, opened. Types' numbers alone.
-/
import Derived.Test.YtifgcffifffdnamMgO
import Derived.Test.YtifgcffifffdnamMlF

namespace Go.Proofs.Ytifgcffifffdnam.W
open Go.RowKit Go.ChangeShapes Go.WideShapes Go.ChangeAt Go.Deep Go.Joins
open Go.Proofs.Ytifgcffifffdnam.M

theorem rdM_of {H : Type} {enc : TypeId × Value → H} {w : World} {fuel : Nat} {v : Value} {x : DataW H × List MemPlace}
    (h : DataW.trod enc Try.prog w 0 (fun _ => true) true fuel 65 [v] = some x) : ∃ ms, RdM w v ms := by
  rcases open_slice Try.underlying65 h with ⟨e, -⟩ | ⟨a, len, cap, m, n, D, Pl, e, -, hl, hm, hmm, -, hx⟩
  · simp only [List.cons.injEq, and_true] at e
    subst e
    exact ⟨[], RdM.nil w⟩
  · simp only [List.cons.injEq, and_true] at e
    subst e
    simp only [if_true] at hmm
    subst hmm
    have each : ∀ i, ∃ p : Msg × Value, i < m → (∀ t x, (mrow p.1 p.2)[t]? = some x → w.cell? (a.add (i * 10 + t)) = some x) ∧ Rd w p.2 p.1.l := by
      intro i
      by_cases hlt : i < m
      · obtain ⟨cs', h1, h2⟩ := hx i hlt
        rw [cl10] at h1
        obtain ⟨k, s, n', cn, ci, cs, cm, op, id', u, m', y, e, hy⟩ := msg_cells h2
        obtain ⟨l, hr, -⟩ := bytes_in hy
        obtain ⟨_, hlen, hcell⟩ := World.cells?_some h1
        refine ⟨(⟨k, s, n', cn, ci, cs, cm, op, id', l⟩, u), fun _ => ⟨fun t x q => ?_, hr⟩⟩
        have ht : t < 10 := by
          rcases Nat.lt_or_ge t 10 with q' | q'
          · exact q'
          · rw [List.getElem?_eq_none (by rw [mrow_len]; omega)] at q; cases q
        have e0 := hcell t (by omega)
        rw [add_add] at e0
        rw [e0, e]
        exact q
      · exact ⟨(⟨0, 0, 0, 0, 0, 0, 0, 0, 0, []⟩, .slice none 0 0), fun h => absurd h hlt⟩
    obtain ⟨f, hf⟩ := Classical.axiomOfChoice each
    have hlen : ((List.range len).map fun i => (f i).1).length = len := by simp
    refine ⟨(List.range len).map fun i => (f i).1, some a, m, by rw [hlen], by omega, hm, fun i hi => ?_⟩
    rw [hlen] at hi
    obtain ⟨q1, q3⟩ := hf i (by omega)
    obtain ⟨b, o, spot⟩ := a
    have hspot : spot = none := by simpa [Addr.add] using World.cell?_spot ((hf 0 (by omega)).1 0 _ rfl)
    subst hspot
    refine ⟨b, o, (f i).2, rfl, fun t x q => ?_, ?_⟩
    · have := q1 t x (by simpa using q)
      rw [Addr.add_lit] at this
      rw [Nat.add_assoc]
      exact this
    · simpa using q3
end Go.Proofs.Ytifgcffifffdnam.W
