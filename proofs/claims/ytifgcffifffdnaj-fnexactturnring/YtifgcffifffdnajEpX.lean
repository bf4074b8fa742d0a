/-
  A row of keys is read, whatever lies below it.
-/
import Derived.Test.YtifgcffifffdnajEpW
import Derived.Test.YtifgcffifffdnajFarW
namespace Go.Proofs.Ytifgcffifffdnaj.W
open Go.ChangeShapes Go.WideShapes Go.ChangeAt Go.RowKit
open Go.Proofs.Ytifgcffifffdnaj.M
theorem Li.at {w w' : World} {u : Value} {b : Nat} {l : List Nat} (h : Li w u b l) (he : w'.heap[b]? = w.heap[b]?) : Rd w' u l := by
  obtain ⟨⟨a, cap, e, hn, hm, hc⟩, hb, o, n, c, rfl⟩ := h
  refine ⟨a, cap, e, hn, hm, fun i hi => ?_⟩
  obtain ⟨b', o', rfl, hcc⟩ := hc i hi
  simp only [Value.slice.injEq, Option.some.injEq, Addr.mk.injEq] at e
  obtain ⟨⟨rfl, -, -⟩, -, -⟩ := e
  refine ⟨b, o', rfl, ?_⟩
  rw [← hcc]
  simp only [World.cell?, he]
theorem RowE.far {w : World} {bs lo go base : Nat} {v : Value} {acc : List (Int × List Nat)} {L : List Value} (h : RowE w bs v lo go acc L) (h1 : base ≤ lo) (h2 : base ≤ bs) : FarK w base v acc := fun w' hw => by
  have hO : w'.ownsRow bs 28 2 v acc.length L := by
    refine ⟨h.1.1, ?_⟩
    rcases h.1.2 with hn | ⟨g, cap, cur, rfl, hbb, hgg, rest⟩
    · exact .inl hn
    · exact .inr ⟨g, cap, cur, rfl, hbb, by rw [hw g (by omega)]; exact hgg, rest⟩
  rcases hO.2 with ⟨rfl, h0⟩ | ⟨g, cap, cur, rfl, hb, hg, hn, hm, hs, ht⟩
  · obtain rfl := List.eq_nil_of_length_eq_zero h0
    exact RdK.nil _
  · refine ⟨_, cap, rfl, hn, hm, fun i hi => ?_⟩
    obtain ⟨u, b, e1, e2, e3, e4, -⟩ := h.2.1 i hi
    have hc := fun j hj => World.ownsRow.cellAt hO j hj
    refine ⟨g, 0, u, rfl, ?_, ?_, e3.at (hw b (by omega))⟩
    · rw [Nat.zero_add, hc (i * 2) (by omega), e1]
    · rw [Nat.zero_add, hc (i * 2 + 1) (by omega), e2]
end Go.Proofs.Ytifgcffifffdnaj.W
