/-
  Slices of claims that came in, opened. Types' numbers alone.
-/
import Derived.Test.YtemkokgejohlbaaVwF
import Derived.Deep.SlicePairs
import Derived.Lib.SmallJoins
namespace Go.Proofs.Ytemkokgejohlbaa.W
open Go.RowKit Go.ChangeShapes Go.WideShapes Go.ChangeAt Go.Deep Go.Joins
open Go.Proofs.Ytemkokgejohlbaa.M

theorem four_of {α : Type} {l : List α} (h : l.length = 4) : ∃ a b c d, l = [a, b, c, d] := by
  match l, h with
  | [a, b, c, d], _ => exact ⟨a, b, c, d, rfl⟩
theorem cel1 : Try.prog.cellsOf 2 = 1 := by kernel_rfl
theorem cel4 : Try.prog.cellsOf 41 = 4 := by kernel_rfl
theorem int_one {H : Type} {enc : TypeId × Value → H} {w : World} {base : Nat} {spare : Nat → Bool} {held : Bool} {n : Nat} {v : Value} {y : DataW H × List MemPlace} (h : DataW.trod enc Try.prog w base spare held n 2 [v] = some y) : ∃ k : Int, v = .int .i64 k ∧ (Lit.int .i64 k).wf = true := by
  obtain ⟨k, e, -, q⟩ := DataW.trod_int Try.underlying2 h
  simp only [List.cons.injEq, and_true] at e
  exact ⟨k, e, q⟩
set_option maxRecDepth 100000 in
theorem cells_claim {H : Type} {enc : TypeId × Value → H} {w : World} {base : Nat} {spare : Nat → Bool} {held : Bool} {fuel : Nat} {L : List Value} {x : DataW H × List MemPlace} (h : DataW.trod enc Try.prog w base spare held fuel 41 L = some x) :
    ∃ c : Clm, L = crow c := by
  obtain ⟨xs, n, -, -, hl, hx, hf⟩ := DataW.trod_struct Try.underlying41 h
  obtain ⟨a, b, c, d, rfl⟩ := four_of (hl.trans cel4)
  obtain ⟨y0, y1, y2, y3, rfl⟩ := four_of hx
  have g0 := hf 0 _ rfl
  have g1 := hf 1 _ rfl
  have g2 := hf 2 _ rfl
  have g3 := hf 3 _ rfl
  simp [cel1] at g0 g1 g2 g3
  obtain ⟨a, rfl, -⟩ := int_one g0
  obtain ⟨b, rfl, -⟩ := int_one g1
  obtain ⟨c, rfl, -⟩ := int_one g2
  obtain ⟨d, rfl, -⟩ := int_one g3
  exact ⟨⟨a, b, c, d⟩, rfl⟩
theorem rdC_of {H : Type} {enc : TypeId × Value → H} {w : World} {fuel : Nat} {v : Value} {x : DataW H × List MemPlace}
    (h : DataW.trod enc Try.prog w 0 (fun _ => true) true fuel 22 [v] = some x) : ∃ cs, RdC w v cs := by
  rcases open_slice Try.underlying22 h with ⟨e, -⟩ | ⟨a, len, cap, m, n, D, Pl, e, -, hl, hm, hmm, -, hx⟩
  · simp only [List.cons.injEq, and_true] at e
    subst e
    exact ⟨[], RdC.nil w⟩
  · simp only [List.cons.injEq, and_true] at e
    subst e
    simp only [if_true] at hmm
    subst hmm
    have each : ∀ i, ∃ c : Clm, i < m → (∀ t x, (crow c)[t]? = some x → w.cell? (a.add (i * 4 + t)) = some x) := by
      intro i
      by_cases hlt : i < m
      · obtain ⟨cs', h1, h2⟩ := hx i hlt
        rw [cel4] at h1
        obtain ⟨c, e⟩ := cells_claim h2
        obtain ⟨_, hlen, hcell⟩ := World.cells?_some h1
        refine ⟨c, fun _ t x q => ?_⟩
        have ht := lt4 q
        have e0 := hcell t (by omega)
        rw [add_add] at e0
        rw [e0, e]
        exact q
      · exact ⟨⟨0, 0, 0, 0⟩, fun h => absurd h hlt⟩
    obtain ⟨f, hf⟩ := Classical.axiomOfChoice each
    have hlen : ((List.range len).map f).length = len := by simp
    refine ⟨(List.range len).map f, some a, m, by rw [hlen], by omega, hm, fun i hi => ?_⟩
    rw [hlen] at hi
    have q1 := hf i (by omega)
    obtain ⟨b, o, spot⟩ := a
    have hspot : spot = none := by simpa [Addr.add] using World.cell?_spot ((hf 0 (by omega)) 0 _ rfl)
    subst hspot
    refine ⟨b, o, rfl, fun t x q => ?_⟩
    have := q1 t x (by simpa using q)
    rw [Addr.add_lit] at this
    rw [Nat.add_assoc]
    exact this
end Go.Proofs.Ytemkokgejohlbaa.W
