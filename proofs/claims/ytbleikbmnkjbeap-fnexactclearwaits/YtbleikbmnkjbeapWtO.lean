/-
  Slices of waits that came in, opened. Types' numbers alone.
-/
import Derived.Test.YtbleikbmnkjbeapWtF
import Derived.Deep.SlicePairs
import Derived.Lib.SmallJoins
namespace Go.Proofs.Ytbleikbmnkjbeap.W
open Go.RowKit Go.ChangeShapes Go.WideShapes Go.ChangeAt Go.Deep Go.Joins
open Go.Proofs.Ytbleikbmnkjbeap.M

theorem seven_of {α : Type} {l : List α} (h : l.length = 7) : ∃ a b c d e f g, l = [a, b, c, d, e, f, g] := by
  match l, h with
  | [a, b, c, d, e, f, g], _ => exact ⟨a, b, c, d, e, f, g, rfl⟩
theorem celj1 : Try.prog.cellsOf 2 = 1 := by kernel_rfl
theorem cel7 : Try.prog.cellsOf 54 = 7 := by kernel_rfl
theorem intj_one {H : Type} {enc : TypeId × Value → H} {w : World} {base : Nat} {spare : Nat → Bool} {held : Bool} {n : Nat} {v : Value} {y : DataW H × List MemPlace} (h : DataW.trod enc Try.prog w base spare held n 2 [v] = some y) : ∃ k : Int, v = .int .i64 k ∧ (Lit.int .i64 k).wf = true := by
  obtain ⟨k, e, -, q⟩ := DataW.trod_int Try.underlying2 h
  simp only [List.cons.injEq, and_true] at e
  exact ⟨k, e, q⟩
set_option maxRecDepth 100000 in
theorem cells_wait {H : Type} {enc : TypeId × Value → H} {w : World} {base : Nat} {spare : Nat → Bool} {held : Bool} {fuel : Nat} {L : List Value} {x : DataW H × List MemPlace} (h : DataW.trod enc Try.prog w base spare held fuel 54 L = some x) :
    ∃ c : Wai, L = jrow c := by
  obtain ⟨xs, n, -, -, hl, hx, hf⟩ := DataW.trod_struct Try.underlying54 h
  obtain ⟨a, b, c, d, e, f, g, rfl⟩ := seven_of (hl.trans cel7)
  obtain ⟨y0, y1, y2, y3, y4, y5, y6, rfl⟩ := seven_of hx
  have g0 := hf 0 _ rfl
  have g1 := hf 1 _ rfl
  have g2 := hf 2 _ rfl
  have g3 := hf 3 _ rfl
  have g4 := hf 4 _ rfl
  have g5 := hf 5 _ rfl
  have g6 := hf 6 _ rfl
  simp [celj1] at g0 g1 g2 g3 g4 g5 g6
  obtain ⟨a, rfl, -⟩ := intj_one g0
  obtain ⟨b, rfl, -⟩ := intj_one g1
  obtain ⟨c, rfl, -⟩ := intj_one g2
  obtain ⟨d, rfl, -⟩ := intj_one g3
  obtain ⟨e, rfl, -⟩ := intj_one g4
  obtain ⟨f, rfl, -⟩ := intj_one g5
  obtain ⟨g, rfl, -⟩ := intj_one g6
  exact ⟨⟨a, b, c, d, e, f, g⟩, rfl⟩
theorem rdJ_of {H : Type} {enc : TypeId × Value → H} {w : World} {fuel : Nat} {v : Value} {x : DataW H × List MemPlace}
    (h : DataW.trod enc Try.prog w 0 (fun _ => true) true fuel 22 [v] = some x) : ∃ cs, RdJ w v cs := by
  rcases open_slice Try.underlying22 h with ⟨e, -⟩ | ⟨a, len, cap, m, n, D, Pl, e, -, hl, hm, hmm, -, hx⟩
  · simp only [List.cons.injEq, and_true] at e
    subst e
    exact ⟨[], RdJ.nil w⟩
  · simp only [List.cons.injEq, and_true] at e
    subst e
    simp only [if_true] at hmm
    subst hmm
    have each : ∀ i, ∃ c : Wai, i < m → (∀ t x, (jrow c)[t]? = some x → w.cell? (a.add (i * 7 + t)) = some x) := by
      intro i
      by_cases hlt : i < m
      · obtain ⟨cs', h1, h2⟩ := hx i hlt
        rw [cel7] at h1
        obtain ⟨c, e⟩ := cells_wait h2
        obtain ⟨_, hlen, hcell⟩ := World.cells?_some h1
        refine ⟨c, fun _ t x q => ?_⟩
        have ht := lt7 q
        have e0 := hcell t (by omega)
        rw [add_add] at e0
        rw [e0, e]
        exact q
      · exact ⟨⟨0, 0, 0, 0, 0, 0, 0⟩, fun h => absurd h hlt⟩
    obtain ⟨f, hf⟩ := Classical.axiomOfChoice each
    have hlen : ((List.range len).map f).length = len := by simp
    refine ⟨(List.range len).map f, some a, m, by rw [hlen], by omega, hm, fun i hi => ?_⟩
    rw [hlen] at hi
    have q1 := hf i (by omega)
    obtain ⟨b, o, spot⟩ := a
    have hspot : spot = none := by simpa [Addr.add] using World.cell?_spot ((hf 0 (by omega)) 0 _ rfl)
    subst hspot
    refine ⟨b, o, rfl, fun t x q => ?_⟩
    have := q1 t x (by simpa using q)
    rw [Addr.add_lit] at this
    rw [Nat.add_assoc]
    exact this
set_option maxRecDepth 100000 in
/-- A wait that came in. -/
theorem open_wait {H : Type} {enc : TypeId × Value → H} {W : World} {r : Reach} {b0 : Nat} {v : Value} {d : DataW H} {p : List MemPlace} (hv : Value.okWide Try.prog W r b0 54 v) (h : DataW.Trod enc Try.prog W 0 (fun _ => true) true 54 v d p) :
    ∃ a b c d e f g : Int, v = .agg #[.int .i64 a, .int .i64 b, .int .i64 c, .int .i64 d, .int .i64 e, .int .i64 f, .int .i64 g] ∧ (Lit.int .i64 a).wf = true ∧ (Lit.int .i64 b).wf = true ∧ (Lit.int .i64 c).wf = true ∧ (Lit.int .i64 d).wf = true ∧ (Lit.int .i64 e).wf = true ∧ (Lit.int .i64 f).wf = true ∧ (Lit.int .i64 g).wf = true := by
  obtain ⟨L, rfl, -⟩ := okWide_struct Try.underlying54 hv
  obtain ⟨fuel, h⟩ := h
  obtain ⟨xs, n, -, -, hl, hx, hf⟩ := DataW.trod_struct Try.underlying54 h
  obtain ⟨L⟩ := L
  simp only [Value.cells] at hl hf
  obtain ⟨a, b, c, d, e, f, g, rfl⟩ := seven_of (hl.trans cel7)
  obtain ⟨y0, y1, y2, y3, y4, y5, y6, rfl⟩ := seven_of hx
  have g0 := hf 0 _ rfl
  have g1 := hf 1 _ rfl
  have g2 := hf 2 _ rfl
  have g3 := hf 3 _ rfl
  have g4 := hf 4 _ rfl
  have g5 := hf 5 _ rfl
  have g6 := hf 6 _ rfl
  simp [celj1] at g0 g1 g2 g3 g4 g5 g6
  obtain ⟨a, rfl, w0⟩ := intj_one g0
  obtain ⟨b, rfl, w1⟩ := intj_one g1
  obtain ⟨c, rfl, w2⟩ := intj_one g2
  obtain ⟨d, rfl, w3⟩ := intj_one g3
  obtain ⟨e, rfl, w4⟩ := intj_one g4
  obtain ⟨f, rfl, w5⟩ := intj_one g5
  obtain ⟨g, rfl, w6⟩ := intj_one g6
  exact ⟨a, b, c, d, e, f, g, rfl, w0, w1, w2, w3, w4, w5, w6⟩
end Go.Proofs.Ytbleikbmnkjbeap.W
