/-
  Messages that came in, opened: their cells. Types' numbers alone.
-/
import Derived.Test.YtifgcffifffdnamSl
import Derived.Test.YtifgcffifffdnamMsF
import Derived.Deep.SlicePairs
import Derived.Lib.SmallJoins
namespace Go.Proofs.Ytifgcffifffdnam.W
open Go.RowKit Go.ChangeShapes Go.WideShapes Go.ChangeAt Go.Deep Go.Joins
open Go.Proofs.Ytifgcffifffdnam.M

theorem list10 {α : Type} {l : List α} (h : l.length = 10) : ∃ a b c d e f g i j k, l = [a, b, c, d, e, f, g, i, j, k] := by
  match l, h with
  | [a, b, c, d, e, f, g, i, j, k], _ => exact ⟨a, b, c, d, e, f, g, i, j, k, rfl⟩
theorem list6 {α : Type} {l : List α} (h : l.length = 6) : ∃ a b c d e f, l = [a, b, c, d, e, f] := by
  match l, h with
  | [a, b, c, d, e, f], _ => exact ⟨a, b, c, d, e, f, rfl⟩
theorem list4 {α : Type} {l : List α} (h : l.length = 4) : ∃ a b c d, l = [a, b, c, d] := by
  match l, h with
  | [a, b, c, d], _ => exact ⟨a, b, c, d, rfl⟩
theorem list2 {α : Type} {l : List α} (h : l.length = 2) : ∃ a b, l = [a, b] := by
  match l, h with
  | [a, b], _ => exact ⟨a, b, rfl⟩
theorem cl1 : Try.prog.cellsOf 2 = 1 := by kernel_rfl
theorem cl4 : Try.prog.cellsOf 31 = 4 := by kernel_rfl
theorem cl2 : Try.prog.cellsOf 38 = 2 := by kernel_rfl
theorem cls : Try.prog.cellsOf 36 = 1 := by kernel_rfl
theorem cl10 : Try.prog.cellsOf 40 = 10 := by kernel_rfl
theorem one_int {H : Type} {enc : TypeId × Value → H} {w : World} {base : Nat} {spare : Nat → Bool} {held : Bool} {n : Nat} {v : Value} {y : DataW H × List MemPlace} (h : DataW.trod enc Try.prog w base spare held n 2 [v] = some y) : ∃ k : Int, v = .int .i64 k ∧ (Lit.int .i64 k).wf = true := by
  obtain ⟨k, e, -, q⟩ := DataW.trod_int Try.underlying2 h
  simp only [List.cons.injEq, and_true] at e
  exact ⟨k, e, q⟩
set_option maxRecDepth 100000 in
theorem claim_cells {H : Type} {enc : TypeId × Value → H} {w : World} {base : Nat} {spare : Nat → Bool} {held : Bool} {fuel : Nat} {v0 v1 v2 v3 : Value} {x : DataW H × List MemPlace} (h : DataW.trod enc Try.prog w base spare held fuel 31 [v0, v1, v2, v3] = some x) :
    ∃ a b c d : Int, v0 = .int .i64 a ∧ v1 = .int .i64 b ∧ v2 = .int .i64 c ∧ v3 = .int .i64 d ∧ (Lit.int .i64 a).wf = true ∧ (Lit.int .i64 b).wf = true ∧ (Lit.int .i64 c).wf = true ∧ (Lit.int .i64 d).wf = true := by
  obtain ⟨xs, n, -, -, -, hx, hf⟩ := DataW.trod_struct Try.underlying31 h
  obtain ⟨y0, y1, y2, y3, rfl⟩ := list4 hx
  have g0 := hf 0 _ rfl
  have g1 := hf 1 _ rfl
  have g2 := hf 2 _ rfl
  have g3 := hf 3 _ rfl
  simp [cl1] at g0 g1 g2 g3
  obtain ⟨a, ea, wa⟩ := one_int g0
  obtain ⟨b, eb, wb⟩ := one_int g1
  obtain ⟨c, ec, wc⟩ := one_int g2
  obtain ⟨d, ed, wd⟩ := one_int g3
  exact ⟨a, b, c, d, ea, eb, ec, ed, wa, wb, wc, wd⟩
set_option maxRecDepth 100000 in
theorem key_cells {H : Type} {enc : TypeId × Value → H} {w : World} {base : Nat} {spare : Nat → Bool} {held : Bool} {fuel : Nat} {v0 v1 : Value} {x : DataW H × List MemPlace} (h : DataW.trod enc Try.prog w base spare held fuel 38 [v0, v1] = some x) :
    ∃ (a : Int) (n : Nat) (y : DataW H × List MemPlace), v0 = .int .i64 a ∧ (Lit.int .i64 a).wf = true ∧ DataW.trod enc Try.prog w base spare held n 36 [v1] = some y := by
  obtain ⟨xs, n, -, -, -, hx, hf⟩ := DataW.trod_struct Try.underlying38 h
  obtain ⟨y0, y1, rfl⟩ := list2 hx
  have g0 := hf 0 _ rfl
  have g1 := hf 1 _ rfl
  simp [cl1, cls] at g0 g1
  obtain ⟨a, ea, wa⟩ := one_int g0
  exact ⟨a, n, y1, ea, wa, g1⟩
set_option maxRecDepth 100000 in
theorem msg_cells {H : Type} {enc : TypeId × Value → H} {w : World} {base : Nat} {spare : Nat → Bool} {held : Bool} {fuel : Nat} {L : List Value} {x : DataW H × List MemPlace} (h : DataW.trod enc Try.prog w base spare held fuel 40 L = some x) :
    ∃ (k s n cn ci cs cm op id' : Int) (v : Value) (m : Nat) (y : DataW H × List MemPlace), L = [.int .i64 k, .int .i64 s, .int .i64 n, .int .i64 cn, .int .i64 ci, .int .i64 cs, .int .i64 cm, .int .i64 op, .int .i64 id', v] ∧
      DataW.trod enc Try.prog w base spare held m 36 [v] = some y := by
  obtain ⟨xs, n, -, -, hl, hx, hf⟩ := DataW.trod_struct Try.underlying40 h
  obtain ⟨a, b, c, d, e, f, g, i, j, k, rfl⟩ := list10 (hl.trans cl10)
  obtain ⟨y0, y1, y2, y3, y4, y5, rfl⟩ := list6 hx
  have g0 := hf 0 _ rfl
  have g1 := hf 1 _ rfl
  have g2 := hf 2 _ rfl
  have g3 := hf 3 _ rfl
  have g4 := hf 4 _ rfl
  have g5 := hf 5 _ rfl
  simp [cl1, cl4, cl2] at g0 g1 g2 g3 g4 g5
  obtain ⟨k0, rfl, -⟩ := one_int g0
  obtain ⟨k1, rfl, -⟩ := one_int g1
  obtain ⟨k2, rfl, -⟩ := one_int g2
  obtain ⟨k3, k4, k5, k6, rfl, rfl, rfl, rfl, -⟩ := claim_cells g3
  obtain ⟨k7, rfl, -⟩ := one_int g4
  obtain ⟨k8, m, y, rfl, -, hy⟩ := key_cells g5
  exact ⟨k0, k1, k2, k3, k4, k5, k6, k7, k8, _, m, y, rfl, hy⟩
/-- Bytes that came in. -/
theorem bytes_in {H : Type} {enc : TypeId × Value → H} {W : World} {n : Nat} {v : Value} {y : DataW H × List MemPlace} (h : DataW.trod enc Try.prog W 0 (fun _ => true) true n 36 [v] = some y) : ∃ l, Rd W v l ∧ Byt l := by
  rcases open_ints Try.underlying36 Try.underlying5 (by kernel_rfl) h with ⟨hcs, _⟩ | ⟨x, l, c, zs, hcs, _, hl, hm, hz, _, hcell, hwz⟩
  · simp only [List.cons.injEq, and_true] at hcs
    subst hcs
    exact ⟨[], Rd.nil W, fun x hx => by simp at hx⟩
  · simp only [List.cons.injEq, and_true] at hcs
    subst hcs
    obtain ⟨l, -, y, h⟩ := rd_of_row (w := W) (.inr ⟨x, rfl, hl, hm, by simpa using hz, hcell, hwz⟩)
    exact ⟨l, h, y⟩
set_option maxRecDepth 100000 in
theorem open_msg {H : Type} {enc : TypeId × Value → H} {W : World} {r : Reach} {b0 : Nat} {v : Value} {d : DataW H} {p : List MemPlace} (hv : Value.okWide Try.prog W r b0 40 v) (h : DataW.Trod enc Try.prog W 0 (fun _ => true) true 40 v d p) :
    ∃ (k s n cn ci cs cm op id' : Int) (u : Value), v = .agg #[.int .i64 k, .int .i64 s, .int .i64 n, .int .i64 cn, .int .i64 ci, .int .i64 cs, .int .i64 cm, .int .i64 op, .int .i64 id', u] ∧ ∃ l, Rd W u l ∧ Byt l := by
  obtain ⟨L, rfl, -⟩ := okWide_struct Try.underlying40 hv
  obtain ⟨fuel, hf⟩ := h
  obtain ⟨k, s, n, cn, ci, cs, cm, op, id', u, m, y, e, hy⟩ := msg_cells hf
  refine ⟨k, s, n, cn, ci, cs, cm, op, id', u, ?_, bytes_in hy⟩
  obtain ⟨L⟩ := L
  simp only [Value.cells] at e
  subst e
  rfl
end Go.Proofs.Ytifgcffifffdnam.W
