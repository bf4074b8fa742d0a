/-
  Messages: what they are, their numbers, their faults. Plain mathematics; no function of the program is named here.
-/
import Derived.Test.YtalaolfcdaaaoaaWithin
namespace Go.Proofs.Ytalaolfcdaaaoaa.W
open Go.RowKit
open Go.Proofs.Ytalaolfcdaaaoaa.M

/-- A message. -/
structure Msg where
  k : Int
  s : Int
  n : Int
  cn : Int
  ci : Int
  cs : Int
  cm : Int
  op : Int
  id : Int
  l : List Nat
/-- A number of a message in memory: where it is kept, in how many bytes it is told, its bounds. -/
structure Num where
  b : Nat
  o : Nat
  sz : Int
  lo : Int
  hi : Int
/-- The numbers xs are kept at the places ns. -/
def Kp (w : World) (ns : List Num) (xs : List Int) : Prop := ns.length = xs.length ∧ ∀ i (h : i < ns.length), w.cell? ⟨(ns[i]).b, (ns[i]).o, none⟩ = some (.int .i64 (xs.getD i 0))
theorem Kp.below {w w' : World} {ns : List Num} {xs : List Int} (h : Kp w ns xs) (hb : Below w.heap.size w w') : Kp w' ns xs := ⟨h.1, fun i hi => cell_kept hb (h.2 i hi)⟩
/-- The slice v reads the places ns. -/
def RdN (w : World) (v : Value) (ns : List Num) : Prop :=
  ∃ g, v = .slice (some ⟨g, 0, none⟩) ns.length ns.length ∧ ns.length ≤ 4 ∧ (∃ C, w.heap[g]? = some (.cells C 174)) ∧ ∀ i (h : i < ns.length), w.cell? ⟨g, i * 4, none⟩ = some (.pointer (some ⟨(ns[i]).b, (ns[i]).o, none⟩)) ∧ w.cell? ⟨g, i * 4 + 1, none⟩ = some (.int .i64 (ns[i]).sz) ∧ w.cell? ⟨g, i * 4 + 2, none⟩ = some (.int .i64 (ns[i]).lo) ∧ w.cell? ⟨g, i * 4 + 3, none⟩ = some (.int .i64 (ns[i]).hi)
theorem RdN.parts {w : World} {v : Value} {ns : List Num} (h : RdN w v ns) : ∃ g, v = .slice (some ⟨g, 0, none⟩) ns.length ns.length ∧ ns.length ≤ 4 ∧ (∃ C, w.heap[g]? = some (.cells C 174)) ∧ ∀ i (h : i < ns.length), w.cell? ⟨g, i * 4, none⟩ = some (.pointer (some ⟨(ns[i]).b, (ns[i]).o, none⟩)) ∧ w.cell? ⟨g, i * 4 + 1, none⟩ = some (.int .i64 (ns[i]).sz) ∧ w.cell? ⟨g, i * 4 + 2, none⟩ = some (.int .i64 (ns[i]).lo) ∧ w.cell? ⟨g, i * 4 + 3, none⟩ = some (.int .i64 (ns[i]).hi) := h
theorem RdN.below {w w' : World} {v : Value} {ns : List Num} (h : RdN w v ns) (hb : Below w.heap.size w w') : RdN w' v ns := by
  obtain ⟨g, rfl, h4, ⟨C, hC⟩, h⟩ := h
  exact ⟨g, rfl, h4, ⟨C, var_below hb hC⟩, fun i hi => ⟨cell_kept hb (h i hi).1, cell_kept hb (h i hi).2.1, cell_kept hb (h i hi).2.2.1, cell_kept hb (h i hi).2.2.2⟩⟩
/-- All lie within their bounds. -/
def fitB (ns : List Num) (xs : List Int) : Bool := (List.range ns.length).all fun i => inB (xs.getD i 0) (ns.getD i ⟨0, 0, 0, 0, 0⟩).lo (ns.getD i ⟨0, 0, 0, 0, 0⟩).hi
theorem fit_yes {ns : List Num} {xs : List Int} (h : ∀ i (hi : i < ns.length), inB (xs.getD i 0) (ns[i]).lo (ns[i]).hi = true) : fitB ns xs = true := by
  unfold fitB
  rw [List.all_eq_true]
  intro i hi
  have hi := List.mem_range.1 hi
  have := h i hi
  simpa [List.getD_eq_getElem?_getD, hi] using this
theorem fit_no {ns : List Num} {xs : List Int} (i : Nat) (hi : i < ns.length) (h : inB (xs.getD i 0) (ns[i]).lo (ns[i]).hi = false) : fitB ns xs = false := by
  cases e : fitB ns xs with
  | false => rfl
  | true =>
    unfold fitB at e
    rw [List.all_eq_true] at e
    have q := e i (List.mem_range.2 hi)
    have : inB (xs.getD i 0) (ns[i]).lo (ns[i]).hi = true := by simpa [List.getD_eq_getElem?_getD, hi] using q
    rw [h] at this
    cases this
/-- The fault of a claim. -/
def clF (a b c d : Int) : Int := if inB a 0 3 = true ∧ inB b 0 1000000 = true ∧ inB c 0 2 = true ∧ inB d 0 9999999 = true then 0 else 3
/-- What its kind does not need is zero. -/
def mForm (m : Msg) : Prop :=
  ((m.k = 1 ∨ m.k = 3) ∧ m.cn = 0 ∧ m.ci = 0 ∧ m.cs = 0 ∧ m.cm = 0 ∧ m.op = 0 ∧ m.id = 0 ∧ m.l = []) ∨
  (m.k = 2 ∧ m.n = 0 ∧ m.cn = 0 ∧ m.ci = 0 ∧ m.cs = 0 ∧ m.cm = 0 ∧ m.op = 0 ∧ m.id = 0 ∧ m.l = []) ∨
  (m.k = 4 ∧ m.s = 0 ∧ m.n = 0 ∧ m.op = 0 ∧ m.id = 0 ∧ m.l = []) ∨
  (m.k = 5 ∧ m.s = 0 ∧ m.n = 0 ∧ m.cn = 0 ∧ m.ci = 0 ∧ m.cs = 0 ∧ m.cm = 0)
/-- Its numbers lie within their bounds. -/
def mFit (m : Msg) : Prop :=
  (m.k = 4 → inB m.cn 0 3 = true ∧ inB m.ci 0 1000000 = true ∧ inB m.cs 0 2 = true ∧ inB m.cm 0 9999999 = true) ∧
  (m.k = 5 → inB m.op 1 3 = true ∧ inB m.id 1 255 = true) ∧
  (m.k ≠ 4 → m.k ≠ 5 → inB m.s 0 1000000 = true ∧ inB m.n 0 3 = true)
/-- It has as many bytes as it has to have. -/
def mLen (m : Msg) : Prop := m.k = 5 → m.l.length = if m.op = 1 then 16 else 0
/-- c is the fault of the message. -/
def mF (m : Msg) (c : Int) : Prop := (¬ mForm m ∧ c = 1) ∨ (mForm m ∧ ¬ mFit m ∧ c = 3) ∨ (mForm m ∧ mFit m ∧ ¬ mLen m ∧ c = 2) ∨ (mForm m ∧ mFit m ∧ mLen m ∧ c = 0)
theorem mF_some (m : Msg) : ∃ c, mF m c := by
  by_cases h1 : mForm m
  · by_cases h2 : mFit m
    · by_cases h3 : mLen m
      · exact ⟨0, .inr (.inr (.inr ⟨h1, h2, h3, rfl⟩))⟩
      · exact ⟨2, .inr (.inr (.inl ⟨h1, h2, h3, rfl⟩))⟩
    · exact ⟨3, .inr (.inl ⟨h1, h2, rfl⟩)⟩
  · exact ⟨1, .inl ⟨h1, rfl⟩⟩
end Go.Proofs.Ytalaolfcdaaaoaa.W
