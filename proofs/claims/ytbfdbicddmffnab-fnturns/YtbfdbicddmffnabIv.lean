/-
  Things that lie between two block numbers, and calls that turn nothing else. No function of the program is named here.
-/
import Derived.Test.YtbfdbicddmffnabSlX
namespace Go.Proofs.Ytbfdbicddmffnab.M
open Go.RowKit

/-- Only blocks from lo on, below hi, may be other than they were. -/
structure Ins (lo hi : Nat) (w w' : World) : Prop where
  os : w'.os = w.os
  tape : w'.tape = w.tape
  output : w'.output = w.output
  size : w.heap.size ≤ w'.heap.size
  block : ∀ k, k < w.heap.size → (k < lo ∨ hi ≤ k) → w'.heap[k]? = w.heap[k]?
theorem Ins.refl (lo hi : Nat) (w : World) : Ins lo hi w w := ⟨rfl, rfl, rfl, Nat.le_refl _, fun _ _ _ => rfl⟩
theorem Ins.trans {lo hi : Nat} {a b c : World} (h : Ins lo hi a b) (k : Ins lo hi b c) : Ins lo hi a c :=
  ⟨k.os.trans h.os, k.tape.trans h.tape, k.output.trans h.output, Nat.le_trans h.size k.size, fun i hi' hr => (k.block i (Nat.lt_of_lt_of_le hi' h.size) hr).trans (h.block i hi' hr)⟩
theorem Ins.mono {lo hi lo' hi' : Nat} {w w' : World} (h : Ins lo hi w w') (h1 : lo' ≤ lo) (h2 : hi ≤ hi') : Ins lo' hi' w w' :=
  ⟨h.os, h.tape, h.output, h.size, fun k hk hr => h.block k hk (by omega)⟩
theorem Ins.of_below {lo hi : Nat} {w w' : World} (h : Below w.heap.size w w') : Ins lo hi w w' := ⟨h.os, h.tape, h.output, h.size, fun k hk _ => h.block k hk⟩
theorem Ins.of_grown {lo hi : Nat} {w w' : World} {row : Option Nat} (h : w.grownBy w' row) (hr : ∀ k, row = some k → lo ≤ k ∧ k < hi) : Ins lo hi w w' :=
  ⟨h.os, h.tape, h.output, h.size, fun k hk q => h.block k hk (fun e => by have := hr k e.symm; omega)⟩
theorem Ins.below {lo hi B : Nat} {w w' : World} (h : Ins lo hi w w') (h1 : B ≤ lo) (h2 : B ≤ w.heap.size) : Below B w w' :=
  ⟨h.os, h.tape, h.output, h.size, fun k hk => h.block k (by omega) (.inl (by omega))⟩
theorem Ins.var {lo hi g : Nat} {o : Obj} {w w' : World} (h : Ins lo hi w w') (hv : w.heap[g]? = some o) (hg : g < lo ∨ hi ≤ g) : w'.heap[g]? = some o := by
  rw [h.block g (var_lt hv) hg]; exact hv
/-- Between lo and hi the worlds agree. -/
def Agr (lo hi : Nat) (w w' : World) : Prop := ∀ k, lo ≤ k → k < hi → w'.heap[k]? = w.heap[k]?
theorem Agr.of_below {lo hi : Nat} {w w' : World} (h : Below w.heap.size w w') (hh : hi ≤ w.heap.size) : Agr lo hi w w' := fun k _ h2 => h.block k (by omega)
theorem Agr.of_ins {lo hi a b : Nat} {w w' : World} (h : Ins a b w w') (hh : hi ≤ w.heap.size) (hd : hi ≤ a ∨ b ≤ lo) : Agr lo hi w w' := fun k _ _ => h.block k (by omega) (by omega)
/-- The slice v reads l, and it is its own: its block lies between lo and hi. -/
def OB (w : World) (lo hi : Nat) (v : Value) (l : List Nat) : Prop := Owx w lo v l ∧ ∀ g, v.ownBlock = some g → g < hi
theorem OB.of {w : World} {lo : Nat} {v : Value} {l : List Nat} (h : Owx w lo v l) : OB w lo w.heap.size v l := ⟨h, fun g e => (h.lt g e).2⟩
theorem OB.nil (w : World) (lo hi : Nat) : OB w lo hi (.slice none 0 0) [] := ⟨Owx.nil w lo, fun g e => by cases e⟩
theorem OB.rd {w : World} {lo hi : Nat} {v : Value} {l : List Nat} (h : OB w lo hi v l) : Rd w v l := h.1.rd
theorem OB.agr {w w' : World} {lo hi : Nat} {v : Value} {l : List Nat} (h : OB w lo hi v l) (k : Agr lo hi w w') : OB w' lo hi v l := by
  obtain ⟨⟨T, h1, h2⟩, h3⟩ := h
  refine ⟨⟨T, h1, ?_⟩, h3⟩
  rcases h2 with hn | ⟨g, cap, cur, rfl, hbb, hgg, rest⟩
  · exact .inl hn
  · exact .inr ⟨g, cap, cur, rfl, hbb, by rw [k g hbb (h3 g rfl)]; exact hgg, rest⟩
theorem OB.below {w w' : World} {lo hi : Nat} {v : Value} {l : List Nat} (h : OB w lo hi v l) (k : Below w.heap.size w w') : OB w' lo hi v l := ⟨h.1.below k, h.2⟩
theorem OB.mono {w : World} {lo hi lo' hi' : Nat} {v : Value} {l : List Nat} (h : OB w lo hi v l) (h1 : lo' ≤ lo) (h2 : hi ≤ hi') : OB w lo' hi' v l :=
  ⟨h.1.mono h1, fun g e => Nat.lt_of_lt_of_le (h.2 g e) h2⟩
theorem OB.under {w : World} {lo hi : Nat} {v : Value} {l : List Nat} (h : OB w lo hi v l) (a : Addr) (ha : a.block < lo) (x : Value) : OB (w.setCell a x) lo hi v l :=
  ⟨by obtain ⟨T, q⟩ := h.1; exact ⟨T, ownsRow_setCell_below q ha x⟩, h.2⟩
theorem OB.blk {w : World} {lo hi g : Nat} {v : Value} {l : List Nat} (h : OB w lo hi v l) (e : v.ownBlock = some g) : lo ≤ g ∧ g < hi := ⟨(h.1.lt g e).1, h.2 g e⟩
theorem cell_low {B : Nat} {w w' : World} (hS : Below B w w') {b o : Nat} {u : Value} (hc : w.cell? ⟨b, o, none⟩ = some u) (hb : b < B) : w'.cell? ⟨b, o, none⟩ = some u :=
  (hS.cell (p := ⟨b, o, none⟩) hb).trans hc
end Go.Proofs.Ytbfdbicddmffnab.M
