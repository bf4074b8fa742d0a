/-
  A ring without one of its keys: plain mathematics, and the map that reads so.
-/
import Derived.Test.YtbfdbicddmffnabIkrW
import Derived.Test.YtbfdbicddmffnabLetF3
namespace Go.Proofs.Ytbfdbicddmffnab.W
open Go.ChangeShapes Go.WideShapes Go.ChangeAt Go.RowKit
open Go.Proofs.Ytbfdbicddmffnab.M

def rmv (id' : Int) (ks : List (Int × List Nat)) : List (Int × List Nat) := ks.filter fun k => k.1 != id'
theorem rm_mem {id' : Int} {ks : List (Int × List Nat)} {k : Int × List Nat} : k ∈ rmv id' ks ↔ k ∈ ks ∧ k.1 ≠ id' := by simp [rmv]
theorem rise_pair {ks : List (Int × List Nat)} (h : Rise ks) : ks.Pairwise fun a b => a.1 < b.1 :=
  List.pairwise_iff_getElem.2 fun i j _ hj hij => rise_lt h j i hj hij
theorem pair_rise {ks : List (Int × List Nat)} (h : ks.Pairwise fun a b => a.1 < b.1) : Rise ks := fun i hi =>
  List.pairwise_iff_getElem.1 h i (i + 1) (by omega) hi (by omega)
theorem rm_rise {id' : Int} {ks : List (Int × List Nat)} (h : Rise ks) : Rise (rmv id' ks) := pair_rise ((rise_pair h).filter _)
theorem rm_len (id' : Int) (ks : List (Int × List Nat)) : (rmv id' ks).length ≤ ks.length := List.length_filter_le _ _
theorem rm_one {id' p : Int} {ks : List (Int × List Nat)} (h : Has ks p) (hn : id' ≠ p) : 1 ≤ (rmv id' ks).length := by
  obtain ⟨i, hi, e⟩ := h
  have : ks[i] ∈ rmv id' ks := rm_mem.2 ⟨List.getElem_mem hi, by rw [e]; exact Ne.symm hn⟩
  exact List.length_pos_of_mem this
theorem rm_all {id' : Int} {ks : List (Int × List Nat)} {P : Int × List Nat → Prop} (h : ∀ i (hi : i < ks.length), P ks[i]) : ∀ i (hi : i < (rmv id' ks).length), P (rmv id' ks)[i] := fun i hi => by
  obtain ⟨j, hj, e⟩ := List.getElem_of_mem (rm_mem.1 (List.getElem_mem hi)).1
  rw [← e]
  exact h j hj
theorem rm_has {id' : Int} {ks : List (Int × List Nat)} {D : DataW Value} (h : HasTo ks ks.length D) : HasTo (rmv id' ks) (rmv id' ks).length (D.del (.int .i64 id')) := fun x => by
  by_cases e : x = id'
  · subst e
    rw [Maps.has_del_same]
    exact ⟨fun q => absurd q (by decide), fun ⟨j, hj, _, q⟩ => absurd q (rm_mem.1 (List.getElem_mem hj)).2⟩
  · rw [Maps.has_del_other (by intro q; cases q; exact e rfl), h x]
    constructor
    · rintro ⟨j, hj, -, rfl⟩
      obtain ⟨i, hi, q⟩ := List.getElem_of_mem (rm_mem.2 ⟨List.getElem_mem hj, e⟩)
      exact ⟨i, hi, hi, by rw [q]⟩
    · rintro ⟨j, hj, -, rfl⟩
      obtain ⟨i, hi, q⟩ := List.getElem_of_mem (rm_mem.1 (List.getElem_mem hj)).1
      exact ⟨i, hi, hi, by rw [q]⟩
theorem rm_at {id' : Int} {ks : List (Int × List Nat)} {D : DataW Value} (h : AtTo ks ks.length D) : AtTo (rmv id' ks) (rmv id' ks).length (D.del (.int .i64 id')) := fun j hj _ => by
  have hm := rm_mem.1 (List.getElem_mem hj)
  rw [Maps.atKey_del_other (by intro q; simp only [Lit.int.injEq, true_and] at q; exact hm.2 q)]
  obtain ⟨i, hi, q⟩ := List.getElem_of_mem hm.1
  rw [← q]
  exact h i hi hi
end Go.Proofs.Ytbfdbicddmffnab.W
