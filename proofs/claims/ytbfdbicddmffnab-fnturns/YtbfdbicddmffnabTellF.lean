/-
  A ring's numbers in their order: plain mathematics over the map's datum.
-/
import Derived.Test.YtbfdbicddmffnabIkrW
import Derived.Lib.SlKeysI
namespace Go.Proofs.Ytbfdbicddmffnab.W
open Go.ChangeShapes Go.WideShapes Go.ChangeAt Go.RowKit Go.Maps
open Go.Proofs.Ytbfdbicddmffnab.M

/-- The numbers of a ring. -/
def ids (ks : List (Int × List Nat)) : List Int := ks.map (·.1)
theorem ids_pairs {ks : List (Int × List Nat)} (h : Rise ks) : (ids ks).Pairwise (fun x y => x < y) := by
  rw [List.pairwise_iff_getElem]
  intro i j hi hj hij
  simp only [ids, List.length_map] at hi hj
  simp only [ids, List.getElem_map]
  exact rise_lt h j i hj hij
theorem ids_mem (ks : List (Int × List Nat)) (x : Int) : x ∈ ids ks ↔ ∃ j, ∃ h : j < ks.length, j < ks.length ∧ (ks[j]).1 = x := by
  unfold ids
  rw [List.mem_map]
  constructor
  · rintro ⟨k, hk, rfl⟩
    obtain ⟨j, hj, rfl⟩ := List.getElem_of_mem hk
    exact ⟨j, hj, hj, rfl⟩
  · rintro ⟨j, hj, -, rfl⟩
    exact ⟨ks[j], List.getElem_mem hj, rfl⟩
theorem sorted_ids {w : World} {b n : Nat} {D : DataW Value} {ks : List (Int × List Nat)} (hM : MapK w b n D) (hH : HasTo ks ks.length D) (hr : Rise ks) {ss : List Int} (hp : ss.Perm (intKeys D)) : ss.mergeSort (fun x y => decide (x ≤ y)) = ids ks := by
  obtain ⟨es, hD, hpw, -⟩ := World.ownsMap.entries hM lawK
  obtain ⟨es', hD', hko⟩ := World.ownsMap.keysOf hM
  obtain rfl : es = es' := by rw [hD] at hD'; simpa using hD'
  subst hD
  have hk : ∀ p ∈ es, ∃ x, p.1 = .int .i64 x := fun p hp => by
    obtain ⟨v, hv⟩ := hko p hp
    obtain ⟨x, _, hx, _⟩ := Maps.keyOf_i64 Try.underlying2 hv
    exact ⟨x, hx⟩
  have q := perm_intKeys hpw hk ((ids_pairs hr).imp (fun h => Int.ne_of_lt h)) (fun x => (ids_mem ks x).trans (hH x).symm)
  have e := mergeSort_of_perm_i (hp.trans q.symm)
  refine e.trans (List.Perm.eq_of_pairwise (le := fun a b => a ≤ b) (fun a b _ _ h1 h2 => Int.le_antisymm h1 h2) ?_ ((ids_pairs hr).imp Int.le_of_lt) (List.mergeSort_perm _ _))
  exact (List.pairwise_mergeSort (le := leI) (fun a b c h1 h2 => by simp only [leI, decide_eq_true_eq] at *; omega) (fun a b => by simp only [leI, Bool.or_eq_true, decide_eq_true_eq]; omega) _).imp (fun h => by simpa [leI] using h)
end Go.Proofs.Ytbfdbicddmffnab.W
