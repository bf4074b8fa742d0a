/-
  What a ring that was made, and a ring that was turned, are.
-/
import Derived.Test.YtbfdbicddmffnabItnW
import Derived.Test.YtbfdbicddmffnabNrF
import Derived.Test.YtbfdbicddmffnabSrsW
import Derived.Test.YtbfdbicddmffnabTrF
namespace Go.Proofs.Ytbfdbicddmffnab.M
open Go.RowKit
open Go.Proofs.Ytbfdbicddmffnab.W

theorem nr_law {p c rk : Int} {l : List Nat} {t : List (Int × List Nat)} (h : nrIs p l c rk t) (h0 : c = 0) : rk = p ∧ t.length = 1 ∧ rF rk t = 0 := by
  rcases h with ⟨q, q2, -, -⟩ | ⟨q, -, rfl, rfl⟩
  · exact absurd (q2.symm.trans h0) q
  · exact ⟨rfl, rfl, q⟩
theorem has_mem {ks : List (Int × List Nat)} {p : Int} : Has ks p ↔ ∃ k ∈ ks, k.1 = p := by
  constructor
  · rintro ⟨i, hi, e⟩
    exact ⟨_, List.getElem_mem hi, e⟩
  · rintro ⟨k, hk, e⟩
    obtain ⟨i, hi, rfl⟩ := List.getElem_of_mem hk
    exact ⟨i, hi, e⟩
theorem tn_has {p op id' p' : Int} {l : List Nat} {ks ks' : List (Int × List Nat)} (h0 : rF p ks = 0) (h : tnIs p op id' l ks 0 p' ks') : Has ks' p' := by
  obtain ⟨k1, k3, k16, kr, kp⟩ := rF_parts h0
  rcases h with ⟨-, rfl, rfl, h⟩ | ⟨-, -, rfl, rfl, h⟩ | ⟨-, -, rfl, rfl, h⟩ | ⟨-, -, q⟩
  · obtain ⟨k, hk, e⟩ := has_mem.1 kp
    exact has_mem.2 ⟨k, (mem_insK _ _ _).2 (.inr hk), e⟩
  · rcases h with ⟨q, -⟩ | ⟨-, q⟩
    · exact q
    · cases q
  · rcases h with ⟨-, hn, -⟩ | ⟨-, -, q⟩ | ⟨-, q⟩
    · obtain ⟨k, hk, e⟩ := has_mem.1 kp
      exact has_mem.2 ⟨k, rm_mem.2 ⟨hk, by rw [e]; exact fun z => hn z.symm⟩, e⟩
    · cases q
    · cases q
  · cases q
theorem tr_law {p op id' c rk : Int} {l : List Nat} {ks t : List (Int × List Nat)} (h : trIs p op ks id' l c rk t) (h0 : c = 0) : rF rk t = 0 := by
  rcases h with ⟨q, q2, -, -⟩ | ⟨q, p', ks', hn, ⟨q2, -, -⟩ | ⟨-, rfl, rfl⟩⟩
  · exact absurd (q2.symm.trans h0) q
  · exact absurd h0 q2
  · subst h0
    obtain ⟨hr, ha, h1, h3⟩ := tn_good q hn
    refine rF_ok (by omega) (fun j hj => ?_) hr (tn_has q hn)
    have := ha j hj
    rw [kF, if_pos this.1, if_pos this.2]
theorem sameS_self (l : List Nat) : sameS l l = true := by simp [sameS]
theorem smR_self (p : Int) (ks : List (Int × List Nat)) : smR p p ks ks = true := by
  simp [smR, smTo, sm1, sameS_self]
end Go.Proofs.Ytbfdbicddmffnab.M
