/-
  What slices.Sort does to numbers that are a call's own.
-/
import Derived.Test.YtalaolfcdaaaoaaSrtS
import Derived.Sort.OwnSortedInts
import Derived.Test.YtalaolfcdaaaoaaSlZI
namespace Go.Proofs.Ytalaolfcdaaaoaa.W
open Go.ChangeShapes Go.WideShapes Go.ChangeAt Go.RowKit Go.Sort Go.Shelf
open Go.Proofs.Ytalaolfcdaaaoaa.M

/-- They are sorted. -/
def srt (ss : List Int) : List Int := ss.mergeSort fun x y => decide (x ≤ y)
theorem srt_len (ss : List Int) : (srt ss).length = ss.length := List.length_mergeSort ..
theorem srt_mem (ss : List Int) (x : Int) : x ∈ srt ss ↔ x ∈ ss := List.mem_mergeSort
theorem srt_ris (ss : List Int) (h : ss.Nodup) : (srt ss).Pairwise (· < ·) := by
  have h1 : (srt ss).Pairwise (fun x y => decide (x ≤ y) = true) := List.pairwise_mergeSort (fun a b c q r => by simp at *; omega) (fun a b => by simp; omega) ss
  have h2 : (srt ss).Nodup := (List.mergeSort_perm ss _).symm.nodup_iff.1 h
  unfold List.Nodup at h2
  exact (h1.and h2).imp fun ⟨q, r⟩ => by simp at q; omega
set_option maxRecDepth 100000 in
theorem isort (v : Value) (ss : List Int) (base : Nat) (w : World) (h : OwZ w base v ss) (hl : ss.length ≤ 4194304) :
    Calls Try.prog 127 #[v] w fun e w' => e = .returned (.tuple #[]) ∧ OwZ w' base v (srt ss) ∧ w.grownBy w' v.ownBlock := by
  rcases h.2 with ⟨rfl, h0⟩ | ⟨g, cap, cur, rfl, hb, hg, hn, hm, hs, ht⟩
  · obtain rfl := List.eq_nil_of_length_eq_zero h0
    have hc : Calls Try.prog 127 #[.slice none 0 0] w fun e w' => e = .returned (.tuple #[]) ∧ w' = w := AnyM.slices_Sort_int_none Try.sortA none 0 w
    exact hc.mono fun e w' ⟨he, hw⟩ => ⟨he, by rw [hw, show srt [] = [] by simp [srt]]; exact h, by rw [hw]; exact World.grownBy.refl _ _⟩
  · have hc : Calls Try.prog 127 #[.slice (some ⟨g, 0, none⟩) ss.length cap] w fun e w' => e = .returned (.tuple #[]) ∧ ∃ n os, w' = grow (putRow (Value.int .i64) (Sort.ahead w n) g 0 (srt ss).toArray) os :=
      AnyM.slices_Sort_int Try.sortA g 0 cap ss w (holds_of_blockI hg (by rw [Nat.mul_one] at ht; exact ht)) (Array.getElem?_eq_some_iff.1 hg).1 (by omega)
    refine hc.mono fun e w' ⟨he, n, os, hw⟩ => ⟨he, ?_, by rw [hw]; exact grownBy_sortedI _⟩
    rw [hw]
    have hr := ownsRow_sortedI (n := n) (os := os) (srt_len ss) hb hg hn hm hs
    unfold OwZ
    rw [srt_len]
    exact hr
end Go.Proofs.Ytalaolfcdaaaoaa.W
