/-
  A ring with one key more: plain mathematics, and the map that reads so.
-/
import Derived.Test.YtbfdbicddmffnabRmF
import Derived.Test.YtbfdbicddmffnabTellF
namespace Go.Proofs.Ytbfdbicddmffnab.W
open Go.ChangeShapes Go.WideShapes Go.ChangeAt Go.RowKit
open Go.Proofs.Ytbfdbicddmffnab.M

/-- The key x at its place. -/
def insK (x : Int × List Nat) : List (Int × List Nat) → List (Int × List Nat)
  | [] => [x]
  | k :: r => if x.1 < k.1 then x :: k :: r else k :: insK x r
theorem mem_insK (x y : Int × List Nat) : ∀ ks : List (Int × List Nat), y ∈ insK x ks ↔ y = x ∨ y ∈ ks
  | [] => by simp [insK]
  | k :: r => by
    unfold insK
    split
    · simp
    · rw [List.mem_cons, mem_insK x y r, List.mem_cons]
      constructor
      · rintro (q | q | q)
        · exact .inr (.inl q)
        · exact .inl q
        · exact .inr (.inr q)
      · rintro (q | q | q)
        · exact .inr (.inl q)
        · exact .inl q
        · exact .inr (.inr q)
theorem insK_len (x : Int × List Nat) : ∀ ks : List (Int × List Nat), (insK x ks).length = ks.length + 1
  | [] => rfl
  | k :: r => by
    unfold insK
    split
    · rfl
    · simp [insK_len x r]
theorem insK_pair (x : Int × List Nat) : ∀ ks : List (Int × List Nat), (ks.Pairwise fun a b => a.1 < b.1) → (∀ k ∈ ks, k.1 ≠ x.1) → (insK x ks).Pairwise fun a b => a.1 < b.1
  | [], _, _ => by simp [insK]
  | k :: r, h, hn => by
    have h1 := List.pairwise_cons.1 h
    unfold insK
    split
    · rename_i q
      refine List.pairwise_cons.2 ⟨fun y hy => ?_, h⟩
      rcases List.mem_cons.1 hy with e | e
      · rw [e]; exact q
      · have := h1.1 y e; omega
    · rename_i q
      have ne := hn k (by simp)
      refine List.pairwise_cons.2 ⟨fun y hy => ?_, insK_pair x r h1.2 fun z hz => hn z (List.mem_cons_of_mem _ hz)⟩
      rcases (mem_insK x y r).1 hy with e | e
      · rw [e]; omega
      · exact h1.1 y e
theorem has_mem {ks : List (Int × List Nat)} {p : Int} : Has ks p ↔ ∃ k ∈ ks, k.1 = p := by
  constructor
  · rintro ⟨i, hi, e⟩
    exact ⟨ks[i], List.getElem_mem hi, e⟩
  · rintro ⟨k, hk, e⟩
    obtain ⟨i, hi, q⟩ := List.getElem_of_mem hk
    exact ⟨i, hi, by rw [q]; exact e⟩
theorem insK_rise {x : Int × List Nat} {ks : List (Int × List Nat)} (h : Rise ks) (hn : ¬ Has ks x.1) : Rise (insK x ks) :=
  pair_rise (insK_pair x ks (rise_pair h) fun k hk e => hn (has_mem.2 ⟨k, hk, e⟩))
theorem insK_all {x : Int × List Nat} {ks : List (Int × List Nat)} {P : Int × List Nat → Prop} (h : ∀ i (hi : i < ks.length), P ks[i]) (hx : P x) : ∀ i (hi : i < (insK x ks).length), P (insK x ks)[i] := fun i hi => by
  rcases (mem_insK x _ ks).1 (List.getElem_mem hi) with e | e
  · rw [e]; exact hx
  · obtain ⟨j, hj, q⟩ := List.getElem_of_mem e
    rw [← q]
    exact h j hj
theorem hasTo_mem {ks : List (Int × List Nat)} {D : DataW Value} : HasTo ks ks.length D ↔ ∀ x, Maps.has D (.int .i64 x) = true ↔ Has ks x := by
  constructor
  · intro h x
    rw [h x]
    exact ⟨fun ⟨j, hj, _, e⟩ => ⟨j, hj, e⟩, fun ⟨j, hj, e⟩ => ⟨j, hj, hj, e⟩⟩
  · intro h x
    rw [h x]
    exact ⟨fun ⟨j, hj, e⟩ => ⟨j, hj, hj, e⟩, fun ⟨j, hj, _, e⟩ => ⟨j, hj, e⟩⟩
theorem insK_has {x : Int × List Nat} {ks : List (Int × List Nat)} {D : DataW Value} (h : HasTo ks ks.length D) (hD : Maps.IsMap D) (d : DataW Value) : HasTo (insK x ks) (insK x ks).length (D.put (.int .i64 x.1) d) :=
  hasTo_mem.2 fun y => by
    have h' := hasTo_mem.1 h
    by_cases e : y = x.1
    · rw [e, Maps.has_put_same hD (show WideAt.IsKeyLit (.int .i64 x.1) from trivial)]
      exact ⟨fun _ => has_mem.2 ⟨x, (mem_insK x x ks).2 (.inl rfl), rfl⟩, fun _ => rfl⟩
    · rw [Maps.has_put_other (by intro q; cases q; exact e rfl), h' y, has_mem, has_mem]
      constructor
      · rintro ⟨k, hk, q⟩
        exact ⟨k, (mem_insK x k ks).2 (.inr hk), q⟩
      · rintro ⟨k, hk, q⟩
        rcases (mem_insK x k ks).1 hk with q2 | q2
        · exact absurd (by rw [← q, q2]) e
        · exact ⟨k, q2, q⟩
theorem insK_at {x : Int × List Nat} {ks : List (Int × List Nat)} {D : DataW Value} (h : AtTo ks ks.length D) (hD : Maps.IsMap D) (hn : ¬ Has ks x.1) : AtTo (insK x ks) (insK x ks).length (D.put (.int .i64 x.1) (.held (.agg (arr x.2)))) := fun j hj _ => by
  rcases (mem_insK x _ ks).1 (List.getElem_mem hj) with e | e
  · rw [e, Maps.atKey_put_same hD (show WideAt.IsKeyLit (.int .i64 x.1) from trivial)]
  · obtain ⟨i, hi, q⟩ := List.getElem_of_mem e
    have ne : (insK x ks)[j].1 ≠ x.1 := fun q2 => hn (has_mem.2 ⟨_, e, q2⟩)
    rw [Maps.atKey_put_other (by intro q2; simp only [Lit.int.injEq, true_and] at q2; exact ne q2), ← q]
    exact h i hi hi
theorem ids_len (ks : List (Int × List Nat)) : (ids ks).length = ks.length := by simp [ids]
/-- How many keys the map has. -/
theorem size_ring {w : World} {b n : Nat} {D : DataW Value} {ks : List (Int × List Nat)} (hM : MapK w b n D) (hH : HasTo ks ks.length D) (hr : Rise ks) : Maps.size D = ks.length := by
  have h := sorted_ids hM hH hr (List.Perm.refl (intKeys D))
  have h2 : (intKeys D).length = ks.length := by rw [← ids_len ks, ← h, List.length_mergeSort]
  rw [← h2]
  obtain ⟨es, rfl⟩ := World.ownsMap.isMap hM
  simp [intKeys, Maps.size]
/-- What InstallKey tells. -/
def ikIs (p : Int) (ks : List (Int × List Nat)) (x : Int × List Nat) (c rk : Int) (t : List (Int × List Nat)) : Prop :=
  (rF p ks ≠ 0 ∧ c = rF p ks ∧ rk = 0 ∧ t = []) ∨ (rF p ks = 0 ∧ kF x ≠ 0 ∧ c = kF x ∧ rk = 0 ∧ t = []) ∨ (rF p ks = 0 ∧ kF x = 0 ∧ Has ks x.1 ∧ c = 6 ∧ rk = 0 ∧ t = []) ∨ (rF p ks = 0 ∧ kF x = 0 ∧ ¬ Has ks x.1 ∧ 3 ≤ ks.length ∧ c = 7 ∧ rk = 0 ∧ t = []) ∨ (rF p ks = 0 ∧ kF x = 0 ∧ ¬ Has ks x.1 ∧ ks.length < 3 ∧ c = 0 ∧ rk = p ∧ t = insK x ks)
theorem ik_some (p : Int) (ks : List (Int × List Nat)) (x : Int × List Nat) : ∃ c rk t, ikIs p ks x c rk t := by
  by_cases h : rF p ks = 0
  · by_cases h1 : kF x = 0
    · by_cases h2 : Has ks x.1
      · exact ⟨_, _, _, .inr (.inr (.inl ⟨h, h1, h2, rfl, rfl, rfl⟩))⟩
      · by_cases h3 : 3 ≤ ks.length
        · exact ⟨_, _, _, .inr (.inr (.inr (.inl ⟨h, h1, h2, h3, rfl, rfl, rfl⟩)))⟩
        · exact ⟨_, _, _, .inr (.inr (.inr (.inr ⟨h, h1, h2, by omega, rfl, rfl, rfl⟩)))⟩
    · exact ⟨_, _, _, .inr (.inl ⟨h, h1, rfl, rfl, rfl⟩)⟩
  · exact ⟨_, _, _, .inl ⟨h, rfl, rfl, rfl⟩⟩
end Go.Proofs.Ytbfdbicddmffnab.W
