/-
  What a merge of right views keeps. Plain mathematics.
-/
import Derived.Test.YtbleikbmnkjbeacVwG
import Derived.Test.YtbleikbmnkjbeacVwA
import Derived.Test.YtbleikbmnkjbeacVwMc
import Derived.Test.YtbleikbmnkjbeacVwMv
namespace Go.Proofs.Ytbleikbmnkjbeac.W
open Go.RowKit
open Go.Proofs.Ytbleikbmnkjbeac.M

theorem bt_iff (a b : Clm) : bC a b = true ↔ (b.i < a.i ∨ a.i = b.i ∧ b.s < a.s) := by simp [bC]
theorem bt_no (a b : Clm) : bC a b = false ↔ ¬ (b.i < a.i ∨ a.i = b.i ∧ b.s < a.s) := by
  rw [← bt_iff]; simp
/-- X stands at its node. -/
theorem mem_at {cs : List Clm} (h : vF cs = 0) {X : Clm} (hX : X ∈ cs) : hasN cs X.n = true ∧ cs.getD (lb cs X.n) zC = X := by
  obtain ⟨i, hi, rfl⟩ := List.getElem_of_mem hX
  obtain ⟨h1, h2⟩ := lb_of (vF_ok h).2.2 hi rfl
  refine ⟨h2, ?_⟩
  rw [h1]
  simp [List.getD_eq_getElem?_getD, hi]
theorem at_mem {cs : List Clm} {n : Int} (h : hasN cs n = true) : cs.getD (lb cs n) zC ∈ cs ∧ (cs.getD (lb cs n) zC).n = n := by
  obtain ⟨hk, hn⟩ := hasN_yes h
  have e : cs.getD (lb cs n) zC = cs[lb cs n] := by simp [List.getD_eq_getElem?_getD, hk]
  rw [e]
  exact ⟨List.getElem_mem hk, hn⟩
theorem mem_one {cs : List Clm} (h : vF cs = 0) {X Y : Clm} (hX : X ∈ cs) (hY : Y ∈ cs) (e : X.n = Y.n) : X = Y := by
  rw [← (mem_at h hX).2, ← (mem_at h hY).2, e]
/-- The one is at each node as late as the other, or later. -/
def Up (ds cs : List Clm) : Prop := ∀ Y ∈ cs, ∃ X ∈ ds, X.n = Y.n ∧ (X = Y ∨ bC X Y = true)
theorem Up.refl (cs : List Clm) : Up cs cs := fun Y h => ⟨Y, h, rfl, .inl rfl⟩
theorem Up.trans {es ds cs : List Clm} (h : Up es ds) (k : Up ds cs) : Up es cs := fun Y hY => by
  obtain ⟨X, hX, e, q⟩ := k Y hY
  obtain ⟨Z, hZ, e2, q2⟩ := h X hX
  refine ⟨Z, hZ, e2.trans e, ?_⟩
  rcases q with rfl | q
  · exact q2
  · rcases q2 with rfl | q2
    · exact .inr q
    · rw [bt_iff] at *
      exact .inr (by omega)
theorem mem_set {cs : List Clm} {k : Nat} {c Y : Clm} (hk : k < cs.length) (hY : Y ∈ cs) (ne : Y ≠ cs[k]) : Y ∈ cs.set k c := by
  obtain ⟨i, hi, rfl⟩ := List.getElem_of_mem hY
  have q : k ≠ i := fun e => ne (by subst e; rfl)
  rw [List.mem_iff_getElem]
  exact ⟨i, by rw [List.length_set]; exact hi, by rw [List.getElem_set, if_neg q]⟩
theorem at_eq {cs : List Clm} {n : Int} (hk : lb cs n < cs.length) : cs.getD (lb cs n) zC = cs[lb cs n] := by simp [List.getD_eq_getElem?_getD, hk]
theorem mrg_up (cs : List Clm) (c : Clm) : Up (mrg cs c) cs := fun Y hY => by
  unfold mrg
  cases hh : hasN cs c.n
  · simp only [Bool.false_eq_true, if_false]
    refine ⟨Y, ?_, rfl, .inl rfl⟩
    rw [← List.take_append_drop (lb cs c.n) cs, List.mem_append] at hY
    rw [List.mem_append, List.mem_cons]
    rcases hY with q | q
    · exact .inl q
    · exact .inr (.inr q)
  · obtain ⟨hk, hn⟩ := hasN_yes hh
    simp only [if_true]
    rw [at_eq hk]
    cases hb : bC c cs[lb cs c.n]
    · simp only [Bool.false_eq_true, if_false]
      exact ⟨Y, hY, rfl, .inl rfl⟩
    · simp only [if_true]
      by_cases q : Y = cs[lb cs c.n]
      · subst q
        exact ⟨c, List.mem_iff_getElem.2 ⟨lb cs c.n, by rw [List.length_set]; exact hk, by simp⟩, hn.symm, .inr hb⟩
      · exact ⟨Y, mem_set hk hY q, rfl, .inl rfl⟩
theorem mch_mem {cs : List Clm} {c : Clm} (h : mch cs c = true) : c ∈ mrg cs c := by
  unfold mch at h
  unfold mrg
  cases hh : hasN cs c.n
  · simp
  · rw [hh] at h
    simp only [if_true] at h ⊢
    rw [if_pos h]
    obtain ⟨hk, -⟩ := hasN_yes hh
    exact List.mem_iff_getElem.2 ⟨lb cs c.n, by rw [List.length_set]; exact hk, by simp⟩
theorem mch_same {cs : List Clm} {c : Clm} (h : mch cs c = false) : mrg cs c = cs := by
  unfold mch at h
  unfold mrg
  cases hh : hasN cs c.n
  · rw [hh] at h; cases h
  · rw [hh] at h
    simp only [if_true] at h ⊢
    rw [if_neg (by simpa using h)]
/-- What was merged is there, or what beats it, or what is of one rank with it. -/
def Met (cs : List Clm) (c : Clm) : Prop := ∃ X ∈ cs, X.n = c.n ∧ bC c X = false
theorem Met.up {ds cs : List Clm} {c : Clm} (h : Met cs c) (k : Up ds cs) : Met ds c := by
  obtain ⟨X, hX, e, q⟩ := h
  obtain ⟨Z, hZ, e2, q2⟩ := k X hX
  refine ⟨Z, hZ, e2.trans e, ?_⟩
  rcases q2 with rfl | q2
  · exact q
  · rw [bt_no] at *
    rw [bt_iff] at q2
    omega
theorem mrg_met (cs : List Clm) (c : Clm) : Met (mrg cs c) c := by
  cases h : mch cs c
  · rw [mch_same h]
    unfold mch at h
    cases hh : hasN cs c.n
    · rw [hh] at h; cases h
    · rw [hh] at h
      exact ⟨_, (at_mem hh).1, (at_mem hh).2, h⟩
  · exact ⟨c, mch_mem h, rfl, by rw [bt_no]; omega⟩
theorem met_mch {cs : List Clm} {c : Clm} (h : vF cs = 0) (m : Met cs c) : mch cs c = false := by
  obtain ⟨X, hX, e, q⟩ := m
  obtain ⟨h1, h2⟩ := mem_at h hX
  rw [e] at h1 h2
  unfold mch
  rw [h1, h2, q]
  rfl
theorem mT_up (cs ds : List Clm) : ∀ k j, j ≤ k → k ≤ ds.length → Up (mT cs ds k) (mT cs ds j)
  | 0, j, h, _ => by
    obtain rfl : j = 0 := by omega
    exact Up.refl _
  | k + 1, j, h, hk => by
    rcases Nat.lt_or_ge j (k + 1) with q | q
    · rw [mT_succ cs ds k hk]
      exact (mrg_up _ _).trans (mT_up cs ds k j (by omega) (by omega))
    · obtain rfl : j = k + 1 := by omega
      exact Up.refl _
theorem mT_met (cs ds : List Clm) (i : Nat) (hi : i < ds.length) : Met (mT cs ds ds.length) ds[i] := by
  have h := mrg_met (mT cs ds i) ds[i]
  rw [← mT_succ cs ds i hi] at h
  exact h.up (mT_up cs ds ds.length (i + 1) hi (Nat.le_refl _))
theorem mT_still {T ds : List Clm} (h : vF T = 0) (m : ∀ i (hi : i < ds.length), Met T ds[i]) : ∀ k, k ≤ ds.length → mT T ds k = T ∧ mB T ds k = false
  | 0, _ => ⟨rfl, rfl⟩
  | k + 1, hk => by
    obtain ⟨h1, h2⟩ := mT_still h m k (by omega)
    have q := met_mch h (m k hk)
    rw [mT_succ T ds k hk, mB_succ T ds k hk, h1, h2, q]
    exact ⟨mch_same q, rfl⟩
/-- Merged once more nothing changes. -/
theorem mT_again {cs ds : List Clm} (h : vF cs = 0) (hd : ∀ c ∈ ds, clC c = 0) : mT (mT cs ds ds.length) ds ds.length = mT cs ds ds.length ∧ mB (mT cs ds ds.length) ds ds.length = false :=
  mT_still (mT_ok h hd _) (fun i hi => mT_met cs ds i hi) _ (Nat.le_refl _)
theorem mB_no (cs ds : List Clm) : ∀ k, k ≤ ds.length → mB cs ds k = false → mT cs ds k = cs
  | 0, _, _ => rfl
  | k + 1, hk, h => by
    rw [mB_succ cs ds k hk, Bool.or_eq_false_iff] at h
    rw [mT_succ cs ds k hk, mch_same h.2]
    exact mB_no cs ds k (by omega) h.1
theorem mB_yes {cs ds : List Clm} (h : vF cs = 0) (hd : ∀ c ∈ ds, clC c = 0) (b : mB cs ds ds.length = true) : mT cs ds ds.length ≠ cs := fun e => by
  unfold mB at b
  rw [List.any_eq_true] at b
  obtain ⟨j, hj, q⟩ := b
  have hj := List.mem_range.1 hj
  have ej : ds.getD j zC = ds[j] := by simp [List.getD_eq_getElem?_getD, hj]
  rw [ej] at q
  have m1 := mch_mem q
  rw [← mT_succ cs ds j hj] at m1
  obtain ⟨X, hX, e1, q1⟩ := mT_up cs ds ds.length (j + 1) hj (Nat.le_refl _) _ m1
  rw [e] at hX
  obtain ⟨Y, hY, e2, q2⟩ := mT_up cs ds j 0 (Nat.zero_le _) (by omega) X hX
  have m : Met (mT cs ds j) ds[j] := by
    refine ⟨Y, hY, e2.trans e1, ?_⟩
    rw [bt_no]
    rcases q1 with rfl | q1
    · rcases q2 with rfl | q2
      · omega
      · rw [bt_iff] at q2; omega
    · rcases q2 with rfl | q2
      · rw [bt_iff] at q1; omega
      · rw [bt_iff] at q1 q2; omega
  rw [met_mch (mT_ok h hd j) m] at q
  cases q
/-- It has changed where it reads otherwise. -/
theorem mB_sc {cs ds : List Clm} (h : vF cs = 0) (hd : ∀ c ∈ ds, clC c = 0) : mB cs ds ds.length = !(scA (mT cs ds ds.length) cs) := by
  cases b : mB cs ds ds.length
  · rw [mB_no cs ds _ (Nat.le_refl _) b, (scA_iff cs cs).2 rfl]; rfl
  · cases s : scA (mT cs ds ds.length) cs
    · rfl
    · exact absurd ((scA_iff _ _).1 s) (mB_yes h hd b)
theorem up_ab {T cs : List Clm} (h1 : vF T = 0) (h2 : vF cs = 0) (u : Up T cs) : abA T cs = true := by
  rw [abA_ok h1 h2]
  unfold abTo
  rw [List.all_eq_true]
  intro i hi
  have hi := List.mem_range.1 hi
  have ei : cs.getD i zC = cs[i] := by simp [List.getD_eq_getElem?_getD, hi]
  rw [ei]
  obtain ⟨X, hX, e, q⟩ := u cs[i] (List.getElem_mem hi)
  obtain ⟨a1, a2⟩ := mem_at h1 hX
  rw [e] at a1 a2
  unfold ab1
  rw [a1, a2]
  rcases q with rfl | q
  · rw [(sc1_iff _ _).2 rfl]; rfl
  · rw [q]; simp
theorem mT_ab {cs ds : List Clm} (h : vF cs = 0) (hd : ∀ c ∈ ds, clC c = 0) : abA (mT cs ds ds.length) cs = true :=
  up_ab (mT_ok h hd _) h (mT_up cs ds ds.length 0 (Nat.zero_le _) (Nat.le_refl _))
theorem met_fc {T : List Clm} {c : Clm} (h : vF T = 0) (m : Met T c) : ∃ X : Clm, fcC T c.n = 0 ∧ fcL T c.n = [X] ∧ bC c X = false := by
  obtain ⟨X, hX, e, q⟩ := m
  obtain ⟨a1, a2⟩ := mem_at h hX
  rw [e] at a1 a2
  refine ⟨X, ?_, ?_, q⟩
  · unfold fcC
    rw [if_neg (by simpa using h), a1]; rfl
  · unfold fcL
    rw [if_pos ⟨h, a1⟩, a2]
/-- One claim. -/
theorem mrg_fc {cs : List Clm} {c : Clm} (h : vF cs = 0) (hc : clC c = 0) : ∃ X : Clm, fcC (mrg cs c) c.n = 0 ∧ fcL (mrg cs c) c.n = [X] ∧ bC c X = false ∧ (mch cs c = true → X = c) := by
  have h0 := mrg_ok h hc
  obtain ⟨X, h1, h2, h3⟩ := met_fc h0 (mrg_met cs c)
  refine ⟨X, h1, h2, h3, fun q => ?_⟩
  obtain ⟨a1, a2⟩ := mem_at h0 (mch_mem q)
  unfold fcL at h2
  rw [if_pos ⟨h0, a1⟩, a2] at h2
  exact (List.cons.inj h2).1.symm
theorem mrg_ab {cs : List Clm} {c : Clm} (h : vF cs = 0) (hc : clC c = 0) : abA (mrg cs c) cs = true := up_ab (mrg_ok h hc) h (mrg_up cs c)
theorem mrg_sc {cs : List Clm} {c : Clm} (h : vF cs = 0) (hc : clC c = 0) : mch cs c = !(scA (mrg cs c) cs) := by
  have k := mB_sc (ds := [c]) h (by simpa using hc)
  have e := mc_one cs c
  simp only [List.length_cons, List.length_nil, Nat.zero_add] at k
  rw [e.1, e.2] at k
  exact k
theorem mg_facts {xs ys : List Clm} (h : mvC xs ys = 0) : ∃ T, mvL xs ys = T ∧ vF T = 0 ∧ abA T xs = true ∧ mvC T ys = 0 ∧ mvT T ys = false ∧ mvL T ys = T ∧ mvT xs ys = !(scA T xs) ∧ ∀ i (hi : i < ys.length), Met T ys[i] := by
  unfold mvC at h
  by_cases q : vF xs = 0
  · rw [if_neg (by simpa using q)] at h
    have hd := (vF_ok h).2.1
    have hT := mT_ok q hd ys.length
    have ha := mT_again q hd
    refine ⟨mT xs ys ys.length, by rw [mvL, if_pos ⟨q, h⟩], hT, mT_ab q hd, ?_, ?_, ?_, ?_, fun i hi => mT_met xs ys i hi⟩
    · unfold mvC; rw [if_neg (by simpa using hT), h]
    · unfold mvT; rw [ha.2, Bool.and_false]
    · rw [mvL, if_pos ⟨hT, h⟩, ha.1]
    · unfold mvT; rw [decide_eq_true q, decide_eq_true h, mB_sc q hd]; rfl
  · rw [if_pos q] at h; exact absurd h q
theorem mc_facts {cs : List Clm} {c : Clm} (h : mcC cs c = 0) : ∃ U X, mcL cs c = U ∧ vF U = 0 ∧ fcC U c.n = 0 ∧ fcL U c.n = [X] ∧ bC c X = false ∧ abA U cs = true ∧ mcT cs c = !(scA U cs) ∧ (mcT cs c = true → X = c) := by
  unfold mcC at h
  by_cases q : vF cs = 0
  · rw [if_neg (by simpa using q)] at h
    obtain ⟨X, h1, h2, h3, h4⟩ := mrg_fc q h
    obtain ⟨-, e2, e3⟩ := mc_yes q h
    exact ⟨_, X, e2, mrg_ok q h, h1, h2, h3, mrg_ab q h, by rw [e3]; exact mrg_sc q h, by rw [e3]; exact h4⟩
  · rw [if_pos q] at h; exact absurd h q
end Go.Proofs.Ytbleikbmnkjbeac.W
