/-
  Waits that are parted: which go on, which are over. Lists alone.
-/
import Derived.Test.YtalaolfcdaaaoaaWtVs
namespace Go.Proofs.Ytalaolfcdaaaoaa.W
open Go.Proofs.Ytalaolfcdaaaoaa.M

/-- Those that go on, and those that are over; f tells what is left of a wait, and if it is over. -/
def ptL (f : Wai → Wai × Bool) (cs : List Wai) : List Wai := (cs.filter fun x => !(f x).2).map fun x => (f x).1
def ptE (f : Wai → Wai × Bool) (cs : List Wai) : List Wai := (cs.filter fun x => (f x).2).map fun x => (f x).1
theorem ptL_stay {f : Wai → Wai × Bool} {cs : List Wai} {k : Nat} (hk : k < cs.length) (h : (f cs[k]).2 = false) : ptL f (cs.take (k + 1)) = ptL f (cs.take k) ++ [(f cs[k]).1] := by
  unfold ptL
  rw [List.take_succ_eq_append_getElem hk, List.filter_append, List.map_append]
  simp [h]
theorem ptL_over {f : Wai → Wai × Bool} {cs : List Wai} {k : Nat} (hk : k < cs.length) (h : (f cs[k]).2 = true) : ptL f (cs.take (k + 1)) = ptL f (cs.take k) := by
  unfold ptL
  rw [List.take_succ_eq_append_getElem hk, List.filter_append, List.map_append]
  simp [h]
theorem ptE_stay {f : Wai → Wai × Bool} {cs : List Wai} {k : Nat} (hk : k < cs.length) (h : (f cs[k]).2 = false) : ptE f (cs.take (k + 1)) = ptE f (cs.take k) := by
  unfold ptE
  rw [List.take_succ_eq_append_getElem hk, List.filter_append, List.map_append]
  simp [h]
theorem ptE_over {f : Wai → Wai × Bool} {cs : List Wai} {k : Nat} (hk : k < cs.length) (h : (f cs[k]).2 = true) : ptE f (cs.take (k + 1)) = ptE f (cs.take k) ++ [(f cs[k]).1] := by
  unfold ptE
  rw [List.take_succ_eq_append_getElem hk, List.filter_append, List.map_append]
  simp [h]
theorem ptL_len (f : Wai → Wai × Bool) (cs : List Wai) : (ptL f cs).length ≤ cs.length := by
  unfold ptL
  rw [List.length_map]
  exact List.length_filter_le _ _
theorem ptE_len (f : Wai → Wai × Bool) (cs : List Wai) : (ptE f cs).length ≤ cs.length := by
  unfold ptE
  rw [List.length_map]
  exact List.length_filter_le _ _
theorem pt_len (f : Wai → Wai × Bool) : ∀ cs : List Wai, (ptL f cs).length + (ptE f cs).length = cs.length
  | [] => rfl
  | x :: r => by
    have := pt_len f r
    unfold ptL ptE at *
    cases h : (f x).2 <;> simp [h] at * <;> omega
theorem ptL_tl (f : Wai → Wai × Bool) (cs : List Wai) (k : Nat) : (ptL f (cs.take k)).length ≤ cs.length := Nat.le_trans (ptL_len f _) (by simp; omega)
theorem ptE_tl (f : Wai → Wai × Bool) (cs : List Wai) (k : Nat) : (ptE f (cs.take k)).length ≤ cs.length := Nat.le_trans (ptE_len f _) (by simp; omega)
/-- A tick more. -/
def fAge (x : Wai) : Wai × Bool := (⟨x.a, x.b, x.c, x.d, x.e - 1, x.f, x.g⟩, x.e - 1 == 0)
/-- An answer came. -/
def fClr (s : Int) (x : Wai) : Wai × Bool := (x, x.b == s && x.a != 3)
theorem wt1_e {x : Wai} (h : wt1 x = 0) : 1 ≤ x.e ∧ x.e ≤ 9 := by
  unfold wt1 at h
  by_cases h1 : wtfB x = true
  · by_cases h2 : wtbB x = true
    · simp only [wtbB, Bool.and_eq_true, inB, decide_eq_true_eq] at h2
      exact h2.2.2.2.1
    · rw [if_pos h1, if_neg h2] at h
      exact absurd h (by decide)
  · rw [if_neg h1] at h
    exact absurd h (by decide)
theorem wtF_len {cs : List Wai} (h : wtF cs = 0) : cs.length ≤ 40 := by
  unfold wtF at h
  by_cases q : 40 < cs.length
  · rw [if_pos q] at h; exact absurd h (by decide)
  · omega
theorem wtF_get {cs : List Wai} (h : wtF cs = 0) (k : Nat) (hk : k < cs.length) : wt1 cs[k] = 0 := by
  have hl := wtF_len h
  unfold wtF at h
  rw [if_neg (by omega)] at h
  exact wtG_all cs h _ (List.getElem_mem _)
/-- What AgeWaits and ClearWaits answer. -/
def agC (cs : List Wai) : Int := wtF cs
def agL (cs : List Wai) : List Wai := if wtF cs = 0 then ptL fAge cs else []
def agE (cs : List Wai) : List Wai := if wtF cs = 0 then ptE fAge cs else []
def crC (cs : List Wai) (s : Int) : Int := if wtF cs = 0 then (if inB s 0 1000000 = true then 0 else 3) else wtF cs
def crL (cs : List Wai) (s : Int) : List Wai := if crC cs s = 0 then ptL (fClr s) cs else []
def crE (cs : List Wai) (s : Int) : List Wai := if crC cs s = 0 then ptE (fClr s) cs else []
theorem agL_small (cs : List Wai) : (agL cs).length ≤ 1048576 := by
  unfold agL
  by_cases h : wtF cs = 0
  · rw [if_pos h]; have := wtF_len h; have := ptL_len fAge cs; omega
  · rw [if_neg h]; simp
theorem agE_small (cs : List Wai) : (agE cs).length ≤ 1048576 := by
  unfold agE
  by_cases h : wtF cs = 0
  · rw [if_pos h]; have := wtF_len h; have := ptE_len fAge cs; omega
  · rw [if_neg h]; simp
theorem crC_len {cs : List Wai} {s : Int} (h : crC cs s = 0) : cs.length ≤ 40 := by
  unfold crC at h
  by_cases q : wtF cs = 0
  · exact wtF_len q
  · rw [if_neg q] at h; exact absurd h q
theorem crL_small (cs : List Wai) (s : Int) : (crL cs s).length ≤ 1048576 := by
  unfold crL
  by_cases h : crC cs s = 0
  · rw [if_pos h]; have := crC_len h; have := ptL_len (fClr s) cs; omega
  · rw [if_neg h]; simp
theorem crE_small (cs : List Wai) (s : Int) : (crE cs s).length ≤ 1048576 := by
  unfold crE
  by_cases h : crC cs s = 0
  · rw [if_pos h]; have := crC_len h; have := ptE_len (fClr s) cs; omega
  · rw [if_neg h]; simp
end Go.Proofs.Ytalaolfcdaaaoaa.W
