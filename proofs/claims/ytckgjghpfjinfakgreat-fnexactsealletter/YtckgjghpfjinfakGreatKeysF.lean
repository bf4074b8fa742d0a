/-
  The bytes of the words of a key as a function of their place: plain mathematics. No program is named here.
-/
import Derived.Test.YtckgjghpfjinfakGreatBox
import Derived.Test.YtckgjghpfjinfakGreatArr
namespace Go.Proofs.YtckgjghpfjinfakGreat.M
open Go.RowKit

/-- What is added to word n of the key to make word 4 + n (its byte k). -/
def tw (F : Nat → Nat) (n k : Nat) : Nat := if n % 4 = 0 then sbx (F (12 + 4 * n + (k + 1) % 4)) ^^^ (if k = 0 then xtN 1 (n / 4) else 0) else F (12 + 4 * n + k)
def ks (key : List Nat) : Nat → List Nat
  | 0 => key
  | n + 1 => ks key n ++ (List.range 4).map fun k => gt (ks key n) (4 * n + k) ^^^ tw (gt (ks key n)) n k
theorem ks_len (key : List Nat) (hk : key.length = 16) : ∀ n, (ks key n).length = 16 + 4 * n
  | 0 => hk
  | n + 1 => by rw [ks, List.length_append, ks_len key hk n, List.length_map, List.length_range]; omega
theorem gt_append (l m : List Nat) (j : Nat) (h : j < l.length) : gt (l ++ m) j = gt l j := by
  unfold gt
  rw [List.getD_eq_getElem?_getD, List.getD_eq_getElem?_getD, List.getElem?_append_left h]
theorem gt_append2 (l m : List Nat) (j : Nat) : gt (l ++ m) (l.length + j) = gt m j := by
  unfold gt
  rw [List.getD_eq_getElem?_getD, List.getD_eq_getElem?_getD, List.getElem?_append_right (by omega), show l.length + j - l.length = j by omega]
theorem ks_pre (key : List Nat) (hk : key.length = 16) (n j : Nat) (hj : j < 16 + 4 * n) : ∀ d, gt (ks key (n + d)) j = gt (ks key n) j
  | 0 => rfl
  | d + 1 => by
    rw [show n + (d + 1) = n + d + 1 by omega, ks, gt_append _ _ _ (by rw [ks_len key hk]; omega)]
    exact ks_pre key hk n j hj d
/-- Byte j of the words of a key. -/
def kf (key : List Nat) (j : Nat) : Nat := gt (ks key 40) j
theorem kf_at (key : List Nat) (hk : key.length = 16) (n j : Nat) (hn : n ≤ 40) (hj : j < 16 + 4 * n) : kf key j = gt (ks key n) j := by
  have h := ks_pre key hk n j hj (40 - n)
  rw [show n + (40 - n) = 40 by omega] at h
  exact h
theorem kf_low (key : List Nat) (hk : key.length = 16) (j : Nat) (hj : j < 16) : kf key j = gt key j := kf_at key hk 0 j (by omega) (by omega)
theorem tw_congr (F G : Nat → Nat) (n k : Nat) (h : ∀ j, j < 16 + 4 * n → F j = G j) (hk : k < 4) : tw F n k = tw G n k := by
  unfold tw
  split
  · rw [h _ (by omega)]
  · rw [h _ (by omega)]
theorem kf_step (key : List Nat) (hk : key.length = 16) (n k : Nat) (hn : n < 40) (h4 : k < 4) : kf key (16 + 4 * n + k) = kf key (4 * n + k) ^^^ tw (kf key) n k := by
  have e : ∀ j, j < 16 + 4 * n → kf key j = gt (ks key n) j := fun j hj => kf_at key hk n j (by omega) hj
  rw [kf_at key hk (n + 1) _ (by omega) (by omega), e (4 * n + k) (by omega), tw_congr (kf key) (gt (ks key n)) n k e h4, ks]
  have l := ks_len key hk n
  rw [← l, gt_append2]
  rw [gt_eq _ k (by simp; exact h4)]
  simp
theorem tw_lt (F : Nat → Nat) (h : ∀ j, F j < 256) (n k : Nat) : tw F n k < 256 := by
  unfold tw
  split
  · refine Nat.xor_lt_two_pow (n := 8) (sbx_lt _ (h _)) ?_
    split
    · exact xtN_lt 1 (by omega) _
    · omega
  · exact h _
theorem ks_byt (key : List Nat) (h : Byt key) : ∀ n, Byt (ks key n)
  | 0 => h
  | n + 1 => by
    intro x hx
    rw [ks] at hx
    have g := gt_byt _ (ks_byt key h n)
    rcases List.mem_append.1 hx with hx | hx
    · exact ks_byt key h n x hx
    · obtain ⟨k, _, rfl⟩ := List.mem_map.1 hx
      exact xor_lt _ _ (g _) (tw_lt _ g n k)
theorem kf_lt (key : List Nat) (h : Byt key) (j : Nat) : kf key j < 256 := gt_byt _ (ks_byt key h 40) j
/-- A row of N bytes of which the first m are told by F. -/
def rowTo (N : Nat) (F : Nat → Nat) (m : Nat) : List Nat := (List.range N).map fun j => if j < m then F j else 0
theorem rowTo_len (N : Nat) (F : Nat → Nat) (m : Nat) : (rowTo N F m).length = N := by simp [rowTo]
theorem rowTo_get (N : Nat) (F : Nat → Nat) (m j : Nat) (hj : j < N) : (rowTo N F m)[j]? = some (if j < m then F j else 0) := by simp [rowTo, hj]
theorem rowTo_gt (N : Nat) (F : Nat → Nat) (m j : Nat) (hj : j < m) (hm : m ≤ N) : gt (rowTo N F m) j = F j := by
  rw [gt_some _ _ _ (rowTo_get N F m j (by omega)), if_pos hj]
theorem rowTo_set (N : Nat) (F : Nat → Nat) (m : Nat) (hm : m < N) : (rowTo N F m).set m (F m) = rowTo N F (m + 1) := by
  apply List.ext_getElem?
  intro i
  rw [List.getElem?_set, rowTo_len]
  by_cases hi : i < N
  · rw [rowTo_get N F m i hi, rowTo_get N F (m + 1) i hi]
    by_cases e : m = i
    · subst e; rw [if_pos rfl, if_pos hm, if_pos (by omega)]
    · rw [if_neg e]
      by_cases l : i < m
      · rw [if_pos l, if_pos (by omega)]
      · rw [if_neg l, if_neg (by omega)]
  · rw [List.getElem?_eq_none (by rw [rowTo_len]; omega), List.getElem?_eq_none (by rw [rowTo_len]; omega), if_neg (by omega)]
theorem rowTo_zero (N : Nat) (F : Nat → Nat) : rowTo N F 0 = zs N := by
  apply List.ext_getElem?
  intro i
  by_cases hi : i < N
  · rw [rowTo_get N F 0 i hi, zs, List.getElem?_replicate, if_neg (by omega), if_pos hi]
  · rw [List.getElem?_eq_none (by rw [rowTo_len]; omega), List.getElem?_eq_none (by rw [zs_len]; omega)]
/-- A row of which the first bytes are a list. -/
theorem rowTo_front (N : Nat) (F : Nat → Nat) (l : List Nat) (hl : l.length ≤ N) (h : ∀ j, j < l.length → F j = gt l j) : rowTo N F l.length = l ++ List.replicate (N - l.length) 0 := by
  apply List.ext_getElem?
  intro i
  by_cases hi : i < N
  · rw [rowTo_get N F _ i hi]
    by_cases l1 : i < l.length
    · rw [if_pos l1, List.getElem?_append_left l1, h i l1, gt_eq l i l1, List.getElem?_eq_getElem l1]
    · rw [if_neg l1, List.getElem?_append_right (by omega), List.getElem?_replicate, if_pos (by omega)]
  · rw [List.getElem?_eq_none (by rw [rowTo_len]; omega), List.getElem?_eq_none (by simp; omega)]
/-- The word that is added, as a list. -/
def twl (F : Nat → Nat) (n : Nat) : List Nat := (List.range 4).map (tw F n)
theorem twl_len (F : Nat → Nat) (n : Nat) : (twl F n).length = 4 := by simp [twl]
theorem twl_gt (F : Nat → Nat) (n k : Nat) (h : k < 4) : gt (twl F n) k = tw F n k := by
  rw [gt_eq _ k (by rw [twl_len]; exact h)]
  simp [twl]
theorem twl_yes (F : Nat → Nat) (n p p1 p2 p3 : Nat) (h : n % 4 = 0) (hp : p = 12 + 4 * n) (h1 : p1 = p + 1) (h2 : p2 = p + 2) (h3 : p3 = p + 3) :
    twl F n = [sbx (F p1) ^^^ xtN 1 ((n + 3) / 4), sbx (F p2), sbx (F p3), sbx (F p)] := by
  have e : (n + 3) / 4 = n / 4 := by omega
  subst hp
  subst h1
  subst h2
  subst h3
  rw [e]
  simp [twl, tw, h, List.range_succ, Nat.add_assoc]
theorem twl_no (F : Nat → Nat) (n p p1 p2 p3 : Nat) (h : ¬ n % 4 = 0) (hp : p = 12 + 4 * n) (h1 : p1 = p + 1) (h2 : p2 = p + 2) (h3 : p3 = p + 3) :
    twl F n = [F p, F p1, F p2, F p3] := by
  subst hp
  subst h1
  subst h2
  subst h3
  simp [twl, tw, h, List.range_succ]
theorem list4 (l : List Nat) (h : l.length = 4) : ∃ a b c d, l = [a, b, c, d] := by
  match l, h with
  | [a, b, c, d], _ => exact ⟨a, b, c, d, rfl⟩
/-- Four bytes stored, one behind the other, into a row that grows. -/
theorem Ar.set4 {w : World} {g N m : Nat} {T : TypeId} {F : Nat → Nat} (h : Ar w g T (rowTo N F m)) (hm : m + 4 ≤ N) (l : List Nat) (hl : l.length = 4) (hF : ∀ k, k < 4 → gt l k = F (m + k)) : Ar (w.setCells g m (l.map bv)) g T (rowTo N F (m + 4)) := by
  obtain ⟨a, b, c, d, rfl⟩ := list4 l hl
  have e0 : a = F m := hF 0 (by omega)
  have e1 : b = F (m + 1) := hF 1 (by omega)
  have e2 : c = F (m + 2) := hF 2 (by omega)
  have e3 : d = F (m + 3) := hF 3 (by omega)
  have h0 := h.stored m (F m)
  rw [rowTo_set N F m (by omega)] at h0
  have h1 := h0.stored (m + 1) (F (m + 1))
  rw [rowTo_set N F (m + 1) (by omega)] at h1
  have h2 := h1.stored (m + 2) (F (m + 2))
  rw [rowTo_set N F (m + 2) (by omega)] at h2
  have h3 := h2.stored (m + 3) (F (m + 3))
  rw [rowTo_set N F (m + 3) (by omega)] at h3
  rw [e0, e1, e2, e3]
  exact h3
theorem below_set4 {B g m : Nat} {w w' : World} (hB : Below B w w') (hg : B ≤ g) (l : List Nat) (hl : l.length = 4) : Below B w (w'.setCells g m (l.map bv)) := by
  obtain ⟨a, b, c, d, rfl⟩ := list4 l hl
  exact (((hB.setCell (p := ⟨g, m, none⟩) hg _).setCell (p := ⟨g, m + 1, none⟩) hg _).setCell (p := ⟨g, m + 1 + 1, none⟩) hg _).setCell (p := ⟨g, m + 1 + 1 + 1, none⟩) hg _
theorem Ar.far4 {w : World} {g g' m : Nat} {T : TypeId} {l : List Nat} (h : Ar w g T l) (hne : g ≠ g') (l' : List Nat) (hl : l'.length = 4) : Ar (w.setCells g' m (l'.map bv)) g T l := by
  obtain ⟨a, b, c, d, rfl⟩ := list4 l' hl
  exact (((h.far _ hne).far _ hne).far _ hne).far _ hne
theorem Ar.there {w : World} {g : Nat} {T : TypeId} {l : List Nat} (h : Ar w g T l) (o n : Nat) (hn : o + n ≤ l.length) : w.there g o n := fun j hj => ⟨by rw [h.cell (o + j) (by omega)]; rfl, h.open (o + j)⟩
theorem Ar.range4 {w : World} {g p : Nat} {T : TypeId} {l : List Nat} (h : Ar w g T l) (a b c d : Nat) (hp : p + 4 ≤ l.length) (e0 : gt l p = a) (e1 : gt l (p + 1) = b) (e2 : gt l (p + 2) = c) (e3 : gt l (p + 3) = d) : w.rangeAt g p ([a, b, c, d].map bv) := fun j v hv => by
  match j, hv with
  | 0, hv => cases hv; rw [← e0]; exact h.cell p (by omega)
  | 1, hv => cases hv; rw [← e1]; exact h.cell (p + 1) (by omega)
  | 2, hv => cases hv; rw [← e2]; exact h.cell (p + 2) (by omega)
  | 3, hv => cases hv; rw [← e3]; exact h.cell (p + 3) (by omega)
  | n + 4, hv => simp at hv
end Go.Proofs.YtckgjghpfjinfakGreat.M
