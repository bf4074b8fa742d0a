/-
  What is hidden, hashed, sealed: plain mathematics. No program is named here.
-/
import Derived.Test.YtckgjghpfjinfakGreatEncF
import Derived.Test.YtckgjghpfjinfakGreatCtrF
import Derived.Test.YtckgjghpfjinfakGreatWhoF
import Derived.Test.YtckgjghpfjinfakGreatHshF
namespace Go.Proofs.YtckgjghpfjinfakGreat.M
open Go.RowKit

/-- What hides data: the byte at place i. -/
def pad (F : Nat → Nat) (b : List Nat) (i : Nat) : Nat := gt (enc F (cuN b (i / 16))) (i % 16)
/-- Data, hidden. -/
def strm (F : Nat → Nat) (b d : List Nat) : List Nat := (List.range d.length).map fun i => gt d i ^^^ pad F b i
theorem strm_len (F : Nat → Nat) (b d : List Nat) : (strm F b d).length = d.length := by simp [strm]
theorem strm_gt (F : Nat → Nat) (b d : List Nat) (i : Nat) (hi : i < d.length) : gt (strm F b d) i = gt d i ^^^ pad F b i := by
  rw [gt_eq _ _ (by rw [strm_len]; exact hi)]
  simp [strm]
theorem strm_byt (F : Nat → Nat) (hF : ∀ j, F j < 256) (b d : List Nat) (yb : Byt b) (yd : Byt d) : Byt (strm F b d) := by
  intro x hx
  obtain ⟨i, _, rfl⟩ := List.mem_map.1 hx
  exact xor_lt _ _ (gt_byt d yd i) (gt_byt _ (stt_byt F hF _ (cuN_byt b yb _) 10) _)
theorem strm_strm (F : Nat → Nat) (b d : List Nat) : strm F b (strm F b d) = d := by
  refine gt_ext (by rw [strm_len, strm_len]) fun i hi => ?_
  rw [strm_len, strm_len] at hi
  rw [strm_gt _ _ _ _ (by rw [strm_len]; exact hi), strm_gt _ _ _ _ hi, Nat.xor_assoc, Nat.xor_self, Nat.xor_zero]
theorem gt_take (l : List Nat) (n i : Nat) (h : i < n) : gt (l.take n) i = gt l i := by
  unfold gt
  rw [List.getD_eq_getElem?_getD, List.getD_eq_getElem?_getD, List.getElem?_take, if_pos h]
theorem strm_take (F : Nat → Nat) (b d : List Nat) (n : Nat) : strm F b (d.take n) = (strm F b d).take n := by
  refine gt_ext (by simp [strm_len]) fun i hi => ?_
  rw [strm_len, List.length_take] at hi
  rw [strm_gt _ _ _ _ (by rw [List.length_take]; exact hi), gt_take _ _ _ (by omega), gt_take _ _ _ (by omega), strm_gt _ _ _ _ (by omega)]
/-- The tag. -/
def tg (F : Nat → Nat) (n e c : List Nat) : List Nat := xl (enc F (jb n)) (hshB (enc F (zs 16)) (thash e c))
theorem tg_len (F : Nat → Nat) (n e c : List Nat) (hn : n.length = 12) : (tg F n e c).length = 16 := by rw [tg, xl_len]; exact stt_len F _ (jb_len n hn) 10
theorem tg_byt (F : Nat → Nat) (hF : ∀ j, F j < 256) (n e c : List Nat) (yn : Byt n) : Byt (tg F n e c) := xl_byt _ _ (stt_byt F hF _ (jb_byt n yn) 10) (hshB_byt _ _)
def hid1 (F : Nat → Nat) (n p : List Nat) : List Nat := strm F (cu (jb n)) p
/-- What is sealed. -/
def sld (F : Nat → Nat) (n e p : List Nat) : List Nat := hid1 F n p ++ tg F n e (hid1 F n p)
theorem sld_len (F : Nat → Nat) (n e p : List Nat) (hn : n.length = 12) : (sld F n e p).length = p.length + 16 := by rw [sld, List.length_append, tg_len _ _ _ _ hn, hid1, strm_len]
theorem sld_byt (F : Nat → Nat) (hF : ∀ j, F j < 256) (n e p : List Nat) (yn : Byt n) (yp : Byt p) : Byt (sld F n e p) :=
  app_byt (strm_byt F hF _ _ (cu_byt _ (jb_byt n yn)) yp) (tg_byt F hF n e _ yn)
/-- Whether what is sealed opens. -/
abbrev opens (F : Nat → Nat) (n e s : List Nat) : Prop := 16 ≤ s.length ∧ tg F n e (s.take (s.length - 16)) = s.drop (s.length - 16)
theorem sld_opens (F : Nat → Nat) (n e p : List Nat) (hn : n.length = 12) : opens F n e (sld F n e p) := by
  have h := sld_len F n e p hn
  have h2 : (hid1 F n p).length = p.length := strm_len _ _ _
  refine ⟨by omega, ?_⟩
  rw [h, show p.length + 16 - 16 = (hid1 F n p).length by omega]
  unfold sld
  rw [List.take_left, List.drop_left]
theorem sld_plain (F : Nat → Nat) (n e p : List Nat) (hn : n.length = 12) : hid1 F n ((sld F n e p).take ((sld F n e p).length - 16)) = p := by
  have h := sld_len F n e p hn
  have h2 : (hid1 F n p).length = p.length := strm_len _ _ _
  rw [h, show p.length + 16 - 16 = (hid1 F n p).length by omega]
  unfold sld
  rw [List.take_left]
  exact strm_strm _ _ _
theorem open_sld (F : Nat → Nat) (n e s : List Nat) (h : opens F n e s) : sld F n e (hid1 F n (s.take (s.length - 16))) = s := by
  unfold sld
  rw [show hid1 F n (hid1 F n (s.take (s.length - 16))) = s.take (s.length - 16) from strm_strm _ _ _, h.2, List.take_append_drop]
end Go.Proofs.YtckgjghpfjinfakGreat.M
