/-
  What the law of the group asks of its products: one, and sums.
-/
import Derived.Test.YtcmafbgfdddnnaaHshF
namespace Go.Proofs.Ytcmafbgfdddnnaa.W
open Go.Proofs.Ytcmafbgfdddnnaa.M

def oneB : List Nat := [128, 0, 0, 0, 0, 0, 0, 0, 0, 0, 0, 0, 0, 0, 0, 0]
theorem elt_one : elt oneB = ge := by decide +kernel
theorem gtm_one (a : List Nat) (y : Byt a) (ha : a.length = 16) : gtm a oneB = a := by
  rw [gtm, elt_one, show gmul (elt a) ge = elt a from gs_ge _ (elt_64 a y), eb_elt a y ha]
theorem gtm_xl (a b c : List Nat) (yb : Byt b) (yc : Byt c) (hb : b.length = 16) (hc : c.length = 16) : gtm a (xl b c) = xl (gtm a b) (gtm a c) := by
  rw [gtm, elt_xl b c yb yc hb hc, gmul_ga, eb_ga _ _ (gmul_64 _ (elt_64 b yb)) (gmul_64 _ (elt_64 c yc))]
  rfl
end Go.Proofs.Ytcmafbgfdddnnaa.W
