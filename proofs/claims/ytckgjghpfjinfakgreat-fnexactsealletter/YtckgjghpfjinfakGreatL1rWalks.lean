/-
  Numbers out of bytes: the model's l1Read.
-/
import Derived.Test.YtckgjghpfjinfakGreatBase
import Derived.Test.YtckgjghpfjinfakGreatRead
namespace Go.Proofs.YtckgjghpfjinfakGreat.W
open Go.ChangeShapes Go.WideShapes Go.ChangeAt Go.RowKit
open Go.Proofs.YtckgjghpfjinfakGreat.M

set_option maxRecDepth 100000 in
theorem l1read (v : Value) (l : List Nat) (a s : Nat) (w : World) (h : Rd w v l) (y : Byt l) (hs : s ≤ 8) (ha : a + s ≤ l.length) (hf : ¬ (s = 8 ∧ 127 < l.getD a 0)) (hm : l.length ≤ 1048576) :
    Calls Tryz.prog 69 #[v, .int .i64 (a : Int), .int .i64 (s : Int)] w fun e w' => e = .returned (.int .i64 (vt l a s : Nat)) ∧ w' = w := by
  obtain ⟨p, cap, rfl, _, _, hcs⟩ := h.parts
  have HC := hid hcs
  have HF := hid hf
  clear h hcs hf
  go_enter Tryz.func69, Tryz.ntmps69
  go_wp2
  go_loop [7, 8] (fun n i => ∃ k : Nat, k ≤ s ∧ i = .int .i64 k ∧ n = .int .i64 (vt l a k : Nat)) (fun _ i => s - (intOf i).toNat)
  case atStart => exact ⟨0, by omega, rfl, rfl⟩
  case round =>
    obtain ⟨k, hk, rfl, rfl⟩ := hrel
    by_cases hlt : k < s
    · obtain ⟨b, o, rfl, hc⟩ := HC.out (a + k) (by omega)
      have E1 := hid (show vt l a (k + 1) = vt l a k * 256 + l[a + k]'(by omega) by rw [vt, getD_at])
      have b1 : vt l a (k + 1) < 9223372036854775808 := vt_fits l y a (k + 1) (by omega) (fun q => HF.out ⟨by omega, q.2⟩)
      rw [E1.out] at b1
      have b2 := y.at (a + k) (by omega)
      unfold bv at hc
      generalize l[a + k] = x at *
      generalize vt l a k = n at *
      clear HC
      go_wp2
      exact ⟨⟨k + 1, by omega, by go_num, by rw [E1.out]; go_num⟩, by simp [intOf]; omega⟩
    · have hk8 : k = s := by omega
      subst hk8
      go_wp2
      go_ret
      exact ⟨rfl, rfl⟩
end Go.Proofs.YtckgjghpfjinfakGreat.W
