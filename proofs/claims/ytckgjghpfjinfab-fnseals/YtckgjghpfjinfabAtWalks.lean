/-
  The laws' own draws: a number below n out of the code.
-/
import Derived.Test.YtckgjghpfjinfabSrc
namespace Go.Proofs.Ytckgjghpfjinfab.W
open Go.ChangeShapes Go.WideShapes Go.ChangeAt Go.RowKit
open Go.Proofs.Ytckgjghpfjinfab.M

set_option maxRecDepth 100000 in
theorem lwat (v : Value) (l : List Nat) (w : World) (t : Nat) (n : Int) (h : Rd w v l) (y : Byt l) (ht : t ≤ 1000) (h1' : 1 < n) (hn : n ≤ 60000) (hl : l.length ≤ 1048576) :
    Calls Try.prog 16 #[v, .int .i64 (t : Int), .int .i64 n] w fun e w' => ∃ r : Int, e = .returned (.int .i64 r) ∧ (0 ≤ r ∧ r < n) ∧ ∃ m, w' = w.drewN m := by
  obtain ⟨a, cap, rfl, _, _, hcs⟩ := h.parts
  by_cases h2 : l.length = 0
  · have hk : ((l.length : Int) == 0) = true := beq_iff_eq.2 (by omega)
    clear hcs h
    go_enter Try.func16, Try.ntmps16
    go_wp2
    go_ret
    exact ⟨_, rfl, ⟨Int.emod_nonneg _ (by omega), Int.emod_lt_of_pos _ (by omega)⟩, 0, rfl⟩
  · have hk : ((l.length : Int) == 0) = false := beq_eq_false_iff_ne.2 (by omega)
    obtain ⟨b, o, rfl, _⟩ := hcs 0 (by omega)
    have hcell : ∀ i (hi : i < l.length), w.cell? ⟨b, o + i, none⟩ = some (.int .u8 (l[i] : Nat)) := fun i hi => by
      obtain ⟨b', o', e, hc⟩ := hcs i hi
      cases e
      exact hc
    obtain ⟨m1, m2, m3, m4⟩ := mod_facts t l.length (by omega)
    have hx0 := hcell (t % l.length) (Nat.mod_lt _ (by omega))
    have y0 := y.at (t % l.length) (Nat.mod_lt _ (by omega))
    generalize l[t % l.length]'(Nat.mod_lt _ (by omega)) = x0 at hx0 y0
    by_cases h3 : n ≤ 200
    · clear hcs h hcell
      go_enter Try.func16, Try.ntmps16
      go_wp2
      go_quiet (fail)
      go_wp2
      go_ret
      exact ⟨_, rfl, ⟨Int.emod_nonneg _ (by omega), Int.emod_lt_of_pos _ (by omega)⟩, _, rfl⟩
    · obtain ⟨p1, p2, -, -⟩ := mod_facts (t + 1) l.length (by omega)
      rw [show ((t + 1 : Nat) : Int) = (t : Int) + 1 by omega] at p1 p2
      have hx1 := hcell ((t + 1) % l.length) (Nat.mod_lt _ (by omega))
      have y1 := y.at ((t + 1) % l.length) (Nat.mod_lt _ (by omega))
      generalize l[(t + 1) % l.length]'(Nat.mod_lt _ (by omega)) = x1 at hx1 y1
      have a1 : (((t : Int) + 1) % (l.length : Int)).toNat = (t + 1) % l.length := by
        rw [show (t : Int) + 1 = ((t + 1 : Nat) : Int) by omega, ← Int.natCast_emod, Int.toNat_natCast]
      have h3' : 200 < n := by omega
      clear hcs h hcell h3
      go_enter Try.func16, Try.ntmps16
      go_wp2
      go_quiet (fail)
      go_wp2
      go_ret
      exact ⟨_, rfl, ⟨Int.emod_nonneg _ (by omega), Int.emod_lt_of_pos _ (by omega)⟩, _, rfl⟩
end Go.Proofs.Ytckgjghpfjinfab.W
