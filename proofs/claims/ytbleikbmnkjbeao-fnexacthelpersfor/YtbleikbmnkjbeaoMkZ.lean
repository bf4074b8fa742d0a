/-
  The marks that the laws lay in numbers, and how they hold them.
-/
import Derived.Test.YtbleikbmnkjbeaoSlZQ
namespace Go.Proofs.Ytbleikbmnkjbeao.W
open Go.ChangeShapes Go.WideShapes Go.ChangeAt Go.RowKit
open Go.Proofs.Ytbleikbmnkjbeao.M

set_option maxRecDepth 100000 in
theorem markZx (v : Value) (l : List Int) (k base : Nat) (w : World) (h : OwZ w base v l) (hl : l.length ≤ 1048576) (hk : k ≤ 16777216) :
    Calls Try.prog 50 #[v, .int .i64 (k : Int)] w fun e w' => e = .returned (.int .i64 ((k + l.length : Nat) : Int)) ∧ OwZ w' base v (marksZ k l.length) ∧ w.grownBy w' v.ownBlock := by
  rcases h.2 with ⟨rfl, h0⟩ | ⟨g, cap, cur, rfl, -, -, -, -, -, -⟩
  · obtain rfl := List.eq_nil_of_length_eq_zero h0
    go_enter Try.func50, Try.ntmps50
    go_wp2
    refine wp_loop_rounds 1 ?_
    rw [rounds_succ]
    go_wp2
    go_ret
    exact ⟨rfl, h, World.grownBy.refl _ _⟩
  · rw [show (Value.slice (some ⟨g, 0, none⟩) l.length cap).ownBlock = some g from rfl]
    go_enter Try.func50, Try.ntmps50
    go_wp2
    go_loopw [1, 5] (fun kk i wr => ∃ j : Nat, j ≤ l.length ∧ i = .int .i64 j ∧ kk = .int .i64 (k + j : Nat) ∧ OwZ wr base (.slice (some ⟨g, 0, none⟩) l.length cap) (markedZ l k j) ∧ w.grownBy wr (some g)) (fun _ i _ => l.length - (intOf i).toNat)
    case atStart => exact ⟨0, by omega, rfl, rfl, by rw [markedZ_zero]; exact h, World.grownBy.refl _ _⟩
    case round =>
      obtain ⟨j, hj, rfl, rfl, hown, hg⟩ := hrel
      by_cases hlt : j < l.length
      · have hl1 := markedZ_len l k j hj
        have hc2 : ∃ u, wr.cell? ⟨g, j, none⟩ = some u := ⟨_, hown.cell hl1 j (by omega)⟩
        obtain ⟨u, hc2⟩ := hc2
        have hf2 := hown.open hl1 j
        have hs := hown.stored hl1 j ((k + j : Nat) : Int)
        rw [markedZ_set l k j hlt] at hs
        have e : ((k + j : Nat) : Int) = (k : Int) + j := by omega
        rw [e] at hs
        have hs2 := grown_trans hg hs.2
        clear hown hg e h
        go_wp2
        go_roundw
        case rel => exact ⟨j + 1, by omega, by go_num, by go_num, hs.1, hs2⟩
        case measure => simp [intOf]; omega
      · have hk8 : j = l.length := by omega
        subst hk8
        rw [markedZ_end] at hown
        go_wp2
        go_ret
        exact ⟨rfl, hown, hg⟩

/-- The same over what lies between two block numbers. -/
theorem markOZ (v : Value) (l : List Int) (k lo hi : Nat) (w : World) (h : OZ w lo hi v l) (hl : l.length ≤ 1048576) (hk : k ≤ 16777216) :
    Calls Try.prog 50 #[v, .int .i64 (k : Int)] w fun e w' => e = .returned (.int .i64 ((k + l.length : Nat) : Int)) ∧ OZ w' lo hi v (marksZ k l.length) ∧ Ins lo hi w w' :=
  (markZx v l k lo w h.1 hl hk).mono fun _ _ ⟨he, hO, hG⟩ => ⟨he, ⟨hO, h.2⟩, Ins.of_grown hG fun _ e => h.blk e⟩
theorem markOZz (v : Value) (l : List Int) (k : Nat) (z : Int) (hz : z = (k : Int)) (lo hi : Nat) (w : World) (h : OZ w lo hi v l) (hl : l.length ≤ 1048576) (hk : k ≤ 16777216) :
    Calls Try.prog 50 #[v, .int .i64 z] w fun e w' => e = .returned (.int .i64 ((k + l.length : Nat) : Int)) ∧ OZ w' lo hi v (marksZ k l.length) ∧ Ins lo hi w w' := by
  subst hz
  exact markOZ v l k lo hi w h hl hk
set_option maxRecDepth 100000 in
theorem heldZ (v : Value) (n k : Nat) (w : World) (h : RdZ w v (marksZ k n)) (hl : n ≤ 1048576) (hk : k ≤ 16777216) :
    Calls Try.prog 51 #[v, .int .i64 (k : Int)] w fun e w' => e = .returned (.int .i64 ((k + n : Nat) : Int)) ∧ w' = w := by
  obtain ⟨a, cap, rfl, _, _, hcs⟩ := h.parts
  rw [marksZ_len] at *
  clear h
  go_enter Try.func51, Try.ntmps51
  go_wp2
  go_loop [1, 5] (fun kk i => ∃ j : Nat, j ≤ n ∧ i = .int .i64 j ∧ kk = .int .i64 (k + j : Nat)) (fun _ i => n - (intOf i).toNat)
  case atStart => exact ⟨0, by omega, rfl, rfl⟩
  case round =>
    obtain ⟨j, hj, rfl, rfl⟩ := hrel
    by_cases hlt : j < n
    · obtain ⟨b, o, rfl, hc⟩ := hcs j (by rw [marksZ_len]; exact hlt)
      clear hcs
      rw [marksZ_at] at hc
      have e : ((k + j : Nat) : Int) = (k : Int) + j := by omega
      rw [e] at hc
      clear e
      go_wp2
      go_round
      case rel => exact ⟨j + 1, by omega, by go_num, by go_num⟩
      case measure => simp [intOf]; omega
    · have hk8 : j = n := by omega
      subst hk8
      go_wp2
      go_ret
      exact ⟨rfl, rfl⟩
end Go.Proofs.Ytbleikbmnkjbeao.W
