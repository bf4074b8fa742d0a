/-
  The marks that the laws lay in bytes, over slices that are a call's own whatever their block's type.
-/
import Derived.Test.YtifgcffifffdnamSlB
import Derived.Test.YtifgcffifffdnamIv
namespace Go.Proofs.Ytifgcffifffdnam.W
open Go.ChangeShapes Go.WideShapes Go.ChangeAt Go.RowKit
open Go.Proofs.Ytifgcffifffdnam.M

set_option maxRecDepth 100000 in
theorem markBx (v : Value) (l : List Nat) (k base : Nat) (w : World) (h : Owx w base v l) (hl : l.length ≤ 1048576) (hk : k ≤ 16777216) :
    Calls Try.prog 33 #[v, .int .i64 (k : Int)] w fun e w' => e = .returned (.int .i64 ((k + l.length : Nat) : Int)) ∧ Owx w' base v (marks k l.length) ∧ w.grownBy w' v.ownBlock := by
  obtain ⟨T, hT⟩ := h
  have h : Owx w base v l := ⟨T, hT⟩
  rcases hT.2 with ⟨rfl, h0⟩ | ⟨g, cap, cur, rfl, -, -, -, -, -, -⟩
  · obtain rfl := List.eq_nil_of_length_eq_zero h0
    go_enter Try.func33, Try.ntmps33
    go_wp2
    refine wp_loop_rounds 1 ?_
    rw [rounds_succ]
    go_wp2
    go_ret
    exact ⟨rfl, h, World.grownBy.refl _ _⟩
  · rw [show (Value.slice (some ⟨g, 0, none⟩) l.length cap).ownBlock = some g from rfl]
    go_enter Try.func33, Try.ntmps33
    go_wp2
    go_loopw [1, 5] (fun kk i wr => ∃ j : Nat, j ≤ l.length ∧ i = .int .i64 j ∧ kk = .int .i64 (k + j : Nat) ∧ Owx wr base (.slice (some ⟨g, 0, none⟩) l.length cap) (marked l k j) ∧ w.grownBy wr (some g)) (fun _ i _ => l.length - (intOf i).toNat)
    case atStart => exact ⟨0, by omega, rfl, rfl, by rw [marked_zero]; exact h, World.grownBy.refl _ _⟩
    case round =>
      obtain ⟨j, hj, rfl, rfl, hown, hg⟩ := hrel
      by_cases hlt : j < l.length
      · have hl1 := marked_len l k j hj
        have hc2 : ∃ u, wr.cell? ⟨g, j, none⟩ = some u := ⟨_, hown.cell hl1 j (by omega)⟩
        obtain ⟨u, hc2⟩ := hc2
        have hf2 := hown.open hl1 j
        have hs := hown.stored hl1 j ((k + j) % 256)
        rw [marked_set l k j hlt] at hs
        unfold bv at hs
        have e : (((k + j) % 256 : Nat) : Int) = ((k : Int) + j) % 256 := by omega
        rw [e] at hs
        have hs2 := grown_trans hg hs.2
        clear hown hg e h hT
        go_wp2
        go_roundw
        case rel => exact ⟨j + 1, by omega, by go_num, by go_num, hs.1, hs2⟩
        case measure => simp [intOf]; omega
      · have hk8 : j = l.length := by omega
        subst hk8
        rw [marked_end] at hown
        go_wp2
        go_ret
        exact ⟨rfl, hown, hg⟩

theorem markB1x (v : Value) (l : List Nat) (base : Nat) (w : World) (h : Owx w base v l) (hl : l.length ≤ 1048576) :
    Calls Try.prog 33 #[v, .int .i64 1] w fun e w' => e = .returned (.int .i64 ((1 + l.length : Nat) : Int)) ∧ Owx w' base v (marks 1 l.length) ∧ w.grownBy w' v.ownBlock := by
  have h := markBx v l 1 base w h hl (by omega)
  rw [one_cast] at h
  exact h

/-- The same over what lies between two block numbers. -/
theorem markO (v : Value) (l : List Nat) (k lo hi : Nat) (w : World) (h : OB w lo hi v l) (hl : l.length ≤ 1048576) (hk : k ≤ 16777216) :
    Calls Try.prog 33 #[v, .int .i64 (k : Int)] w fun e w' => e = .returned (.int .i64 ((k + l.length : Nat) : Int)) ∧ OB w' lo hi v (marks k l.length) ∧ Ins lo hi w w' :=
  (markBx v l k lo w h.1 hl hk).mono fun _ _ ⟨he, hO, hG⟩ => ⟨he, ⟨hO, h.2⟩, Ins.of_grown hG fun _ e => h.blk e⟩
theorem markOz (v : Value) (l : List Nat) (k : Nat) (z : Int) (hz : z = (k : Int)) (lo hi : Nat) (w : World) (h : OB w lo hi v l) (hl : l.length ≤ 1048576) (hk : k ≤ 16777216) :
    Calls Try.prog 33 #[v, .int .i64 z] w fun e w' => e = .returned (.int .i64 ((k + l.length : Nat) : Int)) ∧ OB w' lo hi v (marks k l.length) ∧ Ins lo hi w w' := by
  subst hz
  exact markO v l k lo hi w h hl hk
theorem toO (v : Value) (l : List Nat) (w : World) (h : Rd w v l) (hl : l.length ≤ 1048576) :
    Calls Try.prog 29 #[v] w fun e w' => ∃ g, e = .returned (.slice (some ⟨g, 0, none⟩) l.length l.length) ∧ OB w' w.heap.size w'.heap.size (.slice (some ⟨g, 0, none⟩) l.length l.length) l ∧ Below w.heap.size w w' :=
  (toB v l w h hl).mono fun _ _ ⟨he, hO, hB⟩ => ⟨_, he, OB.of hO.x, hB⟩
end Go.Proofs.Ytifgcffifffdnam.W
