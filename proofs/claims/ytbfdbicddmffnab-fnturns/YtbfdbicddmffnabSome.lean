/-
  The source that draws inputs for the laws: bytes and chances.
-/
import Derived.Test.YtbfdbicddmffnabChn
import Derived.Deep.AppendLies
namespace Go.Proofs.Ytbfdbicddmffnab.W
open Go.ChangeShapes Go.WideShapes Go.ChangeAt Go.RowKit
open Go.Proofs.Ytbfdbicddmffnab.M

/-- What is kept where two rows alone may be written, one of them new. -/
theorem grown_new {a b c : World} {g : Nat} {row : Option Nat} (h : a.grownBy b (some g)) (k : b.grownBy c row) (hr : ∀ x, row = some x → a.heap.size ≤ x) : a.grownBy c (some g) :=
  ⟨k.os.trans h.os, k.tape.trans h.tape, k.output.trans h.output, Nat.le_trans h.size k.size, fun i hi hne => (k.block i (Nat.lt_of_lt_of_le hi h.size) (fun e => by have := hr i e.symm; omega)).trans (h.block i hi hne)⟩

set_option maxHeartbeats 1000000 in
set_option maxRecDepth 100000 in
theorem some' (w0 w : World) (g : Nat) (v : Value) (l : List Nat) (t : Nat) (n : Nat) (h : Src w0 w g v l t) (ht : t + n ≤ 1000000) (hl : l.length ≤ 1048576) :
    Calls Try.prog 54 #[.pointer (some ⟨g, 0, none⟩), .int .i64 (n : Int)] w fun e w' => ∃ (gg cap : Nat) (r : List Nat), e = .returned (.slice (some ⟨gg, 0, none⟩) n cap) ∧ r.length = n ∧ Byt r ∧ Own w' w.heap.size (.slice (some ⟨gg, 0, none⟩) n cap) r ∧ Src w0 w' g v l (t + n) ∧ w.grownBy w' (some g) := by
  obtain ⟨i0, hi, hz0, hz1, hz2⟩ := info_parts info8
  have hgl := var_lt h.cells
  have hO0 := own_lit0 w
  have h1 := h.later (below_alloc1 w (.cells #[] 5))
  have S0 := hid h1
  have hw0 := h.bel.size
  clear h h1
  go_enter Try.func54, Try.ntmps54
  go_wp2
  go_loopw [1, 5] (fun nn u wr => ∃ (k gg cap : Nat) (r : List Nat), k ≤ n ∧ nn = .int .i64 (n - k : Nat) ∧ u = .slice (some ⟨gg, 0, none⟩) k cap ∧ r.length = k ∧ Byt r ∧ Own wr w.heap.size (.slice (some ⟨gg, 0, none⟩) k cap) r ∧ Src w0 wr g v l (t + k) ∧ w.grownBy wr (some g)) (fun nn _ _ => (intOf nn).toNat)
  case atStart => exact ⟨0, w.heap.size, 0, [], by omega, by simp, rfl, rfl, fun x hx => by simp at hx, hO0, S0.out, World.grownBy_alloc _ _ _⟩
  case round =>
    obtain ⟨k, gg, cap, r, hk, rfl, rfl, hr, yr, hown, hS, hG⟩ := hrel
    clear hO0
    by_cases hlt : k < n
    · have hd : (0 : Int) < ((n - k : Nat) : Int) := by omega
      have N := hid (next w0 wr g v l (t + k) 256 hS (by omega) (by omega) hl)
      have hne : some g ≠ (Value.slice (some ⟨gg, 0, none⟩) k cap).ownBlock := hown.ne hgl
      have HO := hid hown
      have HG := hid hG
      have HR := hid hr
      clear hown hG hS hr
      go_wp2_with fail
      refine N.out.mono ?_
      rintro e w1 ⟨x, rfl, hx, hS1, hG1⟩
      obtain ⟨x0, x1⟩ := hx (by omega)
      obtain ⟨j, rfl⟩ : ∃ j : Nat, x = j := ⟨x.toNat, by omega⟩
      have j1 : j < 256 := by omega
      have hO1 := HO.out.kept hG1 (.inr (Ne.symm hne))
      have hownK : w1.ownsRow w.heap.size 5 1 (.slice (some ⟨gg, 0, none⟩) k cap) k (r.map bv) := by
        have q := hO1
        unfold Own at q
        rw [HR.out] at q
        exact q
      have z1 : w.heap.size ≤ w1.heap.size := Nat.le_trans HG.out.size hG1.size
      clear hx x0 x1 N hO1
      go_wp2_with (at_builtin; refine wpList_append_lies _ rfl _ _ _ rfl w.heap.size 5 i0 (.int .u8 0) 1 1 Try.underlying22 hi hz0 hz1 hz2 rfl (by omega) _ _ _ rfl (hownK.alloc _) ⟨w1.heap.size, 0, none⟩ 1 1 [.int .u8 (j : Int)] rfl rfl (World.news_of_block (cs := #[.int .u8 (j : Int)]) (t := 5) (fr := (0, 0)) (heap_alloc_new w1 _)) (by simp [Value.oneCell']) (by omega) (by unfold maxLen; omega) (by omega) (by simp; omega) (w1.heap.size + 1) (by simp) ?_; intro g2 cap2 w2 hown2 hgrow2 hat2 hlt2)
      have hO2 : Own w2 w.heap.size (.slice (some ⟨g2, 0, none⟩) (k + 1) cap2) (r ++ [j]) := own_snoc (by rw [HR.out]; exact hown2)
      have hrow : ∀ x, (Value.slice (some ⟨gg, 0, none⟩) k cap).ownBlock = some x → w.heap.size ≤ x := HO.out.row (Nat.le_refl _)
      have hS2 := (hS1.later (below_alloc1 w1 _)).grown hgrow2 hne (fun x e => Nat.le_trans hw0 (hrow x e))
      have hG2 : w.grownBy w2 (some g) := grown_new (grown_trans (grown_trans HG.out hG1) (World.grownBy_alloc _ _ _)) hgrow2 hrow
      refine ⟨⟨k + 1, g2, cap2, r ++ [j], by omega, ?_, rfl, by simp [HR.out], ?_, hO2, by rw [show t + (k + 1) = t + k + 1 by omega]; exact hS2, hG2⟩, ?_⟩
      · exact congrArg (Value.int .i64) (by omega)
      · intro x hx
        rcases List.mem_append.1 hx with hx | hx
        · exact yr x hx
        · simp at hx; omega
      · simp [intOf]; omega
    · have hk8 : k = n := by omega
      subst hk8
      have HS := hid hS
      have HG := hid hG
      have HO := hid hown
      have HR := hid hr
      clear hS hG hown hr
      rw [Nat.sub_self]
      go_wp2
      go_ret
      exact ⟨gg, cap, r, rfl, HR.out, yr, HO.out, HS.out, HG.out⟩

/-- A copy of bytes that are the call's own. -/
theorem copy' (base gg cap n : Nat) (l : List Nat) (w : World) (h : Own w base (.slice (some ⟨gg, 0, none⟩) n cap) l) (hn : l.length = n) (hl : n ≤ 1048576) :
    Calls Try.prog 93 #[.slice (some ⟨gg, 0, none⟩) n cap] w fun e w' => ∃ v', e = .returned v' ∧ Own w' w.heap.size v' l ∧ Below w.heap.size w w' := by
  obtain ⟨i0, hi, hz0, hz1, hz2⟩ := info_parts info8
  have hO0 := own_lit0 w
  have HC := hid (fun k (hk : k < l.length) => h.cell hn k hk)
  clear h
  go_enter Try.func93, Try.ntmps93
  go_wp2_with (at_builtin; refine wpList_append_own _ rfl _ _ _ rfl w.heap.size 5 i0 (.int .u8 0) 1 1 Try.underlying22 hi hz0 hz1 hz2 rfl (by omega) _ _ _ rfl hO0 ⟨gg, 0, none⟩ n cap (l.map bv) rfl (by simp [hn]) ?_ ?_ ?_ ?_ ?_ ?_)
  · intro j u hj
    have hj' : j < l.length := by
      rcases Nat.lt_or_ge j l.length with q | q
      · exact q
      · rw [List.getElem?_eq_none (by simpa using q)] at hj; cases hj
    rw [List.getElem?_map, List.getElem?_eq_getElem hj'] at hj
    cases hj
    rw [Addr.add_lit, Nat.zero_add]
    exact cell_alloc (HC.out j hj') _
  · intro u hu
    obtain ⟨x, _, rfl⟩ := List.mem_map.1 hu
    rfl
  · unfold maxLen; simp; omega
  · simp; omega
  · simp
  · intro v' w1 hown1 hgrow1 _
    have hO1 : Own w1 w.heap.size v' l := by
      unfold Own
      rw [hn]
      simpa using hown1
    have hB1 : Below w.heap.size w w1 := (below_alloc1 w _).grown hgrow1 (by simp) (fun x e => by simp [Value.ownBlock] at e; omega)
    clear hown1 hgrow1 hO0
    go_wp2
    go_ret
    exact ⟨v', rfl, hO1, hB1⟩
end Go.Proofs.Ytbfdbicddmffnab.W
