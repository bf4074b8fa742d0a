/-
  The xor of slices of bytes: the model's l1Xor.
-/
import Derived.Test.YtckgjghpfjinfabBase
import Derived.Test.YtckgjghpfjinfabXor
import Derived.Deep.AppendLies
import Derived.Deep.RegionHeld3
namespace Go.Proofs.Ytckgjghpfjinfab.W
open Go.ChangeShapes Go.WideShapes Go.ChangeAt Go.RowKit
open Go.Proofs.Ytckgjghpfjinfab.M

set_option maxRecDepth 100000 in
theorem l1xor (va vb : Value) (la lb : List Nat) (w : World) (ha : Rd w va la) (hb : Rd w vb lb) (ya : Byt la) (yb : Byt lb) (h1 : la.length ≤ 1048576) (h2 : la.length = lb.length) :
    Calls Try.prog 150 #[va, vb] w fun e w' => ∃ v, e = .returned v ∧ Own w' w.heap.size v (xl la lb) ∧ Below w.heap.size w w' := by
  obtain ⟨a, capa, rfl, _, _, hca⟩ := ha.parts
  obtain ⟨b, capb, rfl, _, _, hcb⟩ := hb.parts
  rw [← h2]
  have HCA := hid hca
  have HCB := hid hcb
  have H2 := hid h2
  clear hca hcb ha hb h2
  obtain ⟨i0, hi, hz0, hz1, hz2⟩ := info_parts info8
  have hO0 := own_lit0 w
  go_enter Try.func150, Try.ntmps150
  go_wp2
  go_loopw [5, 6] (fun v i wr => ∃ k : Nat, k ≤ la.length ∧ i = .int .i64 k ∧ Own wr w.heap.size v ((xl la lb).take k) ∧ Below w.heap.size w wr) (fun _ i _ => la.length - (intOf i).toNat)
  case atStart => exact ⟨0, by omega, rfl, by rw [List.take_zero]; exact hO0, below_alloc1 w _⟩
  case round =>
    obtain ⟨k, hk, rfl, hown, hb⟩ := hrel
    clear hO0
    by_cases hlt : k < la.length
    · obtain ⟨ba, oa, rfl, ca⟩ := HCA.out k hlt
      have hk2 : k < lb.length := by have := H2.out; omega
      obtain ⟨bb, ob, rfl, cb⟩ := HCB.out k hk2
      have na := hown.ne (World.block_lt_of_cell? w _ ca)
      have nb := hown.ne (World.block_lt_of_cell? w _ cb)
      have ca := cell_kept hb ca
      have cb := cell_kept hb cb
      have KA := hid (cell_alloc ca)
      have KB := hid (cell_alloc cb)
      have hx := ya.at k hlt
      have hy := yb.at k hk2
      have hsn := take_snoc (xl la lb) k (by rw [xl_len]; exact hlt)
      rw [xl_at la lb k _ hlt hk2] at hsn
      have HS := hid hsn
      have hn : ((xl la lb).take k).length = k := by rw [List.length_take, xl_len]; omega
      have hownK : wr.ownsRow w.heap.size 5 1 u5 k (((xl la lb).take k).map bv) := by
        have h := hown
        unfold Own at h
        rw [hn] at h
        exact h
      have HN := hid hn
      have hsz := hb.size
      generalize la[k] = x at *
      generalize lb[k] = y at *
      unfold bv at ca cb KA KB
      have HX : Hid (bits .xor .u8 (x : Int) (y : Int) = ((x ^^^ y : Nat) : Int)) := xor8' x y hx hy
      clear hsn hk2 hn
      go_wp2
      go_region_held3 (fun w' => w'.cell? ⟨ba, oa + k, none⟩ = some (.int .u8 (x : Nat)) ∧ w'.cell? ⟨bb, ob + k, none⟩ = some (.int .u8 (y : Nat)))
        (first | exact ⟨ca, cb⟩ | exact ⟨KA.out _, KB.out _⟩ | exact ⟨hgrow.cell (KA.out _) na, hgrow.cell (KB.out _) nb⟩)
        ((refine step_append_lies _ (by rfl) _ _ _ (by rfl) w.heap.size 5 i0 _ 1 1 Try.underlying22 hi hz0 hz1 hz2 rfl (by omega) _ _ _ (by rfl) ((World.ownsRow.alloc hownK _).drew) ⟨wr.heap.size, 0, none⟩ 1 1 [.int .u8 (bits .xor .u8 (x : Int) (y : Int))] (by rfl) (by rfl) (World.news_of_block (cs := #[.int .u8 (bits .xor .u8 (x : Int) (y : Int))]) (t := 5) (fr := (0, 0)) (heap_alloc_new wr _)) (by simp [Value.oneCell']) (by omega) (by have := HN.out; unfold maxLen; omega) (by have := HN.out; omega) (by simp; omega) (wr.heap.size + 1) (by simp) ?_; intro gg cap w1 hown1 hgrow hat hlt2))
      have hO1 : Own w1 w.heap.size (.slice (some ⟨gg, 0, none⟩) (k + 1) cap) ((xl la lb).take (k + 1)) := by
        rw [HS.out]
        rw [HX.out] at hown1
        exact own_snoc (by rw [HN.out]; exact hown1)
      have hb1 : Below w.heap.size w w1 := ((hb.alloc hsz _).drew).grown hgrow (by simp; omega) (fun g e => (World.ownsRow.lt hown g e).1)
      clear hown1 hgrow hown hb hownK
      go_wp2
      go_roundw
      case rel => exact ⟨k + 1, by omega, by go_num, hO1, hb1⟩
      case measure => simp [intOf]; omega
    · have hk8 : k = la.length := by omega
      subst hk8
      rw [List.take_of_length_le (by rw [xl_len]; omega)] at hown
      go_wp2
      go_ret
      exact ⟨_, rfl, hown, hb⟩
end Go.Proofs.Ytckgjghpfjinfab.W
