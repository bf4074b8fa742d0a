/-
  How the exact laws copy rings: what they answer.
  How the exact laws compare rings: what they answer where both read the same.
  The marks that the laws lay in bytes, over slices that are a call's own whatever their block's type.
  How the exact laws mark slices of keys, and hold them.
  How the exact laws compare, mark and hold what is told of a ring.
  How the exact laws copy and mark a key.
  Variables of three, four and five cells.
-/
import Derived.Test.YtifgcffifffdnajSlB
import Derived.Test.YtifgcffifffdnajKsM
import Derived.Test.YtifgcffifffdnajRng
import Derived.Deep.RegionHeld3
import Derived.Test.YtifgcffifffdnajIv
import Derived.Test.YtifgcffifffdnajSl

namespace Go.Proofs.Ytifgcffifffdnaj.W
open Go.ChangeShapes Go.WideShapes Go.ChangeAt Go.RowKit
open Go.Proofs.Ytifgcffifffdnaj.M

theorem cellsK {w : World} {g g' : Nat} {x y s : Value} {T : TypeId} (h : w.heap[g]? = some (.cells #[x, y] T)) (hne : g ≠ g') : (w.setCell ⟨g', 1, none⟩ s).heap[g]? = some (.cells #[x, y] T) := by
  rw [Below.heap_setCell _ _ _ _ hne]; exact h
theorem cellsS {w : World} {g : Nat} {x y y' : Value} {T : TypeId} (h : w.heap[g]? = some (.cells #[x, y] T)) : (w.setCell ⟨g, 1, none⟩ y').heap[g]? = some (.cells #[x, y'] T) := by
  have h1 := heap_setCell_same w g 1 _ T y' h
  simpa using h1
set_option maxRecDepth 100000 in
theorem toK (p : Int) (v : Value) (l : List Nat) (w : World) (h : Rd w v l) (hl : l.length ≤ 1048576) :
    Calls Try.prog 20 #[.agg #[.int .i64 p, v]] w fun e w' => ∃ g, e = .returned (.agg #[.int .i64 p, .slice (some ⟨g, 0, none⟩) l.length l.length]) ∧ Own w' w.heap.size (.slice (some ⟨g, 0, none⟩) l.length l.length) l ∧ Below w.heap.size w w' := by
  have H := hid h
  obtain ⟨a, cap, rfl, -, -, -⟩ := h.parts
  clear h
  go_enter Try.func20, Try.ntmps20
  go_wp2_with fail
  have V1 : (((w.alloc (.cells #[.int .i64 p, .slice a l.length cap] 41)).alloc (.cells #[.int .i64 0, .slice none 0 0] 28)).alloc (.cells #[.int .i64 p, .slice none 0 0] 28)).heap[w.heap.size + 1]? = some (.cells #[.int .i64 0, .slice none 0 0] 28) := by
    have h := var_alloc (.cells #[.int .i64 p, .slice none 0 0] 28) (heap_alloc_new (w.alloc (.cells #[.int .i64 p, .slice a l.length cap] 41)) (.cells #[.int .i64 0, .slice none 0 0] 28))
    rw [World.size_alloc] at h
    exact h
  have V2 : (((w.alloc (.cells #[.int .i64 p, .slice a l.length cap] 41)).alloc (.cells #[.int .i64 0, .slice none 0 0] 28)).alloc (.cells #[.int .i64 p, .slice none 0 0] 28)).heap[w.heap.size + 1 + 1]? = some (.cells #[.int .i64 p, .slice none 0 0] 28) := by
    have h := heap_alloc_new ((w.alloc (.cells #[.int .i64 p, .slice a l.length cap] 41)).alloc (.cells #[.int .i64 0, .slice none 0 0] 28)) (.cells #[.int .i64 p, .slice none 0 0] 28)
    rw [World.size_alloc, World.size_alloc] at h
    exact h
  have B3 : Below w.heap.size w (((w.alloc (.cells #[.int .i64 p, .slice a l.length cap] 41)).alloc (.cells #[.int .i64 0, .slice none 0 0] 28)).alloc (.cells #[.int .i64 p, .slice none 0 0] 28)) := (((Below.refl _ _).alloc (Nat.le_refl _) _).alloc (by simp) _).alloc (by simp; omega) _
  have Z3 : w.heap.size + 1 + 1 < (((w.alloc (.cells #[.int .i64 p, .slice a l.length cap] 41)).alloc (.cells #[.int .i64 0, .slice none 0 0] 28)).alloc (.cells #[.int .i64 p, .slice none 0 0] 28)).heap.size := by simp
  replace H := hid (H.out.below B3)
  generalize (((w.alloc (.cells #[.int .i64 p, .slice a l.length cap] 41)).alloc (.cells #[.int .i64 0, .slice none 0 0] 28)).alloc (.cells #[.int .i64 p, .slice none 0 0] 28)) = w3 at *
  refine (toB _ l _ H.out hl).mono ?_
  rintro e w4 ⟨rfl, O4, hB⟩
  replace V1 := var_below hB V1
  replace V2 := var_below hB V2
  replace B3 := B3.trans (hB.mono B3.size)
  clear hB H
  have G3 : w.heap.size ≤ w3.heap.size := by omega
  generalize w3.heap.size = g3 at *
  unfold Own at O4
  obtain ⟨n, hn⟩ : ∃ n, n = l.length := ⟨_, rfl⟩
  rw [← hn] at O4 ⊢
  replace hn := hid hn
  have V1' := cellsK (s := .slice (some ⟨g3, 0, none⟩) n n) (g' := w.heap.size + 1 + 1) V1 (by omega)
  have V2' := cellsS (y' := .slice (some ⟨g3, 0, none⟩) n n) V2
  have O5 := ownsRow_setCell_below O4 (a := ⟨w.heap.size + 1 + 1, 1, none⟩) (by show w.heap.size + 1 + 1 < g3; omega) (.slice (some ⟨g3, 0, none⟩) n n)
  have B5 := B3.setCell (p := ⟨w.heap.size + 1 + 1, 1, none⟩) (by show w.heap.size ≤ w.heap.size + 1 + 1; omega) (.slice (some ⟨g3, 0, none⟩) n n)
  obtain ⟨d0, d1, d2, d3⟩ := var2_facts V2
  obtain ⟨e0, e1, -, -⟩ := var2_facts V2'
  obtain ⟨f0, f1, f2, f3⟩ := var2_facts V1'
  have HS := hid (var2_set (x' := .int .i64 p) (y' := .slice (some ⟨g3, 0, none⟩) n n) V1')
  have HB := hid (below_set2 (x := .int .i64 p) (y := .slice (some ⟨g3, 0, none⟩) n n) (g := w.heap.size + 1) B5 (by omega))
  have HO := hid ((ownsRow_setCell_below (ownsRow_setCell_below O5 (a := ⟨w.heap.size + 1, 0, none⟩) (by show w.heap.size + 1 < g3; omega) (.int .i64 p)) (a := ⟨w.heap.size + 1, 1, none⟩) (by show w.heap.size + 1 < g3; omega) (.slice (some ⟨g3, 0, none⟩) n n)))
  clear V1 V2 V1' V2' O4 O5 B3 B5
  go_wp2
  refine bodyPost_ret (v := .agg #[.int .i64 p, .slice (some ⟨g3, 0, none⟩) n n]) (results_cell_row rfl _ _ (w.heap.size + 1) 28 _ _ _ rfl HS.out Try.underlying28 rfl (by kernel_rfl)) rfl ?_
  have HN := hn.out
  subst HN
  exact ⟨g3, rfl, Own.mono (show Own _ g3 _ _ from HO.out) G3, HB.out⟩

/-- A row of keys that is filled as far as k. -/
def Fill (w : World) (g : Nat) (ks : List (Int × List Nat)) (L : List Value) (k : Nat) : Prop :=
  L.length = ks.length * 2 ∧ w.ownsRow g 28 2 (.slice (some ⟨g, 0, none⟩) ks.length ks.length) ks.length L ∧ ∀ i (hi : i < ks.length), i < k → (∃ u, L[i * 2]? = some (.int .i64 ks[i].1) ∧ L[i * 2 + 1]? = some u ∧ Own w (g + 1) u ks[i].2) ∧ ∀ j u u' a b, j < i → L[j * 2 + 1]? = some u → L[i * 2 + 1]? = some u' → u.ownBlock = some a → u'.ownBlock = some b → a < b
theorem Fill.rd {w : World} {g : Nat} {ks : List (Int × List Nat)} {L : List Value} (h : Fill w g ks L ks.length) (hm : ks.length ≤ maxLen) : RdK w (.slice (some ⟨g, 0, none⟩) ks.length ks.length) ks := by
  refine ⟨_, _, rfl, Nat.le_refl _, hm, fun i hi => ?_⟩
  obtain ⟨⟨u, h1, h2, h3⟩, -⟩ := h.2.2 i hi hi
  refine ⟨g, 0, u, rfl, ?_, ?_, h3.rd⟩
  · rw [Nat.zero_add, World.ownsRow.cellAt h.2.1 (i * 2) (by omega)]; exact h1
  · rw [Nat.zero_add, World.ownsRow.cellAt h.2.1 (i * 2 + 1) (by omega)]; exact h2
theorem row_keepK {w w1 : World} {g n : Nat} {T : TypeId} {v : Value} {L : List Value} (hr : w.ownsRow g T 2 v n L) (hB : Below w.heap.size w w1) : w1.ownsRow g T 2 v n L := by
  refine ⟨hr.1, ?_⟩
  rcases hr.2 with hn | ⟨g', cap, cur, e, hbb, hgg, rest⟩
  · exact .inl hn
  · exact .inr ⟨g', cap, cur, e, hbb, by rw [hB.block g' (Array.getElem?_eq_some_iff.1 hgg).1]; exact hgg, rest⟩
theorem Fill.next {w w1 : World} {g : Nat} {ks : List (Int × List Nat)} {L : List Value} {k : Nat} (h : Fill w g ks L k) (hk : k < ks.length) (hB : Below w.heap.size w w1) (u : Value) (hu : Own w1 w.heap.size u ks[k].2) :
    Fill ((w1.setCell ⟨g, k * 2, none⟩ (.int .i64 ks[k].1)).setCell ⟨g, k * 2 + 1, none⟩ u) g ks ((L.set (k * 2) (.int .i64 ks[k].1)).set (k * 2 + 1) u) (k + 1) := by
  obtain ⟨hl, hr, hx⟩ := h
  have hg : g < w.heap.size := (World.ownsRow.lt hr g rfl).2
  have hr1 : w1.ownsRow g 28 2 (.slice (some ⟨g, 0, none⟩) ks.length ks.length) ks.length L := by
    refine ⟨hr.1, ?_⟩
    rcases hr.2 with hn | ⟨g', cap, cur, e, hbb, hgg, rest⟩
    · exact .inl hn
    · exact .inr ⟨g', cap, cur, e, hbb, by rw [hB.block g' (Array.getElem?_eq_some_iff.1 hgg).1]; exact hgg, rest⟩
  have s1 := (World.ownsRow.stored hr1 (k * 2) (.int .i64 ks[k].1)).1
  have s2 := (World.ownsRow.stored s1 (k * 2 + 1) u).1
  have keep : ∀ (x : Value) (l : List Nat), Own w1 (g + 1) x l → Own ((w1.setCell ⟨g, k * 2, none⟩ (.int .i64 ks[k].1)).setCell ⟨g, k * 2 + 1, none⟩ u) (g + 1) x l := fun x l hO =>
    ownsRow_setCell_below (ownsRow_setCell_below hO (a := ⟨g, k * 2, none⟩) (Nat.lt_succ_self g) _) (a := ⟨g, k * 2 + 1, none⟩) (Nat.lt_succ_self g) _
  refine ⟨by rw [List.length_set, List.length_set]; exact hl, s2, fun i hi hik => ?_⟩
  by_cases e : i = k
  · subst e
    refine ⟨⟨u, ?_, ?_, keep _ _ (hu.mono (by omega))⟩, fun j x x' a b hji e1 e2 ea eb => ?_⟩
    · rw [List.getElem?_set_ne (by omega), List.getElem?_set_self (by omega)]
    · rw [List.getElem?_set_self (by rw [List.length_set]; omega)]
    · rw [List.getElem?_set_ne (by omega), List.getElem?_set_ne (by omega)] at e1
      rw [List.getElem?_set_self (by rw [List.length_set]; omega)] at e2
      cases e2
      obtain ⟨⟨x2, -, q2, q3⟩, -⟩ := hx j (by omega) hji
      rw [q2] at e1
      cases e1
      have b1 := (World.ownsRow.lt q3 a ea).2
      have b2 := (World.ownsRow.lt hu b eb).1
      omega
  · obtain ⟨⟨u', h1, h2, h3⟩, h4⟩ := hx i hi (by omega)
    refine ⟨⟨u', ?_, ?_, keep _ _ (h3.below hB)⟩, fun j x x' a b hji e1 e2 ea eb => ?_⟩
    · rw [List.getElem?_set_ne (by omega), List.getElem?_set_ne (by omega)]; exact h1
    · rw [List.getElem?_set_ne (by omega), List.getElem?_set_ne (by omega)]; exact h2
    · rw [List.getElem?_set_ne (by omega), List.getElem?_set_ne (by omega)] at e1 e2
      exact h4 j x x' a b hji e1 e2 ea eb
theorem idx_ka (b o n c j : Nat) (hj : j < n) (w : World) : (Instr.indexAt 22 (.slice (some ⟨b, o, none⟩) n c) (.int .i64 (j : Int))).run Try.prog w = .ok (.pointer (some ⟨b, o + j * 2, none⟩)) w := by
  have hs : ∀ w : World, (sizeOf (Try.prog.elem 22)).run Try.prog w = .ok 2 w := fun _ => by kernel_rfl
  rw [run_indexAt_slice (P := Try.prog) w 22 _ n c .i64 (j : Int) (by kernel_rfl)]
  simp [hs, hj, Result.andThen, Addr.add_lit]
theorem idx_ki (b o n c j : Nat) (hj : j < n) (w : World) : (Instr.indexAt 32 (.slice (some ⟨b, o, none⟩) n c) (.int .i64 (j : Int))).run Try.prog w = .ok (.pointer (some ⟨b, o + j * 2, none⟩)) w := by
  have hs : ∀ w : World, (sizeOf (Try.prog.elem 32)).run Try.prog w = .ok 2 w := fun _ => by kernel_rfl
  rw [run_indexAt_slice (P := Try.prog) w 32 _ n c .i64 (j : Int) (by kernel_rfl)]
  simp [hs, hj, Result.andThen, Addr.add_lit]
theorem infoK : (Try.prog.info? 28).map (fun i => (i.zero, i.size, i.bytes)) = some (some (.agg #[.int .i64 0, .slice none 0 0]), 2, 32) := by kernel_rfl
set_option maxRecDepth 100000 in
theorem toKS (v : Value) (ks : List (Int × List Nat)) (w : World) (h : RdK w v ks) (hl : ks.length + tot ks ≤ 1048576) :
    Calls Try.prog 39 #[v] w fun e w' => ∃ L, e = .returned (.slice (some ⟨w.heap.size, 0, none⟩) ks.length ks.length) ∧ Fill w' w.heap.size ks L ks.length ∧ Below w.heap.size w w' := by
  have H := hid h
  obtain ⟨a, cap, rfl, hc, hm, -⟩ := h.parts
  clear h
  obtain ⟨i0, hi, hz0, hz1, hz2⟩ := info_parts infoK
  go_enter Try.func39, Try.ntmps39
  go_wp2_with (at_make; refine wpList_make_full _ rfl _ _ 32 rfl w.heap.size 28 i0 (.agg #[.int .i64 0, .slice none 0 0]) 2 Try.underlying32 hi hz0 hz1 .i64 .i64 _ _ ks.length rfl rfl rfl rfl (by rw [hz2]; omega) (by unfold maxLen; omega) (Nat.le_refl _) ?_)
  intro w0 hown0 hgrow0
  have F0 : Hid (Fill w0 w.heap.size ks (madeCells (Value.agg #[.int .i64 0, .slice none 0 0]).cells (ks.length * 2)).toList 0) := hid ⟨hown0.1, hown0, fun i _ h => absurd h (Nat.not_lt_zero i)⟩
  have B0 := hid (below_of_grown hgrow0 (Nat.le_refl _) (fun k hk => by simp at hk))
  clear hown0 hgrow0 hi hz0 hz1 hz2
  go_wp2_with fail
  go_loopw [4] (fun i wr => ∃ k : Nat, ∃ L : List Value, k ≤ ks.length ∧ i = .int .i64 k ∧ Hid (Fill wr w.heap.size ks L k) ∧ Hid (Below w.heap.size w wr)) (fun i _ => ks.length - (intOf i).toNat)
  case atStart => exact ⟨0, _, by omega, rfl, F0, B0⟩
  case round =>
    obtain ⟨k, L, hk, rfl, FL, BL⟩ := hrel
    clear F0 B0
    by_cases hlt : k < ks.length
    · obtain ⟨a', cap', e, -, -, hcs⟩ := (H.out.below BL.out).parts
      cases e
      obtain ⟨b, o, u, rfl, q1, q2, q3⟩ := hcs k hlt
      obtain ⟨pu, cu, rfl, -, -, -⟩ := q3.parts
      have RU := hid q3
      have hn : (ks[k]).2.length ≤ 1048576 := by have := tot_at ks k hlt; omega
      have I1 := idx_ka b o ks.length cap k hlt
      have I2 := idx_ki w.heap.size 0 ks.length ks.length k hlt
      rw [Nat.zero_add] at I2
      have k0 : (0 : Int) ≤ (k : Int) := by omega
      have k1 : (k : Int) < (ks.length : Int) := by omega
      clear q3 hcs
      go_wp2_with fail
      refine (toK _ _ _ _ RU.out hn).mono ?_
      rintro e w1 ⟨g', rfl, hO, hB⟩
      have FN := hid (FL.out.next hlt hB _ hO)
      have hr1 := (row_keepK FL.out.2.1 hB)
      obtain ⟨x0, c0⟩ : ∃ x, w1.cell? ⟨w.heap.size, k * 2, none⟩ = some x := ⟨_, (World.ownsRow.cellAt hr1 (k * 2) (by omega)).trans (List.getElem?_eq_getElem (by have := FL.out.1; omega))⟩
      obtain ⟨x1, c1⟩ : ∃ x, w1.cell? ⟨w.heap.size, k * 2 + 1, none⟩ = some x := ⟨_, (World.ownsRow.cellAt hr1 (k * 2 + 1) (by omega)).trans (List.getElem?_eq_getElem (by have := FL.out.1; omega))⟩
      have f0 := World.ownsRow.frozenAt hr1 (k * 2)
      have f1 := World.ownsRow.frozenAt hr1 (k * 2 + 1)
      have BN := hid (((BL.out.trans (hB.mono BL.out.size)).setCell (p := ⟨w.heap.size, k * 2, none⟩) (Nat.le_refl _) (.int .i64 ks[k].1)).setCell (p := ⟨w.heap.size, k * 2 + 1, none⟩) (Nat.le_refl _) (.slice (some ⟨g', 0, none⟩) (ks[k]).2.length (ks[k]).2.length))
      clear hr1 hO hB FL BL q1 q2 RU
      generalize (ks[k]).1 = id' at *
      generalize (ks[k]).2.length = n' at *
      go_wp2
      go_roundw
      case rel => exact ⟨k + 1, _, hlt, by go_num, FN, BN⟩
      case measure => simp [intOf]; omega
    · have hke : k = ks.length := by omega
      subst hke
      go_wp2
      go_ret
      exact ⟨L, rfl, FL.out, BL.out⟩
theorem Fill.low {w : World} {g k : Nat} {ks : List (Int × List Nat)} {L : List Value} (h : Fill w g ks L k) (a : Addr) (ha : a.block < g) (x : Value) : Fill (w.setCell a x) g ks L k :=
  ⟨h.1, ownsRow_setCell_below h.2.1 ha x, fun i hi hik => by
    obtain ⟨⟨u, h1, h2, h3⟩, h4⟩ := h.2.2 i hi hik
    exact ⟨⟨u, h1, h2, ownsRow_setCell_below h3 (show a.block < g + 1 by omega) x⟩, h4⟩⟩
theorem Fill.oks {w : World} {g : Nat} {ks : List (Int × List Nat)} {L : List Value} (h : Fill w g ks L ks.length) : OKs w g w.heap.size (.slice (some ⟨g, 0, none⟩) ks.length ks.length) ks := by
  refine ⟨L, h.2.1, fun g' e => (World.ownsRow.lt h.2.1 g' e).2, fun i hi => ?_, fun i j u u' a hij hj e1 e2 ea eb => ?_⟩
  · obtain ⟨⟨u, h1, h2, h3⟩, -⟩ := h.2.2 i hi hi
    refine ⟨u, h1, h2, OB.of (h3.x.mono (Nat.le_succ g)), fun b e he => ?_⟩
    have e2 : g = b := Option.some.inj he
    have := (World.ownsRow.lt h3 b e).1
    omega
  · exact absurd ((h.2.2 j hj hj).2 i u u' a a hij e1 e2 ea eb) (Nat.lt_irrefl a)
set_option maxRecDepth 100000 in
theorem toR (p : Int) (v : Value) (ks : List (Int × List Nat)) (w : World) (h : RdK w v ks) (hl : ks.length + tot ks ≤ 1048576) :
    Calls Try.prog 11 #[.agg #[.int .i64 p, v]] w fun e w' => ∃ g L, e = .returned (.agg #[.int .i64 p, .slice (some ⟨g, 0, none⟩) ks.length ks.length]) ∧ Fill w' g ks L ks.length ∧ w.heap.size ≤ g ∧ Below w.heap.size w w' := by
  have H := hid h
  obtain ⟨a, cap, rfl, -, -, -⟩ := h.parts
  clear h
  go_enter Try.func11, Try.ntmps11
  go_wp2_with fail
  have V1 : (((w.alloc (.cells #[.int .i64 p, .slice a ks.length cap] 24)).alloc (.cells #[.int .i64 0, .slice none 0 0] 34)).alloc (.cells #[.int .i64 p, .slice none 0 0] 34)).heap[w.heap.size + 1]? = some (.cells #[.int .i64 0, .slice none 0 0] 34) := by
    have h := var_alloc (.cells #[.int .i64 p, .slice none 0 0] 34) (heap_alloc_new (w.alloc (.cells #[.int .i64 p, .slice a ks.length cap] 24)) (.cells #[.int .i64 0, .slice none 0 0] 34))
    rw [World.size_alloc] at h
    exact h
  have V2 : (((w.alloc (.cells #[.int .i64 p, .slice a ks.length cap] 24)).alloc (.cells #[.int .i64 0, .slice none 0 0] 34)).alloc (.cells #[.int .i64 p, .slice none 0 0] 34)).heap[w.heap.size + 1 + 1]? = some (.cells #[.int .i64 p, .slice none 0 0] 34) := by
    have h := heap_alloc_new ((w.alloc (.cells #[.int .i64 p, .slice a ks.length cap] 24)).alloc (.cells #[.int .i64 0, .slice none 0 0] 34)) (.cells #[.int .i64 p, .slice none 0 0] 34)
    rw [World.size_alloc, World.size_alloc] at h
    exact h
  have B3 : Below w.heap.size w (((w.alloc (.cells #[.int .i64 p, .slice a ks.length cap] 24)).alloc (.cells #[.int .i64 0, .slice none 0 0] 34)).alloc (.cells #[.int .i64 p, .slice none 0 0] 34)) := (((Below.refl _ _).alloc (Nat.le_refl _) _).alloc (by simp) _).alloc (by simp; omega) _
  have Z3 : w.heap.size + 1 + 1 < (((w.alloc (.cells #[.int .i64 p, .slice a ks.length cap] 24)).alloc (.cells #[.int .i64 0, .slice none 0 0] 34)).alloc (.cells #[.int .i64 p, .slice none 0 0] 34)).heap.size := by simp
  replace H := hid (H.out.below B3)
  generalize (((w.alloc (.cells #[.int .i64 p, .slice a ks.length cap] 24)).alloc (.cells #[.int .i64 0, .slice none 0 0] 34)).alloc (.cells #[.int .i64 p, .slice none 0 0] 34)) = w3 at *
  refine (toKS _ ks _ H.out hl).mono ?_
  rintro e w4 ⟨L, rfl, O4, hB⟩
  replace V1 := var_below hB V1
  replace V2 := var_below hB V2
  replace B3 := B3.trans (hB.mono B3.size)
  clear hB H
  have G3 : w.heap.size ≤ w3.heap.size := by omega
  generalize w3.heap.size = g3 at *
  obtain ⟨n, hn⟩ : ∃ n, n = ks.length := ⟨_, rfl⟩
  rw [← hn]
  replace hn := hid hn
  have V1' := cellsK (s := .slice (some ⟨g3, 0, none⟩) n n) (g' := w.heap.size + 1 + 1) V1 (by omega)
  have V2' := cellsS (y' := .slice (some ⟨g3, 0, none⟩) n n) V2
  have O5 := O4.low ⟨w.heap.size + 1 + 1, 1, none⟩ (by show w.heap.size + 1 + 1 < g3; omega) (.slice (some ⟨g3, 0, none⟩) n n)
  have B5 := B3.setCell (p := ⟨w.heap.size + 1 + 1, 1, none⟩) (by show w.heap.size ≤ w.heap.size + 1 + 1; omega) (.slice (some ⟨g3, 0, none⟩) n n)
  obtain ⟨d0, d1, d2, d3⟩ := var2_facts V2
  obtain ⟨e0, e1, -, -⟩ := var2_facts V2'
  obtain ⟨f0, f1, f2, f3⟩ := var2_facts V1'
  have HS := hid (var2_set (x' := .int .i64 p) (y' := .slice (some ⟨g3, 0, none⟩) n n) V1')
  have HB := hid (below_set2 (x := .int .i64 p) (y := .slice (some ⟨g3, 0, none⟩) n n) (g := w.heap.size + 1) B5 (by omega))
  have HO := hid ((O5.low ⟨w.heap.size + 1, 0, none⟩ (by show w.heap.size + 1 < g3; omega) (.int .i64 p)).low ⟨w.heap.size + 1, 1, none⟩ (by show w.heap.size + 1 < g3; omega) (.slice (some ⟨g3, 0, none⟩) n n))
  clear V1 V2 V1' V2' O4 O5 B3 B5
  go_wp2
  refine bodyPost_ret (v := .agg #[.int .i64 p, .slice (some ⟨g3, 0, none⟩) n n]) (results_cell_row rfl _ _ (w.heap.size + 1) 34 _ _ _ rfl HS.out Try.underlying34 rfl (by kernel_rfl)) rfl ?_
  have HN := hn.out
  subst HN
  exact ⟨g3, L, rfl, HO.out, G3, HB.out⟩

theorem toRo (p : Int) (v : Value) (ks : List (Int × List Nat)) (w : World) (h : RdK w v ks) (hl : ks.length + tot ks ≤ 1048576) :
    Calls Try.prog 11 #[.agg #[.int .i64 p, v]] w fun e w' => ∃ g, e = .returned (.agg #[.int .i64 p, .slice (some ⟨g, 0, none⟩) ks.length ks.length]) ∧ OKs w' w.heap.size w'.heap.size (.slice (some ⟨g, 0, none⟩) ks.length ks.length) ks ∧ Below w.heap.size w w' :=
  (toR p v ks w h hl).mono fun _ _ ⟨g, _, he, hF, hg, hB⟩ => ⟨g, he, hF.oks.mono hg (Nat.le_refl _), hB⟩
end Go.Proofs.Ytifgcffifffdnaj.W

namespace Go.Proofs.Ytifgcffifffdnaj.W
open Go.ChangeShapes Go.WideShapes Go.ChangeAt Go.RowKit
open Go.Proofs.Ytifgcffifffdnaj.M

theorem idx_ke (b o n c j : Nat) (hj : j < n) (w : World) : (Instr.indexAt 32 (.slice (some ⟨b, o, none⟩) n c) (.int .i64 (j : Int))).run Try.prog w = .ok (.pointer (some ⟨b, o + j * 2, none⟩)) w := by
  have hs : ∀ w : World, (sizeOf (Try.prog.elem 32)).run Try.prog w = .ok 2 w := fun _ => by kernel_rfl
  rw [run_indexAt_slice (P := Try.prog) w 32 _ n c .i64 (j : Int) (by kernel_rfl)]
  simp [hs, hj, Result.andThen, Addr.add_lit]
set_option maxRecDepth 100000 in
theorem eqK (p : Int) (va vb : Value) (l : List Nat) (w : World) (ha : Rd w va l) (hb : Rd w vb l) (hl : l.length ≤ 1048576) :
    Calls Try.prog 23 #[.agg #[.int .i64 p, va], .agg #[.int .i64 p, vb]] w fun e w' => e = .returned (.bool true) ∧ Below w.heap.size w w' := by
  have HA := hid ha
  have HB := hid hb
  obtain ⟨a, ca, rfl, -, -, -⟩ := ha.parts
  obtain ⟨b, cb, rfl, -, -, -⟩ := hb.parts
  clear ha hb
  go_enter Try.func23, Try.ntmps23
  go_wp2_with fail
  refine (eqB _ _ l _ (HA.out.below (below_alloc2 w _ _)) (HB.out.below (below_alloc2 w _ _)) hl).mono ?_
  rintro e w' ⟨rfl, hB⟩
  have BB := hid ((below_alloc2 w _ _).trans (hB.mono (by simp; omega)))
  clear hB
  go_wp2
  go_ret
  exact ⟨rfl, BB.out⟩
set_option maxRecDepth 100000 in
theorem eqKS (va vb : Value) (ks : List (Int × List Nat)) (w : World) (ha : RdK w va ks) (hb : RdK w vb ks) (hl : ks.length + tot ks ≤ 1048576) :
    Calls Try.prog 42 #[va, vb] w fun e w' => e = .returned (.bool true) ∧ Below w.heap.size w w' := by
  have HA := hid ha
  have HB := hid hb
  obtain ⟨a, ca, rfl, -, -, -⟩ := ha.parts
  obtain ⟨b, cb, rfl, -, -, -⟩ := hb.parts
  clear ha hb
  go_enter Try.func42, Try.ntmps42
  go_wp2_with fail
  go_loopw [5] (fun i wr => ∃ k : Nat, k ≤ ks.length ∧ i = .int .i64 k ∧ Hid (Below w.heap.size w wr)) (fun i _ => ks.length - (intOf i).toNat)
  case atStart => exact ⟨0, by omega, rfl, hid (Below.refl _ _)⟩
  case round =>
    obtain ⟨k, hk, rfl, BL⟩ := hrel
    by_cases hlt : k < ks.length
    · obtain ⟨a', ca', e, -, -, hcs⟩ := (HA.out.below BL.out).parts
      cases e
      obtain ⟨ba, oa, ua, rfl, q1, q2, q3⟩ := hcs k hlt
      obtain ⟨pu, cu, rfl, -, -, -⟩ := q3.parts
      obtain ⟨b', cb', e, -, -, hcs'⟩ := (HB.out.below BL.out).parts
      cases e
      obtain ⟨bb, ob, ub, rfl, t1, t2, t3⟩ := hcs' k hlt
      obtain ⟨pv, cv, rfl, -, -, -⟩ := t3.parts
      have RU := hid q3
      have RV := hid t3
      have hn : (ks[k]).2.length ≤ 1048576 := by have := tot_at ks k hlt; omega
      have I1 := idx_ke ba oa ks.length ca k hlt
      have I2 := idx_ke bb ob ks.length cb k hlt
      have k0 : (0 : Int) ≤ (k : Int) := by omega
      have k1 : (k : Int) < (ks.length : Int) := by omega
      clear q3 hcs t3 hcs'
      obtain ⟨n, hn'⟩ : ∃ n, n = (ks[k]).2.length := ⟨_, rfl⟩
      rw [← hn'] at q2 t2 RU RV
      generalize (ks[k]).1 = id' at *
      clear hn'
      go_wp2_with fail
      refine wp_region_held_drew (S := fun w' => Below wr.heap.size wr w') (by kernel_rfl) (Below.refl _ _).drew (fun hH => ?_)
      refine wpAnyH_take (i := 0) (v := .slice (some ⟨ba, oa, none⟩) ks.length ca) (by simp only [List.getElem?_toArray, List.getElem?_cons_zero]; rfl) (by kernel_rfl) (by kernel_rfl) (by kernel_rfl) (by intro _ _ _ h; exact h) (Or.inl ⟨by rfl, fun w hS => by go_simp⟩) hH ?_
      simp only [Act.put, List.setIfInBounds_toArray, List.set_cons_zero, List.set_cons_succ]
      refine wpAnyH_take (i := 1) (v := .int .i64 (k : Int)) (by simp only [List.getElem?_toArray, List.getElem?_cons_succ, List.getElem?_cons_zero]; rfl) (by kernel_rfl) (by kernel_rfl) (by kernel_rfl) (by intro _ _ _ h; exact h) (Or.inl ⟨by rfl, fun w hS => by go_simp⟩) hH ?_
      simp only [Act.put, List.setIfInBounds_toArray, List.set_cons_zero, List.set_cons_succ]
      refine wpAnyH_take (i := 2) (v := .pointer (some ⟨ba, oa + k * 2, none⟩)) (by simp only [List.getElem?_toArray, List.getElem?_cons_succ, List.getElem?_cons_zero]; rfl) (by kernel_rfl) (by kernel_rfl) (by kernel_rfl) (by intro _ _ _ h; exact h) (Or.inl ⟨by rfl, fun w hS => by go_simp⟩) hH ?_
      simp only [Act.put, List.setIfInBounds_toArray, List.set_cons_zero, List.set_cons_succ]
      refine wpAnyH_take (i := 3) (v := .agg #[.int .i64 id', .slice pu n cu]) (by simp only [List.getElem?_toArray, List.getElem?_cons_succ, List.getElem?_cons_zero]; rfl) (by kernel_rfl) (by kernel_rfl) (by kernel_rfl) (by intro _ _ _ h; exact h) (Or.inl ⟨by rfl, fun w hS => by (have y0 := cell_kept hS q1; have y1 := cell_kept hS q2; go_simp)⟩) hH ?_
      simp only [Act.put, List.setIfInBounds_toArray, List.set_cons_zero, List.set_cons_succ]
      refine wpAnyH_take (i := 4) (v := .slice (some ⟨bb, ob, none⟩) ks.length cb) (by simp only [List.getElem?_toArray, List.getElem?_cons_succ, List.getElem?_cons_zero]; rfl) (by kernel_rfl) (by kernel_rfl) (by kernel_rfl) (by intro _ _ _ h; exact h) (Or.inl ⟨by rfl, fun w hS => by go_simp⟩) hH ?_
      simp only [Act.put, List.setIfInBounds_toArray, List.set_cons_zero, List.set_cons_succ]
      refine wpAnyH_take (i := 5) (v := .int .i64 (k : Int)) (by simp only [List.getElem?_toArray, List.getElem?_cons_succ, List.getElem?_cons_zero]; rfl) (by kernel_rfl) (by kernel_rfl) (by kernel_rfl) (by intro _ _ _ h; exact h) (Or.inl ⟨by rfl, fun w hS => by go_simp⟩) hH ?_
      simp only [Act.put, List.setIfInBounds_toArray, List.set_cons_zero, List.set_cons_succ]
      refine wpAnyH_take (i := 6) (v := .pointer (some ⟨bb, ob + k * 2, none⟩)) (by simp only [List.getElem?_toArray, List.getElem?_cons_succ, List.getElem?_cons_zero]; rfl) (by kernel_rfl) (by kernel_rfl) (by kernel_rfl) (by intro _ _ _ h; exact h) (Or.inl ⟨by rfl, fun w hS => by go_simp⟩) hH ?_
      simp only [Act.put, List.setIfInBounds_toArray, List.set_cons_zero, List.set_cons_succ]
      refine wpAnyH_take (i := 7) (v := .agg #[.int .i64 id', .slice pv n cv]) (by simp only [List.getElem?_toArray, List.getElem?_cons_succ, List.getElem?_cons_zero]; rfl) (by kernel_rfl) (by kernel_rfl) (by kernel_rfl) (by intro _ _ _ h; exact h) (Or.inl ⟨by rfl, fun w hS => by (have y0 := cell_kept hS t1; have y1 := cell_kept hS t2; go_simp)⟩) hH ?_
      simp only [Act.put, List.setIfInBounds_toArray, List.set_cons_zero, List.set_cons_succ]
      refine wpAnyH_ready (rs := [8]) (by kernel_rfl) (by simp) ?_
      refine AllReadyH.cons (by simp only [List.getElem?_toArray, List.getElem?_cons_succ, List.getElem?_cons_zero]; rfl) (fun K hK => ?_) AllReadyH.nil
      go_simp
      refine (eqK _ _ _ _ _ (RU.out.below hH) (RV.out.below hH) hn).mono ?_
      rintro e x8 ⟨rfl, hM⟩
      refine hK.out _ _ (hH.trans (hM.mono hH.size)) (fun hH => ?_)
      clear hK K
      clear hM
      refine wpAnyH_take (i := 9) (v := .bool false) (by simp only [List.getElem?_toArray, List.getElem?_cons_succ, List.getElem?_cons_zero]; rfl) (by kernel_rfl) (by kernel_rfl) (by kernel_rfl) (by intro _ _ _ h; exact h) (Or.inl ⟨by rfl, fun w hS => by go_simp⟩) hH ?_
      simp only [Act.put, List.setIfInBounds_toArray, List.set_cons_zero, List.set_cons_succ]
      refine wpAnyH_done (by kernel_rfl) ?_ _
      have B2 := hid (BL.out.trans (hH.mono BL.out.size))
      clear hH
      go_wp2
      go_roundw
      case rel => exact ⟨k + 1, hlt, by go_num, B2⟩
      case measure => simp [intOf]; omega
    · have hke : k = ks.length := by omega
      subst hke
      go_wp2
      go_ret
      exact ⟨rfl, BL.out⟩
set_option maxRecDepth 100000 in
theorem eqR (p : Int) (va vb : Value) (ks : List (Int × List Nat)) (w : World) (ha : RdK w va ks) (hb : RdK w vb ks) (hl : ks.length + tot ks ≤ 1048576) :
    Calls Try.prog 14 #[.agg #[.int .i64 p, va], .agg #[.int .i64 p, vb]] w fun e w' => e = .returned (.bool true) ∧ Below w.heap.size w w' := by
  have HA := hid ha
  have HB := hid hb
  obtain ⟨a, ca, rfl, -, -, -⟩ := ha.parts
  obtain ⟨b, cb, rfl, -, -, -⟩ := hb.parts
  clear ha hb
  go_enter Try.func14, Try.ntmps14
  go_wp2_with fail
  refine (eqKS _ _ ks _ (HA.out.below (below_alloc2 w _ _)) (HB.out.below (below_alloc2 w _ _)) hl).mono ?_
  rintro e w' ⟨rfl, hB⟩
  have BB := hid ((below_alloc2 w _ _).trans (hB.mono (by simp; omega)))
  clear hB
  go_wp2
  go_ret
  exact ⟨rfl, BB.out⟩
end Go.Proofs.Ytifgcffifffdnaj.W

namespace Go.Proofs.Ytifgcffifffdnaj.W
open Go.ChangeShapes Go.WideShapes Go.ChangeAt Go.RowKit
open Go.Proofs.Ytifgcffifffdnaj.M

set_option maxRecDepth 100000 in
theorem markBx (v : Value) (l : List Nat) (k base : Nat) (w : World) (h : Owx w base v l) (hl : l.length ≤ 1048576) (hk : k ≤ 16777216) :
    Calls Try.prog 53 #[v, .int .i64 (k : Int)] w fun e w' => e = .returned (.int .i64 ((k + l.length : Nat) : Int)) ∧ Owx w' base v (marks k l.length) ∧ w.grownBy w' v.ownBlock := by
  obtain ⟨T, hT⟩ := h
  have h : Owx w base v l := ⟨T, hT⟩
  rcases hT.2 with ⟨rfl, h0⟩ | ⟨g, cap, cur, rfl, -, -, -, -, -, -⟩
  · obtain rfl := List.eq_nil_of_length_eq_zero h0
    go_enter Try.func53, Try.ntmps53
    go_wp2
    refine wp_loop_rounds 1 ?_
    rw [rounds_succ]
    go_wp2
    go_ret
    exact ⟨rfl, h, World.grownBy.refl _ _⟩
  · rw [show (Value.slice (some ⟨g, 0, none⟩) l.length cap).ownBlock = some g from rfl]
    go_enter Try.func53, Try.ntmps53
    go_wp2
    go_loopw [1, 5] (fun kk i wr => ∃ j : Nat, j ≤ l.length ∧ i = .int .i64 j ∧ kk = .int .i64 (k + j : Nat) ∧ Owx wr base (.slice (some ⟨g, 0, none⟩) l.length cap) (marked l k j) ∧ w.grownBy wr (some g)) (fun _ i _ => l.length - (intOf i).toNat)
    case atStart => exact ⟨0, by omega, rfl, rfl, by rw [marked_zero]; exact h, World.grownBy.refl _ _⟩
    case round =>
      obtain ⟨j, hj, rfl, rfl, hown, hg⟩ := hrel
      by_cases hlt : j < l.length
      · have hl1 := marked_len l k j hj
        have hc2 : ∃ u, wr.cell? ⟨g, j, none⟩ = some u := ⟨_, hown.cell hl1 j (by omega)⟩
        obtain ⟨u, hc2⟩ := hc2
        have hf2 := hown.open hl1 j
        have hs := hown.stored hl1 j ((k + j) % 256)
        rw [marked_set l k j hlt] at hs
        unfold bv at hs
        have e : (((k + j) % 256 : Nat) : Int) = ((k : Int) + j) % 256 := by omega
        rw [e] at hs
        have hs2 := grown_trans hg hs.2
        clear hown hg e h hT
        go_wp2
        go_roundw
        case rel => exact ⟨j + 1, by omega, by go_num, by go_num, hs.1, hs2⟩
        case measure => simp [intOf]; omega
      · have hk8 : j = l.length := by omega
        subst hk8
        rw [marked_end] at hown
        go_wp2
        go_ret
        exact ⟨rfl, hown, hg⟩

theorem markB1x (v : Value) (l : List Nat) (base : Nat) (w : World) (h : Owx w base v l) (hl : l.length ≤ 1048576) :
    Calls Try.prog 53 #[v, .int .i64 1] w fun e w' => e = .returned (.int .i64 ((1 + l.length : Nat) : Int)) ∧ Owx w' base v (marks 1 l.length) ∧ w.grownBy w' v.ownBlock := by
  have h := markBx v l 1 base w h hl (by omega)
  rw [one_cast] at h
  exact h

/-- The same over what lies between two block numbers. -/
theorem markO (v : Value) (l : List Nat) (k lo hi : Nat) (w : World) (h : OB w lo hi v l) (hl : l.length ≤ 1048576) (hk : k ≤ 16777216) :
    Calls Try.prog 53 #[v, .int .i64 (k : Int)] w fun e w' => e = .returned (.int .i64 ((k + l.length : Nat) : Int)) ∧ OB w' lo hi v (marks k l.length) ∧ Ins lo hi w w' :=
  (markBx v l k lo w h.1 hl hk).mono fun _ _ ⟨he, hO, hG⟩ => ⟨he, ⟨hO, h.2⟩, Ins.of_grown hG fun _ e => h.blk e⟩
theorem markOz (v : Value) (l : List Nat) (k : Nat) (z : Int) (hz : z = (k : Int)) (lo hi : Nat) (w : World) (h : OB w lo hi v l) (hl : l.length ≤ 1048576) (hk : k ≤ 16777216) :
    Calls Try.prog 53 #[v, .int .i64 z] w fun e w' => e = .returned (.int .i64 ((k + l.length : Nat) : Int)) ∧ OB w' lo hi v (marks k l.length) ∧ Ins lo hi w w' := by
  subst hz
  exact markO v l k lo hi w h hl hk
theorem toO (v : Value) (l : List Nat) (w : World) (h : Rd w v l) (hl : l.length ≤ 1048576) :
    Calls Try.prog 48 #[v] w fun e w' => ∃ g, e = .returned (.slice (some ⟨g, 0, none⟩) l.length l.length) ∧ OB w' w.heap.size w'.heap.size (.slice (some ⟨g, 0, none⟩) l.length l.length) l ∧ Below w.heap.size w w' :=
  (toB v l w h hl).mono fun _ _ ⟨he, hO, hB⟩ => ⟨_, he, OB.of hO.x, hB⟩
end Go.Proofs.Ytifgcffifffdnaj.W

namespace Go.Proofs.Ytifgcffifffdnaj.W
open Go.ChangeShapes Go.WideShapes Go.ChangeAt Go.RowKit
open Go.Proofs.Ytifgcffifffdnaj.M

theorem idx_km (b o n c j : Nat) (hj : j < n) (w : World) : (Instr.indexAt 32 (.slice (some ⟨b, o, none⟩) n c) (.int .i64 (j : Int))).run Try.prog w = .ok (.pointer (some ⟨b, o + j * 2, none⟩)) w := by
  have hs : ∀ w : World, (sizeOf (Try.prog.elem 32)).run Try.prog w = .ok 2 w := fun _ => by kernel_rfl
  rw [run_indexAt_slice (P := Try.prog) w 32 _ n c .i64 (j : Int) (by kernel_rfl)]
  simp [hs, hj, Result.andThen, Addr.add_lit]
set_option maxHeartbeats 1000000 in
set_option maxRecDepth 100000 in
theorem markKS (v : Value) (ks : List (Int × List Nat)) (k lo hi : Nat) (w : World) (h : OKs w lo hi v ks) (hl : ks.length + tot ks ≤ 1048576) (hk : k ≤ 8388608) :
    Calls Try.prog 43 #[v, .int .i64 (k : Int)] w fun e w' => e = .returned (.int .i64 ((k + (ks.length + tot ks) : Nat) : Int)) ∧ OKs w' lo hi v (mkTo k ks ks.length) ∧ Ins lo hi w w' := by
  by_cases h0 : ks.length = 0
  · obtain rfl := List.eq_nil_of_length_eq_zero h0
    obtain ⟨a, cap, rfl, -, -, -⟩ := h.rd.parts
    have H := hid h
    clear h
    go_enter Try.func43, Try.ntmps43
    go_wp2
    refine wp_loop_rounds 1 ?_
    rw [rounds_succ]
    go_wp2
    go_ret
    exact ⟨rfl, H.out, Ins.refl _ _ _⟩
  · obtain ⟨g, cap, rfl, -, -, -⟩ := h.shape (by omega)
    have H := hid h
    clear h
    go_enter Try.func43, Try.ntmps43
    go_wp2
    go_loopw [1, 5] (fun kk i wr => ∃ j : Nat, j ≤ ks.length ∧ i = .int .i64 j ∧ kk = .int .i64 (kAt k ks j : Nat) ∧ Hid (OKs wr lo hi (.slice (some ⟨g, 0, none⟩) ks.length cap) (mkTo k ks j)) ∧ Hid (Ins lo hi w wr)) (fun _ i _ => ks.length - (intOf i).toNat)
    case atStart => exact ⟨0, by omega, rfl, by simp [kAt, tot], hid (by rw [mkTo_zero]; exact H.out), hid (Ins.refl _ _ _)⟩
    case round =>
      obtain ⟨j, hj, rfl, rfl, HO, HI⟩ := hrel
      clear H
      by_cases hlt : j < ks.length
      · have KB := hid (kAt_le k ks j hj)
        have KS := hid (kAt_succ k ks j hlt)
        have HN := hid (tot_at ks j hlt)
        obtain ⟨q, hq⟩ : ∃ q, q = kAt k ks j := ⟨_, rfl⟩
        rw [← hq]
        obtain ⟨c0, f0, u, c1, hO1, hNX⟩ := HO.out.step hlt q hq
        have Q := hid hq
        clear hq
        have qb : q ≤ 16777215 := by have := KB.out; have := Q.out; omega
        have O1 := hid hO1
        have NX := hid hNX
        have I2 := idx_km g 0 ks.length cap j hlt
        rw [Nat.zero_add] at I2
        have k0 : (0 : Int) ≤ (j : Int) := by omega
        have k1 : (j : Int) < (ks.length : Int) := by omega
        obtain ⟨pu, cu, rfl, -, -, -⟩ := O1.out.rd.parts
        have nl : (ks[j]).2.length ≤ 1048576 := by have := HN.out; omega
        clear hO1 hNX HO
        go_wp2_with fail
        have QC : ((q : Int) + 1) = ((q + 1 : Nat) : Int) := by omega
        rw [QC]
        clear QC
        refine (markBx _ (ks[j]).2 (q + 1) lo _ O1.out.1 nl (by omega)).mono ?_
        rintro e w2 ⟨rfl, hO, hG⟩
        obtain ⟨r1, r2⟩ := NX.out w2 hG hO
        have R1 := hid r1
        have R2 := hid (HI.out.trans r2)
        have K2 := hid (show q + 1 + (ks[j]).2.length = kAt k ks (j + 1) by rw [KS.out, Q.out])
        clear hO hG r1 r2 c0 f0 c1 O1 NX
        obtain ⟨q2, hq2⟩ : ∃ m : Nat, m = q + 1 + (ks[j]).2.length := ⟨_, rfl⟩
        rw [← hq2]
        rw [← hq2] at K2
        clear hq2
        go_wp2
        go_roundw
        case rel => exact ⟨j + 1, hlt, by go_num, by rw [K2.out], R1, R2⟩
        case measure => simp [intOf]; omega
      · have hk8 : j = ks.length := by omega
        subst hk8
        have E := hid (kAt_end k ks)
        obtain ⟨q, hq⟩ : ∃ q, q = kAt k ks ks.length := ⟨_, rfl⟩
        rw [← hq]
        have Q := hid hq
        clear hq
        go_wp2
        go_ret
        exact ⟨congrArg (fun z : Nat => Ending.returned (.int .i64 (z : Int))) (Q.out.trans E.out), HO.out, HI.out⟩
set_option maxRecDepth 100000 in
theorem markRo (p : Int) (v : Value) (ks : List (Int × List Nat)) (k : Nat) (z : Int) (hz : z = (k : Int)) (lo hi : Nat) (w : World) (h : OKs w lo hi v ks) (hl : ks.length + tot ks ≤ 1048576) (hk : k ≤ 8388608) :
    Calls Try.prog 15 #[.agg #[.int .i64 p, v], .int .i64 z] w fun e w' => e = .returned (.int .i64 ((k + (ks.length + tot ks) : Nat) : Int)) ∧ OKs w' lo hi v (mkTo k ks ks.length) ∧ Ins lo hi w w' := by
  have H := hid h
  obtain ⟨a, ca, rfl, -, -, -⟩ := h.rd.parts
  subst hz
  clear h
  go_enter Try.func15, Try.ntmps15
  go_wp2_with fail
  refine (markKS _ ks k lo hi _ (H.out.below (below_alloc1 w _)) hl hk).mono ?_
  rintro e w' ⟨rfl, hO, hI⟩
  have HO := hid hO
  have HI := hid ((Ins.of_below (below_alloc1 w _)).trans hI)
  clear hO hI
  go_wp2
  go_ret
  exact ⟨rfl, HO.out, HI.out⟩
end Go.Proofs.Ytifgcffifffdnaj.W

namespace Go.Proofs.Ytifgcffifffdnaj.W
open Go.ChangeShapes Go.WideShapes Go.ChangeAt Go.RowKit
open Go.Proofs.Ytifgcffifffdnaj.M

set_option maxHeartbeats 1000000 in
set_option maxRecDepth 100000 in
theorem heldKS (v : Value) (ks : List (Int × List Nat)) (k : Nat) (w : World) (h : RdK w v (mkTo k ks ks.length)) (hl : ks.length + tot ks ≤ 1048576) (hk : k ≤ 8388608) :
    Calls Try.prog 72 #[v, .int .i64 (k : Int)] w fun e w' => e = .returned (.int .i64 ((k + (ks.length + tot ks) : Nat) : Int)) ∧ Below w.heap.size w w' := by
  have H := hid h
  have EL := hid (mkTo_len k ks ks.length (Nat.le_refl _))
  obtain ⟨a, cap, e, -, -, -⟩ := h.parts
  rw [EL.out] at e
  subst e
  clear h
  go_enter Try.func72, Try.ntmps72
  go_wp2
  go_loopw [1, 5] (fun kk i wr => ∃ j : Nat, j ≤ ks.length ∧ i = .int .i64 j ∧ kk = .int .i64 (kAt k ks j : Nat) ∧ Hid (Below w.heap.size w wr)) (fun _ i _ => ks.length - (intOf i).toNat)
  case atStart => exact ⟨0, by omega, rfl, by simp [kAt, tot], hid (Below.refl _ _)⟩
  case round =>
    obtain ⟨j, hj, rfl, rfl, BL⟩ := hrel
    by_cases hlt : j < ks.length
    · obtain ⟨a', ca', e, -, -, hcs⟩ := (H.out.below BL.out).parts
      rw [EL.out] at e
      cases e
      have hj' : j < (mkTo k ks ks.length).length := by rw [EL.out]; exact hlt
      obtain ⟨b, o, u, rfl, q1, q2, q3⟩ := hcs j hj'
      have ML := mkTo_low k ks ks.length j hj' hlt
      rw [mkAt_get k ks j hlt] at ML
      rw [ML] at q1 q3
      have KB := hid (kAt_le k ks j hj)
      have KS := hid (kAt_succ k ks j hlt)
      have HN := hid (tot_at ks j hlt)
      obtain ⟨q, hq⟩ : ∃ q, q = kAt k ks j := ⟨_, rfl⟩
      rw [← hq] at q1 q3 ⊢
      have Q := hid hq
      clear hq ML hcs
      have qb : q ≤ 16777215 := by have := KB.out; have := Q.out; omega
      have nl : (ks[j]).2.length ≤ 1048576 := by have := HN.out; omega
      have RU := hid q3
      obtain ⟨pu, cu, e, -, -, -⟩ := q3.parts
      simp only [marks_len] at e
      subst e
      have I2 := idx_km b o ks.length cap j hlt
      have k0 : (0 : Int) ≤ (j : Int) := by omega
      have k1 : (j : Int) < (ks.length : Int) := by omega
      clear q3
      go_wp2_with fail
      have QC : ((q : Int) + 1) = ((q + 1 : Nat) : Int) := by omega
      rw [QC]
      clear QC
      refine (heldB _ (ks[j]).2.length (q + 1) _ RU.out nl (by omega)).mono ?_
      rintro e w2 ⟨rfl, rfl⟩
      have K2 := hid (show q + 1 + (ks[j]).2.length = kAt k ks (j + 1) by rw [KS.out, Q.out])
      obtain ⟨q2', hq2⟩ : ∃ m : Nat, m = q + 1 + (ks[j]).2.length := ⟨_, rfl⟩
      rw [← hq2]
      rw [← hq2] at K2
      clear hq2
      have h0 : decide ((q2' : Int) < 0) = false := decide_eq_false (by omega)
      clear q1 q2
      go_wp2
      go_roundw
      case rel => exact ⟨j + 1, hlt, by go_num, by rw [K2.out], BL⟩
      case measure => simp [intOf]; omega
    · have hk8 : j = ks.length := by omega
      subst hk8
      have E := hid (kAt_end k ks)
      obtain ⟨q, hq⟩ : ∃ q, q = kAt k ks ks.length := ⟨_, rfl⟩
      rw [← hq]
      have Q := hid hq
      clear hq
      go_wp2
      go_ret
      exact ⟨congrArg (fun z : Nat => Ending.returned (.int .i64 (z : Int))) (Q.out.trans E.out), BL.out⟩
set_option maxRecDepth 100000 in
theorem heldRo (p : Int) (v : Value) (l : List (Int × List Nat)) (k : Nat) (z : Int) (hz : z = (k : Int)) (w : World) (h : RdK w v (mkTo k l l.length)) (hl : (l.length + tot l) ≤ 1048576) (hk : k ≤ 8388608) :
    Calls Try.prog 54 #[.agg #[.int .i64 p, v], .int .i64 z] w fun e w' => e = .returned (.int .i64 ((k + (l.length + tot l) : Nat) : Int)) ∧ Below w.heap.size w w' := by
  have H := hid h
  obtain ⟨a, ca, e, -, -, -⟩ := h.parts
  rw [mkTo_len _ _ _ (Nat.le_refl _)] at e
  subst e
  subst hz
  clear h
  go_enter Try.func54, Try.ntmps54
  go_wp2_with fail
  refine (heldKS _ l k _ (H.out.below (below_alloc1 w _)) hl hk).mono ?_
  rintro e w' ⟨rfl, hB⟩
  have BB := hid ((below_alloc1 w _).trans (hB.mono (by simp)))
  clear hB
  obtain ⟨m, hm⟩ : ∃ m : Nat, m = k + (l.length + tot l) := ⟨_, rfl⟩
  rw [← hm]
  replace hm := hid hm
  have h0 : decide ((m : Int) < 0) = false := decide_eq_false (by omega)
  go_wp2
  go_ret
  exact ⟨congrArg (fun z : Nat => Ending.returned (.int .i64 (z : Int))) hm.out, BB.out⟩
set_option maxRecDepth 100000 in
theorem eqRR (c rk : Int) (va vb : Value) (l : List (Int × List Nat)) (w : World) (ha : RdK w va l) (hb : RdK w vb l) (hl : (l.length + tot l) ≤ 1048576) :
    Calls Try.prog 22 #[.agg #[.int .i64 c, .int .i64 rk, va], .agg #[.int .i64 c, .int .i64 rk, vb]] w fun e w' => e = .returned (.bool true) ∧ Below w.heap.size w w' := by
  have HA := hid ha
  have HB := hid hb
  obtain ⟨a, ca, rfl, -, -, -⟩ := ha.parts
  obtain ⟨b, cb, rfl, -, -, -⟩ := hb.parts
  clear ha hb
  go_enter Try.func22, Try.ntmps22
  go_wp2_with fail
  refine (eqR rk _ _ l _ (HA.out.below (below_alloc2 w _ _)) (HB.out.below (below_alloc2 w _ _)) hl).mono ?_
  rintro e w' ⟨rfl, hB⟩
  have BB := hid ((below_alloc2 w _ _).trans (hB.mono (by simp; omega)))
  clear hB
  go_wp2
  go_ret
  exact ⟨rfl, BB.out⟩
set_option maxRecDepth 100000 in
theorem markRRo (c rk : Int) (v : Value) (l : List (Int × List Nat)) (k : Nat) (z : Int) (hz : z = (k : Int)) (lo hi : Nat) (w : World) (h : OKs w lo hi v l) (hl : (l.length + tot l) ≤ 1048576) (hk : k ≤ 8388608) :
    Calls Try.prog 25 #[.agg #[.int .i64 c, .int .i64 rk, v], .int .i64 z] w fun e w' => e = .returned (.int .i64 ((k + (l.length + tot l) : Nat) : Int)) ∧ OKs w' lo hi v (mkTo k l l.length) ∧ Ins lo hi w w' := by
  have H := hid h
  obtain ⟨a, ca, rfl, -, -, -⟩ := h.rd.parts
  subst hz
  clear h
  go_enter Try.func25, Try.ntmps25
  go_wp2_with fail
  refine (markRo rk _ l k _ rfl lo hi _ (H.out.below (below_alloc1 w _)) hl hk).mono ?_
  rintro e w' ⟨rfl, hO, hI⟩
  have HO := hid hO
  have HI := hid ((Ins.of_below (below_alloc1 w _)).trans hI)
  clear hO hI
  go_wp2
  go_ret
  exact ⟨rfl, HO.out, HI.out⟩
set_option maxRecDepth 100000 in
theorem heldRRo (c rk : Int) (v : Value) (l : List (Int × List Nat)) (k : Nat) (z : Int) (hz : z = (k : Int)) (w : World) (h : RdK w v (mkTo k l l.length)) (hl : (l.length + tot l) ≤ 1048576) (hk : k ≤ 8388608) :
    Calls Try.prog 26 #[.agg #[.int .i64 c, .int .i64 rk, v], .int .i64 z] w fun e w' => e = .returned (.int .i64 ((k + (l.length + tot l) : Nat) : Int)) ∧ Below w.heap.size w w' := by
  have H := hid h
  obtain ⟨a, ca, e, -, -, -⟩ := h.parts
  rw [mkTo_len _ _ _ (Nat.le_refl _)] at e
  subst e
  subst hz
  clear h
  go_enter Try.func26, Try.ntmps26
  go_wp2_with fail
  refine (heldRo rk _ l k _ rfl _ (H.out.below (below_alloc1 w _)) hl hk).mono ?_
  rintro e w' ⟨rfl, hB⟩
  have BB := hid ((below_alloc1 w _).trans (hB.mono (by simp)))
  clear hB
  obtain ⟨m, hm⟩ : ∃ m : Nat, m = k + (l.length + tot l) := ⟨_, rfl⟩
  rw [← hm]
  replace hm := hid hm
  have h0 : decide ((m : Int) < 0) = false := decide_eq_false (by omega)
  go_wp2
  go_ret
  exact ⟨congrArg (fun z : Nat => Ending.returned (.int .i64 (z : Int))) hm.out, BB.out⟩
end Go.Proofs.Ytifgcffifffdnaj.W

namespace Go.Proofs.Ytifgcffifffdnaj.W
open Go.ChangeShapes Go.WideShapes Go.ChangeAt Go.RowKit
open Go.Proofs.Ytifgcffifffdnaj.M

set_option maxRecDepth 100000 in
theorem markKo (p : Int) (v : Value) (l : List Nat) (k : Nat) (z : Int) (hz : z = (k : Int)) (lo hi : Nat) (w : World) (h : OB w lo hi v l) (hl : l.length ≤ 1048576) (hk : k ≤ 16777216) :
    Calls Try.prog 24 #[.agg #[.int .i64 p, v], .int .i64 z] w fun e w' => e = .returned (.int .i64 ((k + l.length : Nat) : Int)) ∧ OB w' lo hi v (marks k l.length) ∧ Ins lo hi w w' := by
  have H := hid h
  obtain ⟨a, ca, rfl, -, -, -⟩ := h.rd.parts
  subst hz
  clear h
  go_enter Try.func24, Try.ntmps24
  go_wp2_with fail
  refine (markO _ l k lo hi _ (H.out.below (below_alloc1 w _)) hl hk).mono ?_
  rintro e w' ⟨rfl, hO, hI⟩
  have HO := hid hO
  have HI := hid ((Ins.of_below (below_alloc1 w _)).trans hI)
  clear hO hI
  go_wp2
  go_ret
  exact ⟨rfl, HO.out, HI.out⟩
theorem toKo (p : Int) (v : Value) (l : List Nat) (w : World) (h : Rd w v l) (hl : l.length ≤ 1048576) :
    Calls Try.prog 20 #[.agg #[.int .i64 p, v]] w fun e w' => ∃ g, e = .returned (.agg #[.int .i64 p, .slice (some ⟨g, 0, none⟩) l.length l.length]) ∧ OB w' w.heap.size w'.heap.size (.slice (some ⟨g, 0, none⟩) l.length l.length) l ∧ Below w.heap.size w w' :=
  (toK p v l w h hl).mono fun _ _ ⟨g, he, hO, hB⟩ => ⟨g, he, OB.of hO.x, hB⟩
end Go.Proofs.Ytifgcffifffdnaj.W

namespace Go.Proofs.Ytifgcffifffdnaj.M
open Go.RowKit

theorem var3_facts {w' : World} {g : Nat} {x y z : Value} {T : TypeId} (h : w'.heap[g]? = some (.cells #[x, y, z] T)) :
    (w'.cell? ⟨g, 0, none⟩ = some x ∧ w'.cell? ⟨g, 1, none⟩ = some y ∧ w'.cell? ⟨g, 2, none⟩ = some z) ∧ w'.frozen? ⟨g, 0, none⟩ = false ∧ w'.frozen? ⟨g, 1, none⟩ = false ∧ w'.frozen? ⟨g, 2, none⟩ = false :=
  ⟨⟨by rw [cell_of_row w' g 0 _ _ _ h]; rfl, by rw [cell_of_row w' g 1 _ _ _ h]; rfl, by rw [cell_of_row w' g 2 _ _ _ h]; rfl⟩, frozen_of_row w' g 0 _ T h, frozen_of_row w' g 1 _ T h, frozen_of_row w' g 2 _ T h⟩
end Go.Proofs.Ytifgcffifffdnaj.M
