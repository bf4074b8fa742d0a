/-
  How the exact laws copy rings: what they answer.
-/
import Derived.Test.YtmamdbmkjipahajSlB
import Derived.Test.YtmamdbmkjipahajKsM
namespace Go.Proofs.Ytmamdbmkjipahaj.W
open Go.ChangeShapes Go.WideShapes Go.ChangeAt Go.RowKit
open Go.Proofs.Ytmamdbmkjipahaj.M

theorem cellsK {w : World} {g g' : Nat} {x y s : Value} {T : TypeId} (h : w.heap[g]? = some (.cells #[x, y] T)) (hne : g ≠ g') : (w.setCell ⟨g', 1, none⟩ s).heap[g]? = some (.cells #[x, y] T) := by
  rw [Below.heap_setCell _ _ _ _ hne]; exact h
theorem cellsS {w : World} {g : Nat} {x y y' : Value} {T : TypeId} (h : w.heap[g]? = some (.cells #[x, y] T)) : (w.setCell ⟨g, 1, none⟩ y').heap[g]? = some (.cells #[x, y'] T) := by
  have h1 := heap_setCell_same w g 1 _ T y' h
  simpa using h1
set_option maxRecDepth 100000 in
theorem toK (p : Int) (v : Value) (l : List Nat) (w : World) (h : Rd w v l) (hl : l.length ≤ 1048576) :
    Calls Try.prog 20 #[.agg #[.int .i64 p, v]] w fun e w' => ∃ g, e = .returned (.agg #[.int .i64 p, .slice (some ⟨g, 0, none⟩) l.length l.length]) ∧ Own w' w.heap.size (.slice (some ⟨g, 0, none⟩) l.length l.length) l ∧ Below w.heap.size w w' := by
  have H := hid h
  obtain ⟨a, cap, rfl, -, -, -⟩ := h.parts
  clear h
  go_enter Try.func20, Try.ntmps20
  go_wp2_with fail
  have V1 : (((w.alloc (.cells #[.int .i64 p, .slice a l.length cap] 41)).alloc (.cells #[.int .i64 0, .slice none 0 0] 28)).alloc (.cells #[.int .i64 p, .slice none 0 0] 28)).heap[w.heap.size + 1]? = some (.cells #[.int .i64 0, .slice none 0 0] 28) := by
    have h := var_alloc (.cells #[.int .i64 p, .slice none 0 0] 28) (heap_alloc_new (w.alloc (.cells #[.int .i64 p, .slice a l.length cap] 41)) (.cells #[.int .i64 0, .slice none 0 0] 28))
    rw [World.size_alloc] at h
    exact h
  have V2 : (((w.alloc (.cells #[.int .i64 p, .slice a l.length cap] 41)).alloc (.cells #[.int .i64 0, .slice none 0 0] 28)).alloc (.cells #[.int .i64 p, .slice none 0 0] 28)).heap[w.heap.size + 1 + 1]? = some (.cells #[.int .i64 p, .slice none 0 0] 28) := by
    have h := heap_alloc_new ((w.alloc (.cells #[.int .i64 p, .slice a l.length cap] 41)).alloc (.cells #[.int .i64 0, .slice none 0 0] 28)) (.cells #[.int .i64 p, .slice none 0 0] 28)
    rw [World.size_alloc, World.size_alloc] at h
    exact h
  have B3 : Below w.heap.size w (((w.alloc (.cells #[.int .i64 p, .slice a l.length cap] 41)).alloc (.cells #[.int .i64 0, .slice none 0 0] 28)).alloc (.cells #[.int .i64 p, .slice none 0 0] 28)) := (((Below.refl _ _).alloc (Nat.le_refl _) _).alloc (by simp) _).alloc (by simp; omega) _
  have Z3 : w.heap.size + 1 + 1 < (((w.alloc (.cells #[.int .i64 p, .slice a l.length cap] 41)).alloc (.cells #[.int .i64 0, .slice none 0 0] 28)).alloc (.cells #[.int .i64 p, .slice none 0 0] 28)).heap.size := by simp
  replace H := hid (H.out.below B3)
  generalize (((w.alloc (.cells #[.int .i64 p, .slice a l.length cap] 41)).alloc (.cells #[.int .i64 0, .slice none 0 0] 28)).alloc (.cells #[.int .i64 p, .slice none 0 0] 28)) = w3 at *
  refine (toB _ l _ H.out hl).mono ?_
  rintro e w4 ⟨rfl, O4, hB⟩
  replace V1 := var_below hB V1
  replace V2 := var_below hB V2
  replace B3 := B3.trans (hB.mono B3.size)
  clear hB H
  have G3 : w.heap.size ≤ w3.heap.size := by omega
  generalize w3.heap.size = g3 at *
  unfold Own at O4
  obtain ⟨n, hn⟩ : ∃ n, n = l.length := ⟨_, rfl⟩
  rw [← hn] at O4 ⊢
  replace hn := hid hn
  have V1' := cellsK (s := .slice (some ⟨g3, 0, none⟩) n n) (g' := w.heap.size + 1 + 1) V1 (by omega)
  have V2' := cellsS (y' := .slice (some ⟨g3, 0, none⟩) n n) V2
  have O5 := ownsRow_setCell_below O4 (a := ⟨w.heap.size + 1 + 1, 1, none⟩) (by show w.heap.size + 1 + 1 < g3; omega) (.slice (some ⟨g3, 0, none⟩) n n)
  have B5 := B3.setCell (p := ⟨w.heap.size + 1 + 1, 1, none⟩) (by show w.heap.size ≤ w.heap.size + 1 + 1; omega) (.slice (some ⟨g3, 0, none⟩) n n)
  obtain ⟨d0, d1, d2, d3⟩ := var2_facts V2
  obtain ⟨e0, e1, -, -⟩ := var2_facts V2'
  obtain ⟨f0, f1, f2, f3⟩ := var2_facts V1'
  have HS := hid (var2_set (x' := .int .i64 p) (y' := .slice (some ⟨g3, 0, none⟩) n n) V1')
  have HB := hid (below_set2 (x := .int .i64 p) (y := .slice (some ⟨g3, 0, none⟩) n n) (g := w.heap.size + 1) B5 (by omega))
  have HO := hid ((ownsRow_setCell_below (ownsRow_setCell_below O5 (a := ⟨w.heap.size + 1, 0, none⟩) (by show w.heap.size + 1 < g3; omega) (.int .i64 p)) (a := ⟨w.heap.size + 1, 1, none⟩) (by show w.heap.size + 1 < g3; omega) (.slice (some ⟨g3, 0, none⟩) n n)))
  clear V1 V2 V1' V2' O4 O5 B3 B5
  go_wp2
  refine bodyPost_ret (v := .agg #[.int .i64 p, .slice (some ⟨g3, 0, none⟩) n n]) (results_cell_row rfl _ _ (w.heap.size + 1) 28 _ _ _ rfl HS.out Try.underlying28 rfl (by kernel_rfl)) rfl ?_
  have HN := hn.out
  subst HN
  exact ⟨g3, rfl, Own.mono (show Own _ g3 _ _ from HO.out) G3, HB.out⟩

/-- A row of keys that is filled as far as k. -/
def Fill (w : World) (g : Nat) (ks : List (Int × List Nat)) (L : List Value) (k : Nat) : Prop :=
  L.length = ks.length * 2 ∧ w.ownsRow g 28 2 (.slice (some ⟨g, 0, none⟩) ks.length ks.length) ks.length L ∧ ∀ i (hi : i < ks.length), i < k → (∃ u, L[i * 2]? = some (.int .i64 ks[i].1) ∧ L[i * 2 + 1]? = some u ∧ Own w (g + 1) u ks[i].2) ∧ ∀ j u u' a b, j < i → L[j * 2 + 1]? = some u → L[i * 2 + 1]? = some u' → u.ownBlock = some a → u'.ownBlock = some b → a < b
theorem Fill.rd {w : World} {g : Nat} {ks : List (Int × List Nat)} {L : List Value} (h : Fill w g ks L ks.length) (hm : ks.length ≤ maxLen) : RdK w (.slice (some ⟨g, 0, none⟩) ks.length ks.length) ks := by
  refine ⟨_, _, rfl, Nat.le_refl _, hm, fun i hi => ?_⟩
  obtain ⟨⟨u, h1, h2, h3⟩, -⟩ := h.2.2 i hi hi
  refine ⟨g, 0, u, rfl, ?_, ?_, h3.rd⟩
  · rw [Nat.zero_add, World.ownsRow.cellAt h.2.1 (i * 2) (by omega)]; exact h1
  · rw [Nat.zero_add, World.ownsRow.cellAt h.2.1 (i * 2 + 1) (by omega)]; exact h2
theorem row_keepK {w w1 : World} {g n : Nat} {T : TypeId} {v : Value} {L : List Value} (hr : w.ownsRow g T 2 v n L) (hB : Below w.heap.size w w1) : w1.ownsRow g T 2 v n L := by
  refine ⟨hr.1, ?_⟩
  rcases hr.2 with hn | ⟨g', cap, cur, e, hbb, hgg, rest⟩
  · exact .inl hn
  · exact .inr ⟨g', cap, cur, e, hbb, by rw [hB.block g' (Array.getElem?_eq_some_iff.1 hgg).1]; exact hgg, rest⟩
theorem Fill.next {w w1 : World} {g : Nat} {ks : List (Int × List Nat)} {L : List Value} {k : Nat} (h : Fill w g ks L k) (hk : k < ks.length) (hB : Below w.heap.size w w1) (u : Value) (hu : Own w1 w.heap.size u ks[k].2) :
    Fill ((w1.setCell ⟨g, k * 2, none⟩ (.int .i64 ks[k].1)).setCell ⟨g, k * 2 + 1, none⟩ u) g ks ((L.set (k * 2) (.int .i64 ks[k].1)).set (k * 2 + 1) u) (k + 1) := by
  obtain ⟨hl, hr, hx⟩ := h
  have hg : g < w.heap.size := (World.ownsRow.lt hr g rfl).2
  have hr1 : w1.ownsRow g 28 2 (.slice (some ⟨g, 0, none⟩) ks.length ks.length) ks.length L := by
    refine ⟨hr.1, ?_⟩
    rcases hr.2 with hn | ⟨g', cap, cur, e, hbb, hgg, rest⟩
    · exact .inl hn
    · exact .inr ⟨g', cap, cur, e, hbb, by rw [hB.block g' (Array.getElem?_eq_some_iff.1 hgg).1]; exact hgg, rest⟩
  have s1 := (World.ownsRow.stored hr1 (k * 2) (.int .i64 ks[k].1)).1
  have s2 := (World.ownsRow.stored s1 (k * 2 + 1) u).1
  have keep : ∀ (x : Value) (l : List Nat), Own w1 (g + 1) x l → Own ((w1.setCell ⟨g, k * 2, none⟩ (.int .i64 ks[k].1)).setCell ⟨g, k * 2 + 1, none⟩ u) (g + 1) x l := fun x l hO =>
    ownsRow_setCell_below (ownsRow_setCell_below hO (a := ⟨g, k * 2, none⟩) (Nat.lt_succ_self g) _) (a := ⟨g, k * 2 + 1, none⟩) (Nat.lt_succ_self g) _
  refine ⟨by rw [List.length_set, List.length_set]; exact hl, s2, fun i hi hik => ?_⟩
  by_cases e : i = k
  · subst e
    refine ⟨⟨u, ?_, ?_, keep _ _ (hu.mono (by omega))⟩, fun j x x' a b hji e1 e2 ea eb => ?_⟩
    · rw [List.getElem?_set_ne (by omega), List.getElem?_set_self (by omega)]
    · rw [List.getElem?_set_self (by rw [List.length_set]; omega)]
    · rw [List.getElem?_set_ne (by omega), List.getElem?_set_ne (by omega)] at e1
      rw [List.getElem?_set_self (by rw [List.length_set]; omega)] at e2
      cases e2
      obtain ⟨⟨x2, -, q2, q3⟩, -⟩ := hx j (by omega) hji
      rw [q2] at e1
      cases e1
      have b1 := (World.ownsRow.lt q3 a ea).2
      have b2 := (World.ownsRow.lt hu b eb).1
      omega
  · obtain ⟨⟨u', h1, h2, h3⟩, h4⟩ := hx i hi (by omega)
    refine ⟨⟨u', ?_, ?_, keep _ _ (h3.below hB)⟩, fun j x x' a b hji e1 e2 ea eb => ?_⟩
    · rw [List.getElem?_set_ne (by omega), List.getElem?_set_ne (by omega)]; exact h1
    · rw [List.getElem?_set_ne (by omega), List.getElem?_set_ne (by omega)]; exact h2
    · rw [List.getElem?_set_ne (by omega), List.getElem?_set_ne (by omega)] at e1 e2
      exact h4 j x x' a b hji e1 e2 ea eb
theorem idx_ka (b o n c j : Nat) (hj : j < n) (w : World) : (Instr.indexAt 22 (.slice (some ⟨b, o, none⟩) n c) (.int .i64 (j : Int))).run Try.prog w = .ok (.pointer (some ⟨b, o + j * 2, none⟩)) w := by
  have hs : ∀ w : World, (sizeOf (Try.prog.elem 22)).run Try.prog w = .ok 2 w := fun _ => by kernel_rfl
  rw [run_indexAt_slice (P := Try.prog) w 22 _ n c .i64 (j : Int) (by kernel_rfl)]
  simp [hs, hj, Result.andThen, Addr.add_lit]
theorem idx_ki (b o n c j : Nat) (hj : j < n) (w : World) : (Instr.indexAt 32 (.slice (some ⟨b, o, none⟩) n c) (.int .i64 (j : Int))).run Try.prog w = .ok (.pointer (some ⟨b, o + j * 2, none⟩)) w := by
  have hs : ∀ w : World, (sizeOf (Try.prog.elem 32)).run Try.prog w = .ok 2 w := fun _ => by kernel_rfl
  rw [run_indexAt_slice (P := Try.prog) w 32 _ n c .i64 (j : Int) (by kernel_rfl)]
  simp [hs, hj, Result.andThen, Addr.add_lit]
theorem infoK : (Try.prog.info? 28).map (fun i => (i.zero, i.size, i.bytes)) = some (some (.agg #[.int .i64 0, .slice none 0 0]), 2, 32) := by kernel_rfl
set_option maxRecDepth 100000 in
theorem toKS (v : Value) (ks : List (Int × List Nat)) (w : World) (h : RdK w v ks) (hl : ks.length + tot ks ≤ 1048576) :
    Calls Try.prog 39 #[v] w fun e w' => ∃ L, e = .returned (.slice (some ⟨w.heap.size, 0, none⟩) ks.length ks.length) ∧ Fill w' w.heap.size ks L ks.length ∧ Below w.heap.size w w' := by
  have H := hid h
  obtain ⟨a, cap, rfl, hc, hm, -⟩ := h.parts
  clear h
  obtain ⟨i0, hi, hz0, hz1, hz2⟩ := info_parts infoK
  go_enter Try.func39, Try.ntmps39
  go_wp2_with (at_make; refine wpList_make_full _ rfl _ _ 32 rfl w.heap.size 28 i0 (.agg #[.int .i64 0, .slice none 0 0]) 2 Try.underlying32 hi hz0 hz1 .i64 .i64 _ _ ks.length rfl rfl rfl rfl (by rw [hz2]; omega) (by unfold maxLen; omega) (Nat.le_refl _) ?_)
  intro w0 hown0 hgrow0
  have F0 : Hid (Fill w0 w.heap.size ks (madeCells (Value.agg #[.int .i64 0, .slice none 0 0]).cells (ks.length * 2)).toList 0) := hid ⟨hown0.1, hown0, fun i _ h => absurd h (Nat.not_lt_zero i)⟩
  have B0 := hid (below_of_grown hgrow0 (Nat.le_refl _) (fun k hk => by simp at hk))
  clear hown0 hgrow0 hi hz0 hz1 hz2
  go_wp2_with fail
  go_loopw [4] (fun i wr => ∃ k : Nat, ∃ L : List Value, k ≤ ks.length ∧ i = .int .i64 k ∧ Hid (Fill wr w.heap.size ks L k) ∧ Hid (Below w.heap.size w wr)) (fun i _ => ks.length - (intOf i).toNat)
  case atStart => exact ⟨0, _, by omega, rfl, F0, B0⟩
  case round =>
    obtain ⟨k, L, hk, rfl, FL, BL⟩ := hrel
    clear F0 B0
    by_cases hlt : k < ks.length
    · obtain ⟨a', cap', e, -, -, hcs⟩ := (H.out.below BL.out).parts
      cases e
      obtain ⟨b, o, u, rfl, q1, q2, q3⟩ := hcs k hlt
      obtain ⟨pu, cu, rfl, -, -, -⟩ := q3.parts
      have RU := hid q3
      have hn : (ks[k]).2.length ≤ 1048576 := by have := tot_at ks k hlt; omega
      have I1 := idx_ka b o ks.length cap k hlt
      have I2 := idx_ki w.heap.size 0 ks.length ks.length k hlt
      rw [Nat.zero_add] at I2
      have k0 : (0 : Int) ≤ (k : Int) := by omega
      have k1 : (k : Int) < (ks.length : Int) := by omega
      clear q3 hcs
      go_wp2_with fail
      refine (toK _ _ _ _ RU.out hn).mono ?_
      rintro e w1 ⟨g', rfl, hO, hB⟩
      have FN := hid (FL.out.next hlt hB _ hO)
      have hr1 := (row_keepK FL.out.2.1 hB)
      obtain ⟨x0, c0⟩ : ∃ x, w1.cell? ⟨w.heap.size, k * 2, none⟩ = some x := ⟨_, (World.ownsRow.cellAt hr1 (k * 2) (by omega)).trans (List.getElem?_eq_getElem (by have := FL.out.1; omega))⟩
      obtain ⟨x1, c1⟩ : ∃ x, w1.cell? ⟨w.heap.size, k * 2 + 1, none⟩ = some x := ⟨_, (World.ownsRow.cellAt hr1 (k * 2 + 1) (by omega)).trans (List.getElem?_eq_getElem (by have := FL.out.1; omega))⟩
      have f0 := World.ownsRow.frozenAt hr1 (k * 2)
      have f1 := World.ownsRow.frozenAt hr1 (k * 2 + 1)
      have BN := hid (((BL.out.trans (hB.mono BL.out.size)).setCell (p := ⟨w.heap.size, k * 2, none⟩) (Nat.le_refl _) (.int .i64 ks[k].1)).setCell (p := ⟨w.heap.size, k * 2 + 1, none⟩) (Nat.le_refl _) (.slice (some ⟨g', 0, none⟩) (ks[k]).2.length (ks[k]).2.length))
      clear hr1 hO hB FL BL q1 q2 RU
      generalize (ks[k]).1 = id' at *
      generalize (ks[k]).2.length = n' at *
      go_wp2
      go_roundw
      case rel => exact ⟨k + 1, _, hlt, by go_num, FN, BN⟩
      case measure => simp [intOf]; omega
    · have hke : k = ks.length := by omega
      subst hke
      go_wp2
      go_ret
      exact ⟨L, rfl, FL.out, BL.out⟩
theorem Fill.low {w : World} {g k : Nat} {ks : List (Int × List Nat)} {L : List Value} (h : Fill w g ks L k) (a : Addr) (ha : a.block < g) (x : Value) : Fill (w.setCell a x) g ks L k :=
  ⟨h.1, ownsRow_setCell_below h.2.1 ha x, fun i hi hik => by
    obtain ⟨⟨u, h1, h2, h3⟩, h4⟩ := h.2.2 i hi hik
    exact ⟨⟨u, h1, h2, ownsRow_setCell_below h3 (show a.block < g + 1 by omega) x⟩, h4⟩⟩
theorem Fill.oks {w : World} {g : Nat} {ks : List (Int × List Nat)} {L : List Value} (h : Fill w g ks L ks.length) : OKs w g w.heap.size (.slice (some ⟨g, 0, none⟩) ks.length ks.length) ks := by
  refine ⟨L, h.2.1, fun g' e => (World.ownsRow.lt h.2.1 g' e).2, fun i hi => ?_, fun i j u u' a hij hj e1 e2 ea eb => ?_⟩
  · obtain ⟨⟨u, h1, h2, h3⟩, -⟩ := h.2.2 i hi hi
    refine ⟨u, h1, h2, OB.of (h3.x.mono (Nat.le_succ g)), fun b e he => ?_⟩
    have e2 : g = b := Option.some.inj he
    have := (World.ownsRow.lt h3 b e).1
    omega
  · exact absurd ((h.2.2 j hj hj).2 i u u' a a hij e1 e2 ea eb) (Nat.lt_irrefl a)
set_option maxRecDepth 100000 in
theorem toR (p : Int) (v : Value) (ks : List (Int × List Nat)) (w : World) (h : RdK w v ks) (hl : ks.length + tot ks ≤ 1048576) :
    Calls Try.prog 11 #[.agg #[.int .i64 p, v]] w fun e w' => ∃ g L, e = .returned (.agg #[.int .i64 p, .slice (some ⟨g, 0, none⟩) ks.length ks.length]) ∧ Fill w' g ks L ks.length ∧ w.heap.size ≤ g ∧ Below w.heap.size w w' := by
  have H := hid h
  obtain ⟨a, cap, rfl, -, -, -⟩ := h.parts
  clear h
  go_enter Try.func11, Try.ntmps11
  go_wp2_with fail
  have V1 : (((w.alloc (.cells #[.int .i64 p, .slice a ks.length cap] 24)).alloc (.cells #[.int .i64 0, .slice none 0 0] 34)).alloc (.cells #[.int .i64 p, .slice none 0 0] 34)).heap[w.heap.size + 1]? = some (.cells #[.int .i64 0, .slice none 0 0] 34) := by
    have h := var_alloc (.cells #[.int .i64 p, .slice none 0 0] 34) (heap_alloc_new (w.alloc (.cells #[.int .i64 p, .slice a ks.length cap] 24)) (.cells #[.int .i64 0, .slice none 0 0] 34))
    rw [World.size_alloc] at h
    exact h
  have V2 : (((w.alloc (.cells #[.int .i64 p, .slice a ks.length cap] 24)).alloc (.cells #[.int .i64 0, .slice none 0 0] 34)).alloc (.cells #[.int .i64 p, .slice none 0 0] 34)).heap[w.heap.size + 1 + 1]? = some (.cells #[.int .i64 p, .slice none 0 0] 34) := by
    have h := heap_alloc_new ((w.alloc (.cells #[.int .i64 p, .slice a ks.length cap] 24)).alloc (.cells #[.int .i64 0, .slice none 0 0] 34)) (.cells #[.int .i64 p, .slice none 0 0] 34)
    rw [World.size_alloc, World.size_alloc] at h
    exact h
  have B3 : Below w.heap.size w (((w.alloc (.cells #[.int .i64 p, .slice a ks.length cap] 24)).alloc (.cells #[.int .i64 0, .slice none 0 0] 34)).alloc (.cells #[.int .i64 p, .slice none 0 0] 34)) := (((Below.refl _ _).alloc (Nat.le_refl _) _).alloc (by simp) _).alloc (by simp; omega) _
  have Z3 : w.heap.size + 1 + 1 < (((w.alloc (.cells #[.int .i64 p, .slice a ks.length cap] 24)).alloc (.cells #[.int .i64 0, .slice none 0 0] 34)).alloc (.cells #[.int .i64 p, .slice none 0 0] 34)).heap.size := by simp
  replace H := hid (H.out.below B3)
  generalize (((w.alloc (.cells #[.int .i64 p, .slice a ks.length cap] 24)).alloc (.cells #[.int .i64 0, .slice none 0 0] 34)).alloc (.cells #[.int .i64 p, .slice none 0 0] 34)) = w3 at *
  refine (toKS _ ks _ H.out hl).mono ?_
  rintro e w4 ⟨L, rfl, O4, hB⟩
  replace V1 := var_below hB V1
  replace V2 := var_below hB V2
  replace B3 := B3.trans (hB.mono B3.size)
  clear hB H
  have G3 : w.heap.size ≤ w3.heap.size := by omega
  generalize w3.heap.size = g3 at *
  obtain ⟨n, hn⟩ : ∃ n, n = ks.length := ⟨_, rfl⟩
  rw [← hn]
  replace hn := hid hn
  have V1' := cellsK (s := .slice (some ⟨g3, 0, none⟩) n n) (g' := w.heap.size + 1 + 1) V1 (by omega)
  have V2' := cellsS (y' := .slice (some ⟨g3, 0, none⟩) n n) V2
  have O5 := O4.low ⟨w.heap.size + 1 + 1, 1, none⟩ (by show w.heap.size + 1 + 1 < g3; omega) (.slice (some ⟨g3, 0, none⟩) n n)
  have B5 := B3.setCell (p := ⟨w.heap.size + 1 + 1, 1, none⟩) (by show w.heap.size ≤ w.heap.size + 1 + 1; omega) (.slice (some ⟨g3, 0, none⟩) n n)
  obtain ⟨d0, d1, d2, d3⟩ := var2_facts V2
  obtain ⟨e0, e1, -, -⟩ := var2_facts V2'
  obtain ⟨f0, f1, f2, f3⟩ := var2_facts V1'
  have HS := hid (var2_set (x' := .int .i64 p) (y' := .slice (some ⟨g3, 0, none⟩) n n) V1')
  have HB := hid (below_set2 (x := .int .i64 p) (y := .slice (some ⟨g3, 0, none⟩) n n) (g := w.heap.size + 1) B5 (by omega))
  have HO := hid ((O5.low ⟨w.heap.size + 1, 0, none⟩ (by show w.heap.size + 1 < g3; omega) (.int .i64 p)).low ⟨w.heap.size + 1, 1, none⟩ (by show w.heap.size + 1 < g3; omega) (.slice (some ⟨g3, 0, none⟩) n n))
  clear V1 V2 V1' V2' O4 O5 B3 B5
  go_wp2
  refine bodyPost_ret (v := .agg #[.int .i64 p, .slice (some ⟨g3, 0, none⟩) n n]) (results_cell_row rfl _ _ (w.heap.size + 1) 34 _ _ _ rfl HS.out Try.underlying34 rfl (by kernel_rfl)) rfl ?_
  have HN := hn.out
  subst HN
  exact ⟨g3, L, rfl, HO.out, G3, HB.out⟩

theorem toRo (p : Int) (v : Value) (ks : List (Int × List Nat)) (w : World) (h : RdK w v ks) (hl : ks.length + tot ks ≤ 1048576) :
    Calls Try.prog 11 #[.agg #[.int .i64 p, v]] w fun e w' => ∃ g, e = .returned (.agg #[.int .i64 p, .slice (some ⟨g, 0, none⟩) ks.length ks.length]) ∧ OKs w' w.heap.size w'.heap.size (.slice (some ⟨g, 0, none⟩) ks.length ks.length) ks ∧ Below w.heap.size w w' :=
  (toR p v ks w h hl).mono fun _ _ ⟨g, _, he, hF, hg, hB⟩ => ⟨g, he, hF.oks.mono hg (Nat.le_refl _), hB⟩
end Go.Proofs.Ytmamdbmkjipahaj.W
