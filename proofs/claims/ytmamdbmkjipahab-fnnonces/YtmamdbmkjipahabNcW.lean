/-
  Nonces and heads: what NonceOf and HeadOf of the model and of the program answer.
-/
import Derived.Test.YtmamdbmkjipahabEnvI
namespace Go.Proofs.Ytmamdbmkjipahab.W
open Go.ChangeShapes Go.WideShapes Go.ChangeAt Go.RowKit
open Go.Proofs.Ytmamdbmkjipahab.M

set_option maxHeartbeats 1000000 in
set_option maxRecDepth 100000 in
theorem snc_ok (s c : Nat) (w : World) (hs : s ≤ 15) (hc : c ≤ 1000000000) :
    Calls Try.prog 48 #[.int .i64 (s : Int), .int .i64 (c : Int)] w fun e w' => ∃ v, e = .returned (.agg #[.int .i64 0, v]) ∧ Own w' w.heap.size v (nonceL s c) ∧ Below w.heap.size w w' := by
  have Y := hid (show hOk 1 (s : Int) (c : Int) from ⟨by omega, by omega, by omega⟩)
  go_enter Try.func48, Try.ntmps48
  go_wp2_with fail
  have VL := hid (heap_alloc2_new w (.cells #[.int .i64 0, .slice none 0 0] 27) (.cells #[.int .i64 1, .int .i64 (s : Int), .int .i64 (c : Int), .slice none 0 0] 68))
  have V0 := hid (heap_alloc2_old w (.cells #[.int .i64 0, .slice none 0 0] 27) (.cells #[.int .i64 1, .int .i64 (s : Int), .int .i64 (c : Int), .slice none 0 0] 68))
  have B1 := hid (below_alloc2 w (.cells #[.int .i64 0, .slice none 0 0] 27) (.cells #[.int .i64 1, .int .i64 (s : Int), .int .i64 (c : Int), .slice none 0 0] 68))
  generalize (w.alloc (.cells #[.int .i64 0, .slice none 0 0] 27)).alloc (.cells #[.int .i64 1, .int .i64 (s : Int), .int .i64 (c : Int), .slice none 0 0] 68) = w0 at *
  refine (l5head _ _ _ _ _ _ VL.out).mono ?_
  rintro e w1 ⟨b, rfl, hy, hn, hB⟩
  obtain rfl := hy Y.out
  clear hy hn
  replace V0 := hid (var_below hB V0.out)
  replace VL := hid (var_below hB VL.out)
  replace B1 := hid (B1.out.trans (hB.mono B1.out.size))
  clear hB
  have GS := hid (show w.heap.size < w1.heap.size from var_lt V0.out)
  go_wp2_with fail
  refine (l5nonce s c _ hs hc).mono ?_
  rintro e w2 ⟨v, rfl, hO, hB⟩
  obtain ⟨pv, kv, rfl, -, -, -⟩ := hO.rd.parts
  obtain ⟨n, hn⟩ : ∃ n, n = (nonceL s c).length := ⟨_, rfl⟩
  rw [← hn] at hO ⊢
  replace hn := hid hn
  replace V0 := hid (var_below hB V0.out)
  replace B1 := hid (B1.out.trans (hB.mono B1.out.size))
  have O1 := hid hO
  have GL := hid (show w.heap.size < w1.heap.size from GS.out)
  clear hO hB
  obtain ⟨f1, f2, f3, f4⟩ := var2_facts V0.out
  have hset := hid (var2_set (x' := .int .i64 0) (y' := .slice pv n kv) V0.out)
  have hbel := hid (below_set2 (x := .int .i64 0) (y := .slice pv n kv) B1.out (Nat.le_refl _))
  have hown := hid ((O1.out.set2 (g := w.heap.size) (x := .int .i64 0) (y := .slice pv n kv) GL.out).mono (base' := w.heap.size) (Nat.le_of_lt GL.out))
  go_wp2
  exact bodyPost_ret (v := .agg #[.int .i64 0, .slice pv n kv]) (results_cell_row rfl _ _ w.heap.size 27 _ _ _ rfl hset.out Try.underlying27 rfl (by kernel_rfl)) rfl ⟨_, rfl, hown.out, hbel.out⟩
set_option maxHeartbeats 1000000 in
set_option maxRecDepth 100000 in
theorem snc_bad (s c : Int) (w : World) (hN : ¬ hOk 1 s c) :
    Calls Try.prog 48 #[.int .i64 s, .int .i64 c] w fun e w' => e = .returned (.agg #[.int .i64 3, .slice none 0 0]) ∧ Below w.heap.size w w' := by
  go_enter Try.func48, Try.ntmps48
  go_wp2_with fail
  have VL := hid (heap_alloc2_new w (.cells #[.int .i64 0, .slice none 0 0] 27) (.cells #[.int .i64 1, .int .i64 s, .int .i64 c, .slice none 0 0] 68))
  have V0 := hid (heap_alloc2_old w (.cells #[.int .i64 0, .slice none 0 0] 27) (.cells #[.int .i64 1, .int .i64 s, .int .i64 c, .slice none 0 0] 68))
  have B1 := hid (below_alloc2 w (.cells #[.int .i64 0, .slice none 0 0] 27) (.cells #[.int .i64 1, .int .i64 s, .int .i64 c, .slice none 0 0] 68))
  generalize (w.alloc (.cells #[.int .i64 0, .slice none 0 0] 27)).alloc (.cells #[.int .i64 1, .int .i64 s, .int .i64 c, .slice none 0 0] 68) = w0 at *
  refine (l5head _ _ _ _ _ _ VL.out).mono ?_
  rintro e w1 ⟨b, rfl, hy, hn, hB⟩
  obtain rfl := hn hN
  clear hy hn
  replace V0 := hid (var_below hB V0.out)
  replace VL := hid (var_below hB VL.out)
  replace B1 := hid (B1.out.trans (hB.mono B1.out.size))
  clear hB
  replace B1 := B1.out
  obtain ⟨f1, f2, f3, f4⟩ := var2_facts V0.out
  have hset := hid (var2_set (x' := .int .i64 3) (y' := .slice none 0 0) V0.out)
  have hbel := hid (below_set2 (x := .int .i64 3) (y := .slice none 0 0) B1 (Nat.le_refl _))
  clear B1
  go_wp2
  exact bodyPost_ret (v := .agg #[.int .i64 3, .slice none 0 0]) (results_cell_row rfl _ _ w.heap.size 27 _ _ _ rfl hset.out Try.underlying27 rfl (by kernel_rfl)) rfl ⟨rfl, hbel.out⟩
set_option maxHeartbeats 1000000 in
set_option maxRecDepth 100000 in
theorem sho_ok (k s c : Nat) (w : World) (hs : s ≤ 15) (hc : c ≤ 1000000000) (hk1 : 1 ≤ k) (hk : k ≤ 255) :
    Calls Try.prog 49 #[.int .i64 (k : Int), .int .i64 (s : Int), .int .i64 (c : Int)] w fun e w' => ∃ v, e = .returned (.agg #[.int .i64 0, v]) ∧ Own w' w.heap.size v (headL k s c) ∧ Below w.heap.size w w' := by
  have Y := hid (show hOk (k : Int) (s : Int) (c : Int) from ⟨by omega, by omega, by omega⟩)
  go_enter Try.func49, Try.ntmps49
  go_wp2_with fail
  have VL := hid (heap_alloc2_new w (.cells #[.int .i64 0, .slice none 0 0] 27) (.cells #[.int .i64 (k : Int), .int .i64 (s : Int), .int .i64 (c : Int), .slice none 0 0] 68))
  have V0 := hid (heap_alloc2_old w (.cells #[.int .i64 0, .slice none 0 0] 27) (.cells #[.int .i64 (k : Int), .int .i64 (s : Int), .int .i64 (c : Int), .slice none 0 0] 68))
  have B1 := hid (below_alloc2 w (.cells #[.int .i64 0, .slice none 0 0] 27) (.cells #[.int .i64 (k : Int), .int .i64 (s : Int), .int .i64 (c : Int), .slice none 0 0] 68))
  generalize (w.alloc (.cells #[.int .i64 0, .slice none 0 0] 27)).alloc (.cells #[.int .i64 (k : Int), .int .i64 (s : Int), .int .i64 (c : Int), .slice none 0 0] 68) = w0 at *
  refine (l5head _ _ _ _ _ _ VL.out).mono ?_
  rintro e w1 ⟨b, rfl, hy, hn, hB⟩
  obtain rfl := hy Y.out
  clear hy hn
  replace V0 := hid (var_below hB V0.out)
  replace VL := hid (var_below hB VL.out)
  replace B1 := hid (B1.out.trans (hB.mono B1.out.size))
  clear hB
  have GS := hid (show w.heap.size < w1.heap.size from var_lt V0.out)
  go_wp2_with fail
  refine (l5headof k s c _ _ _ VL.out hk hs hc).mono ?_
  rintro e w2 ⟨v, rfl, hO, hB⟩
  obtain ⟨pv, kv, rfl, -, -, -⟩ := hO.rd.parts
  obtain ⟨n, hn⟩ : ∃ n, n = (headL k s c).length := ⟨_, rfl⟩
  rw [← hn] at hO ⊢
  replace hn := hid hn
  replace V0 := hid (var_below hB V0.out)
  replace B1 := hid (B1.out.trans (hB.mono B1.out.size))
  have O1 := hid hO
  have GL := hid (show w.heap.size < w1.heap.size from GS.out)
  clear hO hB
  obtain ⟨f1, f2, f3, f4⟩ := var2_facts V0.out
  have hset := hid (var2_set (x' := .int .i64 0) (y' := .slice pv n kv) V0.out)
  have hbel := hid (below_set2 (x := .int .i64 0) (y := .slice pv n kv) B1.out (Nat.le_refl _))
  have hown := hid ((O1.out.set2 (g := w.heap.size) (x := .int .i64 0) (y := .slice pv n kv) GL.out).mono (base' := w.heap.size) (Nat.le_of_lt GL.out))
  go_wp2
  exact bodyPost_ret (v := .agg #[.int .i64 0, .slice pv n kv]) (results_cell_row rfl _ _ w.heap.size 27 _ _ _ rfl hset.out Try.underlying27 rfl (by kernel_rfl)) rfl ⟨_, rfl, hown.out, hbel.out⟩
set_option maxHeartbeats 1000000 in
set_option maxRecDepth 100000 in
theorem sho_bad (k s c : Int) (w : World) (hN : ¬ hOk k s c) :
    Calls Try.prog 49 #[.int .i64 k, .int .i64 s, .int .i64 c] w fun e w' => e = .returned (.agg #[.int .i64 3, .slice none 0 0]) ∧ Below w.heap.size w w' := by
  go_enter Try.func49, Try.ntmps49
  go_wp2_with fail
  have VL := hid (heap_alloc2_new w (.cells #[.int .i64 0, .slice none 0 0] 27) (.cells #[.int .i64 k, .int .i64 s, .int .i64 c, .slice none 0 0] 68))
  have V0 := hid (heap_alloc2_old w (.cells #[.int .i64 0, .slice none 0 0] 27) (.cells #[.int .i64 k, .int .i64 s, .int .i64 c, .slice none 0 0] 68))
  have B1 := hid (below_alloc2 w (.cells #[.int .i64 0, .slice none 0 0] 27) (.cells #[.int .i64 k, .int .i64 s, .int .i64 c, .slice none 0 0] 68))
  generalize (w.alloc (.cells #[.int .i64 0, .slice none 0 0] 27)).alloc (.cells #[.int .i64 k, .int .i64 s, .int .i64 c, .slice none 0 0] 68) = w0 at *
  refine (l5head _ _ _ _ _ _ VL.out).mono ?_
  rintro e w1 ⟨b, rfl, hy, hn, hB⟩
  obtain rfl := hn hN
  clear hy hn
  replace V0 := hid (var_below hB V0.out)
  replace VL := hid (var_below hB VL.out)
  replace B1 := hid (B1.out.trans (hB.mono B1.out.size))
  clear hB
  replace B1 := B1.out
  obtain ⟨f1, f2, f3, f4⟩ := var2_facts V0.out
  have hset := hid (var2_set (x' := .int .i64 3) (y' := .slice none 0 0) V0.out)
  have hbel := hid (below_set2 (x := .int .i64 3) (y := .slice none 0 0) B1 (Nat.le_refl _))
  clear B1
  go_wp2
  exact bodyPost_ret (v := .agg #[.int .i64 3, .slice none 0 0]) (results_cell_row rfl _ _ w.heap.size 27 _ _ _ rfl hset.out Try.underlying27 rfl (by kernel_rfl)) rfl ⟨rfl, hbel.out⟩
set_option maxHeartbeats 1000000 in
set_option maxRecDepth 100000 in
theorem inc_ok (s c : Nat) (w : World) (hs : s ≤ 15) (hc : c ≤ 1000000000) :
    Calls Try.prog 45 #[.int .i64 (s : Int), .int .i64 (c : Int)] w fun e w' => ∃ v, e = .returned (.agg #[.int .i64 0, v]) ∧ Own w' w.heap.size v (nonceL s c) ∧ Below w.heap.size w w' := by
  have Y := hid (show mOk (s : Int) (c : Int) from ⟨by omega, by omega⟩)
  go_enter Try.func45, Try.ntmps45
  go_wp2_with fail
  have VL := hid (heap_alloc2_new w (.cells #[.int .i64 0, .slice none 0 0] 27) (.cells #[.int .i64 (s : Int), .int .i64 (c : Int)] 133))
  have V0 := hid (heap_alloc2_old w (.cells #[.int .i64 0, .slice none 0 0] 27) (.cells #[.int .i64 (s : Int), .int .i64 (c : Int)] 133))
  have B1 := hid (below_alloc2 w (.cells #[.int .i64 0, .slice none 0 0] 27) (.cells #[.int .i64 (s : Int), .int .i64 (c : Int)] 133))
  generalize (w.alloc (.cells #[.int .i64 0, .slice none 0 0] 27)).alloc (.cells #[.int .i64 (s : Int), .int .i64 (c : Int)] 133) = w0 at *
  refine (imark _ _ _).mono ?_
  rintro e w1 ⟨rfl, hB⟩
  rw [mark_yes Y.out]
  replace V0 := hid (var_below hB V0.out)
  replace VL := hid (var_below hB VL.out)
  replace B1 := hid (B1.out.trans (hB.mono B1.out.size))
  clear hB
  have m0 : w1.cell? ⟨w.heap.size + 1, 0, none⟩ = some (.int .i64 (s : Int)) := by rw [cell_of_row w1 _ 0 _ _ _ VL.out]; rfl
  have m1 : w1.cell? ⟨w.heap.size + 1, 1, none⟩ = some (.int .i64 (c : Int)) := by rw [cell_of_row w1 _ 1 _ _ _ VL.out]; rfl
  have GS := hid (show w.heap.size < w1.heap.size from var_lt V0.out)
  go_wp2_with fail
  refine (inonce s c _ hs hc).mono ?_
  rintro e w2 ⟨v, rfl, hO, hB⟩
  clear m0 m1
  obtain ⟨pv, kv, rfl, -, -, -⟩ := hO.rd.parts
  obtain ⟨n, hn⟩ : ∃ n, n = (nonceL s c).length := ⟨_, rfl⟩
  rw [← hn] at hO ⊢
  replace hn := hid hn
  replace V0 := hid (var_below hB V0.out)
  replace B1 := hid (B1.out.trans (hB.mono B1.out.size))
  have O1 := hid hO
  have GL := hid (show w.heap.size < w1.heap.size from GS.out)
  clear hO hB
  obtain ⟨f1, f2, f3, f4⟩ := var2_facts V0.out
  have hset := hid (var2_set (x' := .int .i64 0) (y' := .slice pv n kv) V0.out)
  have hbel := hid (below_set2 (x := .int .i64 0) (y := .slice pv n kv) B1.out (Nat.le_refl _))
  have hown := hid ((O1.out.set2 (g := w.heap.size) (x := .int .i64 0) (y := .slice pv n kv) GL.out).mono (base' := w.heap.size) (Nat.le_of_lt GL.out))
  go_wp2
  exact bodyPost_ret (v := .agg #[.int .i64 0, .slice pv n kv]) (results_cell_row rfl _ _ w.heap.size 27 _ _ _ rfl hset.out Try.underlying27 rfl (by kernel_rfl)) rfl ⟨_, rfl, hown.out, hbel.out⟩
set_option maxHeartbeats 1000000 in
set_option maxRecDepth 100000 in
theorem inc_bad (s c : Int) (w : World) (hN : ¬ mOk s c) :
    Calls Try.prog 45 #[.int .i64 s, .int .i64 c] w fun e w' => e = .returned (.agg #[.int .i64 3, .slice none 0 0]) ∧ Below w.heap.size w w' := by
  go_enter Try.func45, Try.ntmps45
  go_wp2_with fail
  have VL := hid (heap_alloc2_new w (.cells #[.int .i64 0, .slice none 0 0] 27) (.cells #[.int .i64 s, .int .i64 c] 133))
  have V0 := hid (heap_alloc2_old w (.cells #[.int .i64 0, .slice none 0 0] 27) (.cells #[.int .i64 s, .int .i64 c] 133))
  have B1 := hid (below_alloc2 w (.cells #[.int .i64 0, .slice none 0 0] 27) (.cells #[.int .i64 s, .int .i64 c] 133))
  generalize (w.alloc (.cells #[.int .i64 0, .slice none 0 0] 27)).alloc (.cells #[.int .i64 s, .int .i64 c] 133) = w0 at *
  refine (imark _ _ _).mono ?_
  rintro e w1 ⟨rfl, hB⟩
  rw [mark_no hN]
  replace V0 := hid (var_below hB V0.out)
  replace VL := hid (var_below hB VL.out)
  replace B1 := hid (B1.out.trans (hB.mono B1.out.size))
  clear hB
  replace B1 := B1.out
  obtain ⟨f1, f2, f3, f4⟩ := var2_facts V0.out
  have hset := hid (var2_set (x' := .int .i64 3) (y' := .slice none 0 0) V0.out)
  have hbel := hid (below_set2 (x := .int .i64 3) (y := .slice none 0 0) B1 (Nat.le_refl _))
  clear B1
  go_wp2
  exact bodyPost_ret (v := .agg #[.int .i64 3, .slice none 0 0]) (results_cell_row rfl _ _ w.heap.size 27 _ _ _ rfl hset.out Try.underlying27 rfl (by kernel_rfl)) rfl ⟨rfl, hbel.out⟩
set_option maxHeartbeats 1000000 in
set_option maxRecDepth 100000 in
theorem iho_ok (k s c : Nat) (w : World) (hs : s ≤ 15) (hc : c ≤ 1000000000) (hk1 : 1 ≤ k) (hk : k ≤ 255) :
    Calls Try.prog 47 #[.int .i64 (k : Int), .int .i64 (s : Int), .int .i64 (c : Int)] w fun e w' => ∃ v, e = .returned (.agg #[.int .i64 0, v]) ∧ Own w' w.heap.size v (headL k s c) ∧ Below w.heap.size w w' := by
  have Y := hid (show hOk (k : Int) (s : Int) (c : Int) from ⟨by omega, by omega, by omega⟩)
  go_enter Try.func47, Try.ntmps47
  go_wp2_with fail
  have VL := hid (heap_alloc2_new w (.cells #[.int .i64 0, .slice none 0 0] 27) (.cells #[.int .i64 (s : Int), .int .i64 (c : Int), .int .i64 (k : Int)] 137))
  have V0 := hid (heap_alloc2_old w (.cells #[.int .i64 0, .slice none 0 0] 27) (.cells #[.int .i64 (s : Int), .int .i64 (c : Int), .int .i64 (k : Int)] 137))
  have B1 := hid (below_alloc2 w (.cells #[.int .i64 0, .slice none 0 0] 27) (.cells #[.int .i64 (s : Int), .int .i64 (c : Int), .int .i64 (k : Int)] 137))
  generalize (w.alloc (.cells #[.int .i64 0, .slice none 0 0] 27)).alloc (.cells #[.int .i64 (s : Int), .int .i64 (c : Int), .int .i64 (k : Int)] 137) = w0 at *
  refine (iright _ _ _ _).mono ?_
  rintro e w1 ⟨b, rfl, hy, hn, hB⟩
  obtain rfl := hy Y.out
  clear hy hn
  replace V0 := hid (var_below hB V0.out)
  replace VL := hid (var_below hB VL.out)
  replace B1 := hid (B1.out.trans (hB.mono B1.out.size))
  clear hB
  have m0 : w1.cell? ⟨w.heap.size + 1, 0, none⟩ = some (.int .i64 (s : Int)) := by rw [cell_of_row w1 _ 0 _ _ _ VL.out]; rfl
  have m1 : w1.cell? ⟨w.heap.size + 1, 1, none⟩ = some (.int .i64 (c : Int)) := by rw [cell_of_row w1 _ 1 _ _ _ VL.out]; rfl
  have m2 : w1.cell? ⟨w.heap.size + 1, 2, none⟩ = some (.int .i64 (k : Int)) := by rw [cell_of_row w1 _ 2 _ _ _ VL.out]; rfl
  have GS := hid (show w.heap.size < w1.heap.size from var_lt V0.out)
  go_wp2_with fail
  refine (ipacked k s c _ hk hs hc).mono ?_
  rintro e w2 ⟨v, rfl, hO, hB⟩
  clear m0 m1 m2
  obtain ⟨pv, kv, rfl, -, -, -⟩ := hO.rd.parts
  obtain ⟨n, hn⟩ : ∃ n, n = (headL k s c).length := ⟨_, rfl⟩
  rw [← hn] at hO ⊢
  replace hn := hid hn
  replace V0 := hid (var_below hB V0.out)
  replace B1 := hid (B1.out.trans (hB.mono B1.out.size))
  have O1 := hid hO
  have GL := hid (show w.heap.size < w1.heap.size from GS.out)
  clear hO hB
  obtain ⟨f1, f2, f3, f4⟩ := var2_facts V0.out
  have hset := hid (var2_set (x' := .int .i64 0) (y' := .slice pv n kv) V0.out)
  have hbel := hid (below_set2 (x := .int .i64 0) (y := .slice pv n kv) B1.out (Nat.le_refl _))
  have hown := hid ((O1.out.set2 (g := w.heap.size) (x := .int .i64 0) (y := .slice pv n kv) GL.out).mono (base' := w.heap.size) (Nat.le_of_lt GL.out))
  go_wp2
  exact bodyPost_ret (v := .agg #[.int .i64 0, .slice pv n kv]) (results_cell_row rfl _ _ w.heap.size 27 _ _ _ rfl hset.out Try.underlying27 rfl (by kernel_rfl)) rfl ⟨_, rfl, hown.out, hbel.out⟩
set_option maxHeartbeats 1000000 in
set_option maxRecDepth 100000 in
theorem iho_bad (k s c : Int) (w : World) (hN : ¬ hOk k s c) :
    Calls Try.prog 47 #[.int .i64 k, .int .i64 s, .int .i64 c] w fun e w' => e = .returned (.agg #[.int .i64 3, .slice none 0 0]) ∧ Below w.heap.size w w' := by
  go_enter Try.func47, Try.ntmps47
  go_wp2_with fail
  have VL := hid (heap_alloc2_new w (.cells #[.int .i64 0, .slice none 0 0] 27) (.cells #[.int .i64 s, .int .i64 c, .int .i64 k] 137))
  have V0 := hid (heap_alloc2_old w (.cells #[.int .i64 0, .slice none 0 0] 27) (.cells #[.int .i64 s, .int .i64 c, .int .i64 k] 137))
  have B1 := hid (below_alloc2 w (.cells #[.int .i64 0, .slice none 0 0] 27) (.cells #[.int .i64 s, .int .i64 c, .int .i64 k] 137))
  generalize (w.alloc (.cells #[.int .i64 0, .slice none 0 0] 27)).alloc (.cells #[.int .i64 s, .int .i64 c, .int .i64 k] 137) = w0 at *
  refine (iright _ _ _ _).mono ?_
  rintro e w1 ⟨b, rfl, hy, hn, hB⟩
  obtain rfl := hn hN
  clear hy hn
  replace V0 := hid (var_below hB V0.out)
  replace VL := hid (var_below hB VL.out)
  replace B1 := hid (B1.out.trans (hB.mono B1.out.size))
  clear hB
  replace B1 := B1.out
  obtain ⟨f1, f2, f3, f4⟩ := var2_facts V0.out
  have hset := hid (var2_set (x' := .int .i64 3) (y' := .slice none 0 0) V0.out)
  have hbel := hid (below_set2 (x := .int .i64 3) (y := .slice none 0 0) B1 (Nat.le_refl _))
  clear B1
  go_wp2
  exact bodyPost_ret (v := .agg #[.int .i64 3, .slice none 0 0]) (results_cell_row rfl _ _ w.heap.size 27 _ _ _ rfl hset.out Try.underlying27 rfl (by kernel_rfl)) rfl ⟨rfl, hbel.out⟩
end Go.Proofs.Ytmamdbmkjipahab.W
