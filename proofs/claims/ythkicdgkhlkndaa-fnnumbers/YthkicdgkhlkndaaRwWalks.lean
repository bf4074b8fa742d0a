/-
  Numbers out of bytes: ReadWord of the model and of the program.
-/
import Derived.Test.YthkicdgkhlkndaaInWalks
import Derived.Test.YthkicdgkhlkndaaRead
namespace Go.Proofs.Ythkicdgkhlkndaa.W
open Go.ChangeShapes Go.WideShapes Go.ChangeAt Go.RowKit
open Go.Proofs.Ythkicdgkhlkndaa.M

set_option maxRecDepth 100000 in
theorem l1read (v : Value) (l : List Nat) (a s : Nat) (w : World) (h : Rd w v l) (y : Byt l) (hs : s ≤ 8) (ha : a + s ≤ l.length) (hf : ¬ (s = 8 ∧ 127 < l.getD a 0)) (hm : l.length ≤ 1048576) :
    Calls Try.prog 37 #[v, .int .i64 (a : Int), .int .i64 (s : Int)] w fun e w' => e = .returned (.int .i64 (vt l a s : Nat)) ∧ w' = w := by
  obtain ⟨p, cap, rfl, _, _, hcs⟩ := h.parts
  have HC := hid hcs
  have HF := hid hf
  clear h hcs hf
  go_enter Try.func37, Try.ntmps37
  go_wp2
  go_loop [7, 8] (fun n i => ∃ k : Nat, k ≤ s ∧ i = .int .i64 k ∧ n = .int .i64 (vt l a k : Nat)) (fun _ i => s - (intOf i).toNat)
  case atStart => exact ⟨0, by omega, rfl, rfl⟩
  case round =>
    obtain ⟨k, hk, rfl, rfl⟩ := hrel
    by_cases hlt : k < s
    · obtain ⟨b, o, rfl, hc⟩ := HC.out (a + k) (by omega)
      have E1 := hid (show vt l a (k + 1) = vt l a k * 256 + l[a + k]'(by omega) by rw [vt, getD_at])
      have b1 : vt l a (k + 1) < 9223372036854775808 := vt_fits l y a (k + 1) (by omega) (fun q => HF.out ⟨by omega, q.2⟩)
      rw [E1.out] at b1
      have b2 := y.at (a + k) (by omega)
      unfold bv at hc
      generalize l[a + k] = x at *
      generalize vt l a k = n at *
      clear HC
      go_wp2
      exact ⟨⟨k + 1, by omega, by go_num, by rw [E1.out]; go_num⟩, by simp [intOf]; omega⟩
    · have hk8 : k = s := by omega
      subst hk8
      go_wp2
      go_ret
      exact ⟨rfl, rfl⟩

set_option maxRecDepth 100000 in
theorem srw_bad (v : Value) (l : List Nat) (a s : Int) (w : World) (h : Rd w v l) (hr : rdOk l a s = false) (hm : l.length ≤ 1048576) (hs1 : -9223372036854775808 ≤ s) (hs2 : s ≤ 9223372036854775807) :
    Calls Try.prog 22 #[v, .int .i64 a, .int .i64 s] w fun e w' => e = .returned (.agg #[.int .i64 3, .int .i64 0]) ∧ Below w.heap.size w w' := by
  obtain ⟨p, cap, rfl, _, _, _⟩ := h.parts
  simp only [rdOk, decide_eq_false_iff_not] at hr
  by_cases c1 : 1 ≤ s ∧ s ≤ 8
  · have hin : inB s 1 8 = true := by unfold inB; exact decide_eq_true c1
    have hlo := c1.1
    have hhi := c1.2
    by_cases c2 : a < 0
    · clear hr h hs1 hs2 c1
      go_enter Try.func22, Try.ntmps22
      go_wp2_with (go_at_call 35; refine (l1in _ _ _ _).mono ?_; rintro e w' ⟨rfl, rfl⟩)
      exact bodyPost_ret (v := .agg #[.int .i64 3, .int .i64 0]) (by simp [results, Try.results22, go_sem]) rfl ⟨rfl, below_alloc1 w _⟩
    · have c3 : (l.length : Int) - s < a := by omega
      clear hr h hs1 hs2 c1
      go_enter Try.func22, Try.ntmps22
      go_wp2_with (go_at_call 35; refine (l1in _ _ _ _).mono ?_; rintro e w' ⟨rfl, rfl⟩)
      exact bodyPost_ret (v := .agg #[.int .i64 3, .int .i64 0]) (by simp [results, Try.results22, go_sem]) rfl ⟨rfl, below_alloc1 w _⟩
  · have hin : inB s 1 8 = false := by unfold inB; exact decide_eq_false c1
    clear hr h c1 hs1 hs2
    go_enter Try.func22, Try.ntmps22
    go_wp2_with (go_at_call 35; refine (l1in _ _ _ _).mono ?_; rintro e w' ⟨rfl, rfl⟩)
    exact bodyPost_ret (v := .agg #[.int .i64 3, .int .i64 0]) (by simp [results, Try.results22, go_sem]) rfl ⟨rfl, below_alloc1 w _⟩

set_option maxRecDepth 100000 in
theorem srw_form (v : Value) (l : List Nat) (a : Nat) (w : World) (h : Rd w v l) (ha : a + 8 ≤ l.length) (hf : 127 < l.getD a 0) (hm : l.length ≤ 1048576) :
    Calls Try.prog 22 #[v, .int .i64 (a : Int), .int .i64 8] w fun e w' => e = .returned (.agg #[.int .i64 1, .int .i64 0]) ∧ Below w.heap.size w w' := by
  obtain ⟨p, cap, rfl, _, _, hcs⟩ := h.parts
  obtain ⟨b, o, rfl, hc⟩ := hcs a (by omega)
  rw [getD_at l a (by omega)] at hf
  have hin : inB 8 1 8 = true := by decide
  have hbk := World.block_lt_of_cell? w _ hc
  simp only at hbk
  unfold bv at hc
  generalize l[a] = x at *
  have hf' : (127 : Int) < (x : Int) := by omega
  have ha' : ¬ ((l.length : Int) - 8 < (a : Int)) := by omega
  clear h hcs
  go_enter Try.func22, Try.ntmps22
  go_wp2_with (go_at_call 35; refine (l1in _ _ _ _).mono ?_; rintro e w' ⟨rfl, rfl⟩)
  exact bodyPost_ret (v := .agg #[.int .i64 1, .int .i64 0]) (by simp [results, Try.results22, go_sem]) rfl ⟨rfl, below_alloc1 w _⟩

set_option maxRecDepth 100000 in
theorem srw_ok (v : Value) (l : List Nat) (a s : Nat) (w : World) (h : Rd w v l) (y : Byt l) (hs1 : 1 ≤ s) (hs : s ≤ 8) (ha : a + s ≤ l.length) (hf : ¬ (s = 8 ∧ 127 < l.getD a 0)) (hm : l.length ≤ 1048576) :
    Calls Try.prog 22 #[v, .int .i64 (a : Int), .int .i64 (s : Int)] w fun e w' => e = .returned (.agg #[.int .i64 0, .int .i64 (vt l a s : Nat)]) ∧ Below w.heap.size w w' := by
  have A := hid (fun o : Obj => h.below (below_alloc1 w o))
  have L := hid (fun w h => l1read v l a s w h y hs ha hf hm)
  obtain ⟨p, cap, rfl, _, _, hcs⟩ := h.parts
  have hin : inB (s : Int) 1 8 = true := by unfold inB; exact decide_eq_true (by omega)
  have ha' : ¬ ((l.length : Int) - (s : Int) < (a : Int)) := by omega
  by_cases e8 : s = 8
  · subst e8
    obtain ⟨b, o, rfl, hc⟩ := hcs a (by omega)
    rw [getD_at l a (by omega)] at hf
    have hbk := World.block_lt_of_cell? w _ hc
    simp only at hbk
    unfold bv at hc
    have hx : ¬ ((127 : Int) < ((l[a] : Nat) : Int)) := fun q => hf ⟨rfl, by omega⟩
    generalize l[a] = x at *
    clear h hcs hf
    rw [show ((8 : Nat) : Int) = 8 from rfl] at L hin ha' ⊢
    go_enter Try.func22, Try.ntmps22
    go_wp2_with (go_at_call 35; refine (l1in _ _ _ _).mono ?_; rintro e w' ⟨rfl, rfl⟩)
    refine (L.out _ (A.out _)).mono ?_
    rintro e w' ⟨rfl, rfl⟩
    go_wp2
    exact bodyPost_ret (v := .agg #[.int .i64 0, .int .i64 (vt l a 8 : Nat)]) (by simp [results, Try.results22, go_sem]) rfl ⟨rfl, below_alloc1 w _⟩
  · have e8 : ((s : Int) == 8) = false := by simp; omega
    clear h hcs hf
    go_enter Try.func22, Try.ntmps22
    go_wp2_with (go_at_call 35; refine (l1in _ _ _ _).mono ?_; rintro e w' ⟨rfl, rfl⟩)
    refine (L.out _ (A.out _)).mono ?_
    rintro e w' ⟨rfl, rfl⟩
    go_wp2
    exact bodyPost_ret (v := .agg #[.int .i64 0, .int .i64 (vt l a s : Nat)]) (by simp [results, Try.results22, go_sem]) rfl ⟨rfl, below_alloc1 w _⟩
end Go.Proofs.Ythkicdgkhlkndaa.W
