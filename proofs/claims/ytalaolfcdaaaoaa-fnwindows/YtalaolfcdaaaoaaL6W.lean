/-
  A counter that is taken: what the model's l6Take answers.
-/
import Derived.Test.YtalaolfcdaaaoaaWfS
namespace Go.Proofs.Ytalaolfcdaaaoaa.W
open Go.ChangeShapes Go.WideShapes Go.ChangeAt Go.RowKit
open Go.Proofs.Ytalaolfcdaaaoaa.M

set_option maxRecDepth 100000 in
theorem l1has (v : Value) (l : List Int) (n : Int) (w : World) (h : RdZ w v l) :
    Calls Try.prog 129 #[v, .int .i64 n] w fun e w' => e = .returned (.bool (l.contains n)) ∧ Below w.heap.size w w' := by
  obtain ⟨a, ca, rfl, q1, q2, hc⟩ := h.parts
  have hmx : l.length ≤ maxLen := Nat.le_trans q1 q2
  unfold maxLen at hmx
  clear q1 q2 h
  go_enter Try.func129, Try.ntmps129
  go_wp2_with fail
  go_loopw [5] (fun i wr => ∃ k : Nat, k ≤ l.length ∧ i = .int .i64 k ∧ Hid (Below w.heap.size w wr) ∧ Hid (∀ j (h1 : j < l.length), j < k → ¬ l[j] = n)) (fun i _ => l.length - (intOf i).toNat)
  case atStart => exact ⟨0, by omega, rfl, hid (Below.refl _ _), hid fun j _ h => by omega⟩
  case round =>
    obtain ⟨k, hk, rfl, HB, HA⟩ := hrel
    by_cases hlt : k < l.length
    · obtain ⟨b, o, rfl, ck⟩ := hc k hlt
      have ck := cell_kept HB.out ck
      clear hc
      by_cases hd : l[k] = n
      · have E := hid (show l.contains n = true by rw [List.contains_iff_mem]; rw [← hd]; exact List.getElem_mem hlt)
        rw [hd] at ck
        go_wp2
        go_ret
        exact ⟨ret_b E.out.symm, HB.out⟩
      · have E := hid hd
        go_wp2
        go_roundw
        case rel => exact ⟨k + 1, by omega, by go_num, HB, hid fun j h1 h2 => by
          rcases Nat.lt_or_ge j k with q | q
          · exact HA.out j h1 (by omega)
          · obtain rfl : j = k := by omega
            exact E.out⟩
        case measure => simp [intOf]; omega
    · have E := hid (show l.contains n = false by
        rw [Bool.eq_false_iff, ne_eq, List.contains_iff_mem]
        intro q
        obtain ⟨i, hi, e⟩ := List.getElem_of_mem q
        exact HA.out i hi (by omega) e)
      have hk8 : k = l.length := by omega
      subst hk8
      go_wp2
      go_ret
      exact ⟨ret_b E.out.symm, HB.out⟩
theorem tkT_gt {top n : Int} (h : top > n) : tkT top n = top := by unfold tkT; rw [if_neg (by omega)]
theorem tkT_le {top n : Int} (h : ¬ top > n) : tkT top n = n := by unfold tkT; split <;> omega
set_option maxRecDepth 100000 in
theorem l1max (a b : Int) (w : World) : Calls Try.prog 130 #[.int .i64 a, .int .i64 b] w fun e w' => e = .returned (.int .i64 (tkT a b)) ∧ w' = w := by
  by_cases h : a > b
  · have E := hid (tkT_gt h)
    go_enter Try.func130, Try.ntmps130
    go_wp2
    go_ret
    exact ⟨ret_z E.out.symm, rfl⟩
  · have E := hid (tkT_le h)
    go_enter Try.func130, Try.ntmps130
    go_wp2
    go_ret
    exact ⟨ret_z E.out.symm, rfl⟩
theorem results_ct {P : Program} {fn : Func} {p q : Tmp} {ty : TypeId} (h : fn.results = #[.cell p ty, .tmp q]) (tmps : Array Value) (w : World) (g : Nat) (t : TypeId) (cs : Array Value) (fr : Nat × Nat) (d : TypeDesc)
    (hp : tmps.getD p undef = .pointer (some ⟨g, 0, none⟩)) (hg : w.heap[g]? = some (.cells cs t fr))
    (hu : P.underlying ty = some d) (hd : (match d with | .struct _ | .array _ _ => true | _ => false) = true) (hi : (P.info? ty).map (·.size) = some cs.size) :
    (results fn tmps).run P w = .ok (.tuple #[.agg cs, tmps.getD q undef]) w := by
  have hp' : tmps[p]?.getD undef = .pointer (some ⟨g, 0, none⟩) := by simpa using hp
  simp [results, h, hp', asAddr, run_loadVar_row w g t ty cs fr d hg hu hd hi]
theorem ret_ct {r : Value} {a b : Int} (h : a = b) : Ending.returned (.tuple #[r, .int .i64 a]) = .returned (.tuple #[r, .int .i64 b]) := by rw [h]
set_option maxHeartbeats 2000000 in
set_option maxRecDepth 100000 in
theorem l6t_no (g : Nat) (top n : Int) (v : Value) (l : List Int) (w : World) (hV : w.heap[g]? = some (.cells #[.int .i64 top, v] 69)) (h : RdZ w v l) (hr : -1 ≤ top ∧ top ≤ 1000000000) (hc : ¬ tkC top l n = 0) :
    Calls Try.prog 105 #[.pointer (some ⟨g, 0, none⟩), .int .i64 n] w fun e w' => e = .returned (.tuple #[.agg #[.int .i64 0, .slice none 0 0], .int .i64 (tkC top l n)]) ∧ Below w.heap.size w w' := by
  have H := hid h
  have HV := hid hV
  have HC := hid hc
  obtain ⟨a, ca, rfl, -, -, -⟩ := h.parts
  clear h hV hc
  go_enter Try.func105, Try.ntmps105
  go_wp2_with fail
  have VZ := hid (heap_alloc_new w (.cells #[.int .i64 0, .slice none 0 0] 69))
  have BB := hid (below_alloc1 w (.cells #[.int .i64 0, .slice none 0 0] 69))
  replace HV := hid (var_below BB.out HV.out)
  replace H := hid (H.out.below BB.out)
  generalize w.alloc (.cells #[.int .i64 0, .slice none 0 0] 69) = w0 at *
  obtain ⟨gz, hgz⟩ : ∃ g, g = w.heap.size := ⟨_, rfl⟩
  rw [← hgz] at VZ ⊢
  have GZ := hid (Nat.le_of_eq hgz.symm)
  clear hgz
  refine (l1in _ _ _ _).mono ?_
  rintro e x ⟨rfl, rfl⟩
  by_cases hn : 0 ≤ n ∧ n ≤ 1000000000
  case neg =>
    have E := hid (tkC_range (top := top) (l := l) hn)
    rw [show inB n 0 1000000000 = false from decide_eq_false hn]
    clear hn
    obtain ⟨z0, z1, z2, z3⟩ := var2_facts VZ.out
    have HS := hid (var2_set (x' := .int .i64 0) (y' := .slice none 0 0) VZ.out)
    have HW := hid (below_set2 (x := .int .i64 0) (y := .slice none 0 0) BB.out GZ.out)
    go_wp2
    try simp only [Exit.inBlock, Exit.then]
    exact bodyPost_ret (results_ct rfl _ _ gz 69 _ _ _ rfl HS.out Try.underlying69 rfl (by kernel_rfl)) rfl ⟨ret_ct E.out.symm, HW.out⟩
  rw [show inB n 0 1000000000 = true from decide_eq_true hn]
  obtain ⟨f0, f1, -, -⟩ := var2_facts HV.out
  go_wp2_with fail
  clear f0 f1
  refine (l1has _ l n _ H.out).mono ?_
  rintro e w1 ⟨rfl, hB⟩
  replace VZ := hid (var_below hB VZ.out)
  replace HV := hid (var_below hB HV.out)
  replace BB := hid (BB.out.trans (hB.mono BB.out.size))
  clear hB
  obtain ⟨z0, z1, z2, z3⟩ := var2_facts VZ.out
  have HS := hid (var2_set (x' := .int .i64 0) (y' := .slice none 0 0) VZ.out)
  have HW := hid (below_set2 (x := .int .i64 0) (y := .slice none 0 0) BB.out GZ.out)
  cases hi : l.contains n with
  | true =>
    have E := hid (tkC_there (top := top) hn (show n ∈ l by simpa using hi))
    clear hi hn
    go_wp2
    try simp only [Exit.inBlock, Exit.then]
    exact bodyPost_ret (results_ct rfl _ _ gz 69 _ _ _ rfl HS.out Try.underlying69 rfl (by kernel_rfl)) rfl ⟨ret_ct E.out.symm, HW.out⟩
  | false =>
    have HI := hid (show n ∉ l by simpa using hi)
    have HN := hid hn
    clear hi hn
    by_cases ho : n ≤ top - 16
    · have E := hid (tkC_old HN.out HI.out ho)
      have hw := wrap16 hr
      obtain ⟨f0, f1, -, -⟩ := var2_facts HV.out
      go_wp2
      try simp only [Exit.inBlock, Exit.then]
      exact bodyPost_ret (results_ct rfl _ _ gz 69 _ _ _ rfl HS.out Try.underlying69 rfl (by kernel_rfl)) rfl ⟨ret_ct E.out.symm, HW.out⟩
    · exact absurd (tkC_ok HN.out HI.out ho) HC.out
end Go.Proofs.Ytalaolfcdaaaoaa.W
