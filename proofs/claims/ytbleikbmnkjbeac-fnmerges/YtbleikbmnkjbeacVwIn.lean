/-
  What slices.Insert answers of a slice of claims that is the call's own and one claim.
-/
import Derived.Test.YtbleikbmnkjbeacVwCp
import Derived.Laws.Externs
namespace Go.Proofs.Ytbleikbmnkjbeac.W
open Go.ChangeShapes Go.WideShapes Go.ChangeAt Go.RowKit
open Go.Proofs.Ytbleikbmnkjbeac.M

set_option maxHeartbeats 2000000 in
set_option maxRecDepth 100000 in
theorem insE (v : Value) (cs : List Clm) (c : Clm) (base vb : Nat) (w : World) (h : OwC w base v cs) (hc : w.heap[vb]? = some (.cells #[.int .i64 c.n, .int .i64 c.i, .int .i64 c.s, .int .i64 c.m] 45)) (hl : cs.length ≤ 4) (hb : base ≤ w.heap.size) :
    Calls Try.prog 157 #[v, .int .i64 (cs.length : Int), .slice (some ⟨vb, 0, none⟩) 1 1] w
      fun e w' => ∃ g cap, e = .returned (.slice (some ⟨g, 0, none⟩) (cs.length + 1) cap) ∧ OwC w' base (.slice (some ⟨g, 0, none⟩) (cs.length + 1) cap) (cs ++ [c]) ∧ w.grownBy w' v.ownBlock := by
  have O := hid h
  have R1 := hid (one_row hc)
  obtain ⟨a, cap, rfl, hcc, hm, -⟩ := h.rd.parts
  have hmx : cap ≤ 9223372036854775807 := by unfold maxLen at hm; omega
  clear h hc hm
  rcases a with _ | ad
  · have e0 : cs = [] := by
      rcases O.out.2 with ⟨e, q⟩ | ⟨g, cap', cur, e, -⟩
      · exact List.eq_nil_of_length_eq_zero q
      · cases e
    subst e0
    have e1 : cap = 0 := by
      rcases O.out.2 with ⟨e, q⟩ | ⟨g, cap', cur, e, -⟩
      · cases e; rfl
      · cases e
    subst e1
    go_enter Try.func157, Try.ntmps157
    go_wp2_with (at_builtin; refine list_appC rfl _ _ rfl _ [] [c] base vb 0 1 rfl rfl O.out R1.out (by simp) (by simp) hb ?_; intro g2 cap2 w2 hO hG)
    go_ret
    exact ⟨g2, cap2, rfl, hO, hG⟩
  · obtain ⟨g, o, sp⟩ := ad
    have e1 : o = 0 ∧ sp = none := by
      rcases O.out.2 with ⟨e, q⟩ | ⟨g', cap', cur, e, -⟩
      · cases e
      · cases e; exact ⟨rfl, rfl⟩
    obtain ⟨rfl, rfl⟩ := e1
    by_cases hcn : cap = cs.length
    · subst hcn
      go_enter Try.func157, Try.ntmps157
      go_wp2_with (at_builtin; refine list_appC rfl _ _ rfl _ cs [c] base vb 0 1 rfl rfl O.out R1.out (by simp) (by simp; omega) hb ?_; intro g2 cap2 w2 hO hG)
      go_ret
      exact ⟨g2, cap2, rfl, hO, hG⟩
    · have h1 : cs.length < cap := by omega
      go_enter Try.func157, Try.ntmps157
      go_wp2_with (at_builtin; refine list_appC rfl _ _ rfl _ cs [c] base vb 0 1 rfl rfl O.out R1.out (by simp) (by simp; omega) hb ?_; intro g2 cap2 w2 hO hG)
      go_ret
      exact ⟨g2, cap2, rfl, hO, hG⟩
end Go.Proofs.Ytbleikbmnkjbeac.W
