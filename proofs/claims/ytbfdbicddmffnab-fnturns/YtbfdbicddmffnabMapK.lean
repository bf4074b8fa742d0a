/-
  The map of a ring's keys: what put and has do.
-/
import Derived.Test.YtbfdbicddmffnabRangeM
import Derived.Test.YtbfdbicddmffnabRng
import Derived.Maps.OwnSet
import Derived.Deep.RegionHeld3
namespace Go.Proofs.Ytbfdbicddmffnab.W
open Go.ChangeShapes Go.WideShapes Go.ChangeAt Go.RowKit Go.Maps
open Go.Proofs.Ytbfdbicddmffnab.M

/-- An element of the map reads as itself. -/
def Rv (v : Value) : Option (DataW Value × List MemPlace) := some (.held v, [])
/-- Block b is a map of at most n keys that reads as D. -/
def MapK (w : World) (b n : Nat) (D : DataW Value) : Prop := w.ownsMap Try.prog 2 Rv b n D
theorem lawK : Keyed Try.prog 2 := int_keyed Try.underlying2
theorem key_size16 (l : List Nat) (hl : l.length = 16) : (Try.prog.info? 78).map (·.size) = some (arr l).size := by rw [arr_size, hl]; kernel_rfl
theorem list16k (l : List Nat) (h : l.length = 16) : ∃ a0 a1 a2 a3 a4 a5 a6 a7 a8 a9 b0 b1 b2 b3 b4 b5, l = [a0, a1, a2, a3, a4, a5, a6, a7, a8, a9, b0, b1, b2, b3, b4, b5] := by
  match l, h with
  | [a0, a1, a2, a3, a4, a5, a6, a7, a8, a9, b0, b1, b2, b3, b4, b5], _ => exact ⟨a0, a1, a2, a3, a4, a5, a6, a7, a8, a9, b0, b1, b2, b3, b4, b5, rfl⟩
set_option maxRecDepth 100000 in
theorem held_built (l : List Nat) (h : l.length = 16) {x : List (Nat × Value)} (hx : x = [(0, .agg (arr l))]) : Try.prog.built 115 x = some (arr l) := by
  subst hx
  obtain ⟨a0, a1, a2, a3, a4, a5, a6, a7, a8, a9, b0, b1, b2, b3, b4, b5, rfl⟩ := list16k l h
  kernel_rfl
theorem step_buildK {P : Program} {ops : Array Oper} {o : Oper} {a : Act} {w : World} {K : Act → World → Prop} {Q : Exit → Act → World → Prop} {E : Prop} (hgd : o.guard = none) (t : TypeId) (parts : Array (Nat × Operand)) (ho : o.op = .build t parts) (cells : Array Value)
    (hb : P.built t (parts.map fun (i, x) => (i, a.eval x)).toList = some cells) (h : K (a.put o.dst (.agg cells)) w) : if Region.wanted o (yielded ops a.tmps) = true then Oper.wp P o a w K Q else E := by
  have hwa : Region.wanted o (yielded ops a.tmps) = true := by simp [Region.wanted, hgd]
  rw [if_pos hwa]
  refine wp_build t parts ho (by rw [hb]; rfl) ?_
  rw [hb]
  exact h
theorem step_mapUpdate {ops : Array Oper} {o : Oper} {a : Act} {w : World} {K : Act → World → Prop} {Q : Exit → Act → World → Prop} {E : Prop} (hgd : o.guard = none) (m x v : Operand) (hop : o.op = Op.mapUpdate 117 m x v)
    (b n : Nat) (D : DataW Value) (hm : a.eval m = .map (some b)) (hown : MapK w b n D) (hn : n < 1000) (id' : Int) (val : Value) (hx : a.eval x = .int .i64 id') (hv : a.eval v = val) (hw : (Lit.int .i64 id').wf = true)
    (h : ∀ w', MapK w' b (n + 1) (D.put (.int .i64 id') (.held val)) → w.grownBy w' (some b) → K (a.put o.dst undef) w') : if Region.wanted o (yielded ops a.tmps) = true then Oper.wp Try.prog o a w K Q else E := by
  have hwa : Region.wanted o (yielded ops a.tmps) = true := by simp [Region.wanted, hgd]
  rw [if_pos hwa]
  obtain ⟨w', hrun, r1, r2⟩ := hown.update lawK Try.underlying117 (by unfold maxLen; omega) (keyOf_int_mk Try.underlying2 hw) (show Rv val = some (.held val, []) from rfl)
  unfold Oper.wp
  simp [execOp, hop, hm, hx, hv, hrun, Result.andThen]
  exact h w' r1 r2
theorem MapK.ne {w : World} {b n : Nat} {D : DataW Value} (h : MapK w b n D) {a : Addr} {u : Value} (hc : w.cell? a = some u) : some a.block ≠ some b := by
  intro e
  cases e
  obtain ⟨es, clock, hb, -⟩ := h
  simp [World.cell?, hb] at hc
set_option maxRecDepth 100000 in
theorem iput (g b n : Nat) (pr id' : Int) (v : Value) (l : List Nat) (D : DataW Value) (w : World) (hV : w.heap[g]? = some (.cells #[.int .i64 pr, .map (some b)] 119)) (hM : MapK w b n D) (hn : n < 1000) (h : Rd w v l) (hl : l.length = 16) (hw : (Lit.int .i64 id').wf = true) :
    Calls Try.prog 131 #[.pointer (some ⟨g, 0, none⟩), .agg #[.int .i64 id', v]] w fun e w' => (∃ u, e = .returned u) ∧ MapK w' b (n + 1) (D.put (.int .i64 id') (.held (.agg (arr l)))) ∧ w.grownBy w' (some b) := by
  obtain ⟨bs, os, cs, rfl, hcs, -⟩ := h.spot (by omega)
  have HR := hid (rd_range h)
  have V := hid hV
  have HM := hid hM
  have HL := hid hl
  rw [hl] at hcs ⊢
  clear h hV hM hl
  have Z := hid (key_size16 l HL.out)
  go_enter Try.func131, Try.ntmps131
  go_wp2_with fail
  have V1 := heap_alloc_new w (.cells #[.int .i64 id', .slice (some ⟨bs, os, none⟩) 16 cs] 40)
  have hA := below_alloc1 w (.cells #[.int .i64 id', .slice (some ⟨bs, os, none⟩) 16 cs] 40)
  have BB := hid hA
  replace V := hid (var_below hA V.out)
  replace HM := hid (show MapK _ b n D from HM.out.alloc (.cells #[.int .i64 id', .slice (some ⟨bs, os, none⟩) 16 cs] 40))
  replace HR := hid (rangeAt.below HR.out hA)
  have GA := hid (World.grownBy_alloc w (.cells #[.int .i64 id', .slice (some ⟨bs, os, none⟩) 16 cs] 40) (some b))
  clear hA
  generalize w.alloc (.cells #[.int .i64 id', .slice (some ⟨bs, os, none⟩) 16 cs] 40) = w1 at *
  obtain ⟨-, f1, -, -⟩ := var2_facts V.out
  obtain ⟨k0, k1, -, -⟩ := var2_facts V1
  generalize w.heap.size = gk at *
  have AT := arr_at 78 5 16 Try.underlying78 (some ⟨bs, os, none⟩) 16 cs (by omega)
  refine wp_region_held_drew (S := fun w' => w'.cell? ⟨g, 1, none⟩ = some (.map (some b)) ∧ w'.cell? ⟨gk, 0, none⟩ = some (.int .i64 id') ∧ w'.cell? ⟨gk, 1, none⟩ = some (.slice (some ⟨bs, os, none⟩) 16 cs) ∧ w'.rangeAt bs os (l.map bv)) (by kernel_rfl) ⟨f1, k0, k1, HR.out⟩ (fun hH => ?_)
  refine wpAnyH_take (i := 0) (v := .pointer (some ⟨g, 0, none⟩)) (by simp only [List.getElem?_toArray, List.getElem?_cons_zero]; rfl) (by kernel_rfl) (by kernel_rfl) (by kernel_rfl) (by intro _ _ _ h; exact h) (Or.inl ⟨by rfl, fun w hS => by go_simp⟩) hH ?_
  simp only [Act.put, List.setIfInBounds_toArray, List.set_cons_zero, List.set_cons_succ]
  refine wpAnyH_take (i := 1) (v := .pointer (some ⟨g, 0, none⟩)) (by simp only [List.getElem?_toArray, List.getElem?_cons_succ, List.getElem?_cons_zero]; rfl) (by kernel_rfl) (by kernel_rfl) (by kernel_rfl) (by intro _ _ _ h; exact h) (Or.inl ⟨by rfl, fun w hS => by go_simp⟩) hH ?_
  simp only [Act.put, List.setIfInBounds_toArray, List.set_cons_zero, List.set_cons_succ]
  refine wpAnyH_take (i := 2) (v := .pointer (some ⟨g, 1, none⟩)) (by simp only [List.getElem?_toArray, List.getElem?_cons_succ, List.getElem?_cons_zero]; rfl) (by kernel_rfl) (by kernel_rfl) (by kernel_rfl) (by intro _ _ _ h; exact h) (Or.inl ⟨by rfl, fun w hS => by go_simp⟩) hH ?_
  simp only [Act.put, List.setIfInBounds_toArray, List.set_cons_zero, List.set_cons_succ]
  refine wpAnyH_take (i := 3) (v := .map (some b)) (by simp only [List.getElem?_toArray, List.getElem?_cons_succ, List.getElem?_cons_zero]; rfl) (by kernel_rfl) (by kernel_rfl) (by kernel_rfl) (by intro _ _ _ h; exact h) (Or.inl ⟨by rfl, fun w hS => by (obtain ⟨y1, y2, y3, -⟩ := hS; go_simp)⟩) hH ?_
  simp only [Act.put, List.setIfInBounds_toArray, List.set_cons_zero, List.set_cons_succ]
  refine wpAnyH_take (i := 4) (v := .pointer (some ⟨gk, 0, none⟩)) (by simp only [List.getElem?_toArray, List.getElem?_cons_succ, List.getElem?_cons_zero]; rfl) (by kernel_rfl) (by kernel_rfl) (by kernel_rfl) (by intro _ _ _ h; exact h) (Or.inl ⟨by rfl, fun w hS => by go_simp⟩) hH ?_
  simp only [Act.put, List.setIfInBounds_toArray, List.set_cons_zero, List.set_cons_succ]
  refine wpAnyH_take (i := 5) (v := .int .i64 id') (by simp only [List.getElem?_toArray, List.getElem?_cons_succ, List.getElem?_cons_zero]; rfl) (by kernel_rfl) (by kernel_rfl) (by kernel_rfl) (by intro _ _ _ h; exact h) (Or.inl ⟨by rfl, fun w hS => by (obtain ⟨y1, y2, y3, -⟩ := hS; go_simp)⟩) hH ?_
  simp only [Act.put, List.setIfInBounds_toArray, List.set_cons_zero, List.set_cons_succ]
  refine wpAnyH_take (i := 6) (v := .pointer (some ⟨gk, 1, none⟩)) (by simp only [List.getElem?_toArray, List.getElem?_cons_succ, List.getElem?_cons_zero]; rfl) (by kernel_rfl) (by kernel_rfl) (by kernel_rfl) (by intro _ _ _ h; exact h) (Or.inl ⟨by rfl, fun w hS => by go_simp⟩) hH ?_
  simp only [Act.put, List.setIfInBounds_toArray, List.set_cons_zero, List.set_cons_succ]
  refine wpAnyH_take (i := 7) (v := .slice (some ⟨bs, os, none⟩) 16 cs) (by simp only [List.getElem?_toArray, List.getElem?_cons_succ, List.getElem?_cons_zero]; rfl) (by kernel_rfl) (by kernel_rfl) (by kernel_rfl) (by intro _ _ _ h; exact h) (Or.inl ⟨by rfl, fun w hS => by (obtain ⟨y1, y2, y3, -⟩ := hS; go_simp)⟩) hH ?_
  simp only [Act.put, List.setIfInBounds_toArray, List.set_cons_zero, List.set_cons_succ]
  refine wpAnyH_take (i := 8) (v := .pointer (some ⟨bs, os, none⟩)) (by simp only [List.getElem?_toArray, List.getElem?_cons_succ, List.getElem?_cons_zero]; rfl) (by kernel_rfl) (by kernel_rfl) (by kernel_rfl) (by intro _ _ _ h; exact h) (Or.inl ⟨by rfl, fun w hS => by go_simp⟩) hH ?_
  simp only [Act.put, List.setIfInBounds_toArray, List.set_cons_zero, List.set_cons_succ]
  refine wpAnyH_take (i := 9) (v := .agg (arr l)) (by simp only [List.getElem?_toArray, List.getElem?_cons_succ, List.getElem?_cons_zero]; rfl) (by kernel_rfl) (by kernel_rfl) (by kernel_rfl) (by intro _ _ _ h; exact h) (yieldsIf_load_mid (by rfl) _ _ rfl bs os rfl (l.map bv) _ (fun w hS => hS.2.2.2) Try.underlying78 rfl (by rw [List.length_map, ← arr_size]; exact Z.out)) hH ?_
  simp only [Act.put, List.setIfInBounds_toArray, List.set_cons_zero, List.set_cons_succ]
  refine wpAnyH_ready (rs := [10]) (by kernel_rfl) (by simp) ?_
  refine AllReadyH.cons (by simp only [List.getElem?_toArray, List.getElem?_cons_succ, List.getElem?_cons_zero]; rfl) (fun K hK => ?_) AllReadyH.nil
  refine step_buildK (by rfl) 115 _ (by rfl) (arr l) (held_built l HL.out (by simp [Act.eval])) ?_
  refine hK.out _ _ hH (fun hH => ?_)
  clear hK K
  try simp only [Act.put, List.setIfInBounds_toArray, List.set_cons_zero, List.set_cons_succ]
  refine wpAnyH_ready (rs := [11]) (by kernel_rfl) (by simp) ?_
  refine AllReadyH.cons (by simp only [List.getElem?_toArray, List.getElem?_cons_succ, List.getElem?_cons_zero]; rfl) (fun K hK => ?_) AllReadyH.nil
  refine step_mapUpdate (by rfl) _ _ _ (by rfl) b n D (by rfl) (show MapK w1.drew b n D from HM.out) hn id' _ (by rfl) (by rfl) hw ?_
  intro w2 m2 gr2
  have RES := hid m2
  have GR := hid (grown_trans GA.out (show w1.grownBy w2 (some b) from ⟨gr2.os, gr2.tape, gr2.output, gr2.size, gr2.block⟩))
  have HD : MapK w1.drew b n D := HM.out
  refine hK.out _ _ ⟨gr2.cell f1 (HD.ne f1), gr2.cell k0 (HD.ne k0), gr2.cell k1 (HD.ne k1), fun j v hv => gr2.cell (HR.out j v hv) (HD.ne (HR.out j v hv))⟩ (fun hH => ?_)
  clear hK K
  try simp only [Act.put]
  refine wpAnyH_done (by kernel_rfl) ?_ _
  go_wp2
  go_end0
  exact ⟨⟨_, rfl⟩, RES.out, GR.out⟩
theorem zeroH (w : World) : (zeroValue 115).run Try.prog w = .ok (.agg (arr (zs 16))) w := by kernel_rfl
/-- Each element of the map is sixteen bytes. -/
def GoodM (D : DataW Value) : Prop := ∀ k, ∃ l : List Nat, l.length = 16 ∧ D.atKey k (.held (.agg (arr (zs 16)))) = .held (.agg (arr l))
theorem GoodM.nil : GoodM (.map []) := fun k => ⟨zs 16, by simp [zs], rfl⟩
theorem GoodM.put {D : DataW Value} (h : GoodM D) (hD : IsMap D) (k : Lit) (hk : WideAt.IsKeyLit k) (l : List Nat) (hl : l.length = 16) : GoodM (D.put k (.held (.agg (arr l)))) := fun k' => by
  by_cases e : k' = k
  · subst e
    exact ⟨l, hl, by rw [atKey_put_same hD hk]⟩
  · obtain ⟨l', h1, h2⟩ := h k'
    exact ⟨l', h1, by rw [atKey_put_other e]; exact h2⟩
theorem GoodM.val {D : DataW Value} (h : GoodM D) {k : Lit} {v : Value} {ps : List MemPlace} (hv : Rv v = some (D.atKey k (.held (.agg (arr (zs 16)))), ps)) : ∃ l : List Nat, l.length = 16 ∧ v = .agg (arr l) := by
  obtain ⟨l, h1, h2⟩ := h k
  rw [h2] at hv
  unfold Rv at hv
  simp only [Option.some.injEq, Prod.mk.injEq, DataW.held.injEq] at hv
  exact ⟨l, h1, hv.1⟩
set_option maxHeartbeats 1000000 in
set_option maxRecDepth 100000 in
theorem ihas (g b n : Nat) (pr id' : Int) (D : DataW Value) (w : World) (hV : w.heap[g]? = some (.cells #[.int .i64 pr, .map (some b)] 119)) (hM : MapK w b n D) (hG : GoodM D) (hw : (Lit.int .i64 id').wf = true) :
    Calls Try.prog 130 #[.pointer (some ⟨g, 0, none⟩), .int .i64 id'] w fun e w' => e = .returned (.bool (Maps.has D (.int .i64 id'))) ∧ Below w.heap.size w w' := by
  have V := hid hV
  have HM := hid hM
  obtain ⟨f0, f1, -, -⟩ := var2_facts hV
  clear hV hM
  go_enter Try.func130, Try.ntmps130
  go_wp2_with (at_lookup; refine wpList_lookup_own_ok _ rfl _ _ 117 rfl 2 115 lawK Try.underlying117 Rv (zeroH _) (.held (.agg (arr (zs 16)))) [] rfl b n D rfl HM.out _ _ rfl (keyOf_int_mk Try.underlying2 hw) ?_)
  intro v ps hv
  obtain ⟨l, hl, rfl⟩ := hG.val hv
  clear hv hG HM
  have Z := hid (show (Try.prog.info? 115).map (·.size) = some (arr l).size by rw [arr_size, hl]; kernel_rfl)
  go_wp2_with (refine wpList_store_row rfl 115 _ _ rfl w.heap.size (arr l) rfl rfl 115 _ (heap_alloc_new w _) Z.out (by rw [arr_size, hl]; rfl) (arr_one l) ?_)
  go_ret
  exact ⟨rfl, by rw [World.setRow_alloc_new]; exact below_alloc1 w _⟩
end Go.Proofs.Ytbfdbicddmffnab.W
