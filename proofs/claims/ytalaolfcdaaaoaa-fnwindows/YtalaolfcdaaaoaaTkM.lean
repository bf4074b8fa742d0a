/-
  A set of counters: the map whose keys are structs of one number, and what put and has do.
-/
import Derived.Test.YtalaolfcdaaaoaaSlZI
import Derived.Test.YtalaolfcdaaaoaaBase
import Derived.DeepKeys4
import Derived.Maps.OwnSet
import Derived.Maps.RangeWalk
import Derived.Deep.RegionHeld3
namespace Go.Proofs.Ytalaolfcdaaaoaa.W
open Go.ChangeShapes Go.WideShapes Go.ChangeAt Go.RowKit Go.Maps
open Go.Proofs.Ytalaolfcdaaaoaa.M

set_option maxRecDepth 100000 in
theorem laidOutW : laidOutB Try.prog = true := by kernel_rfl
set_option maxRecDepth 100000 in
theorem rowT : (162 : TypeId) < Try.prog.types.size := of_decide_eq_true (by kernel_rfl)
set_option maxRecDepth 100000 in
theorem wideT : (match Try.prog.underlying 162 with | some (.array _ _) | some (.struct _) => true | _ => false) = true := by kernel_rfl
set_option maxRecDepth 100000 in
theorem cellsT : Try.prog.cellsOf 162 = 1 := by kernel_rfl
set_option maxRecDepth 100000 in
theorem keyT : Try.prog.keyType 162 = true := by kernel_rfl
set_option maxRecDepth 100000 in
theorem lawT : Keyed Try.prog 162 := Keyed.of_law (deep_law_laid laidOutW (m := 2) (by omega) rowT (by kernel_rfl) wideT)
/-- A counter as a key. -/
def tk (n : Int) : Lit := .string (keyBytes [.int .i64 n])
set_option maxRecDepth 100000 in
theorem tk_eq (v : Value) : keyOf Try.prog 162 v = if v.formed Try.prog 162 = true then (Try.prog.keyLits (Try.prog.types.size + 1) 162 v.cells.toList).map fun ls => .string (keyBytes ls) else none := by
  unfold keyOf
  rw [Try.underlying162]
  simp only [keyT, Bool.true_and]
set_option maxRecDepth 100000 in
theorem sizeT : ∃ m, Try.prog.types.size = m + 1 := ⟨Try.prog.types.size - 1, by have := rowT; have : (0 : Nat) < Try.prog.types.size := Nat.lt_of_le_of_lt (Nat.zero_le _) rowT; omega⟩
set_option maxRecDepth 100000 in
theorem cellsI : Try.prog.cellsOf 2 = 1 := by kernel_rfl
set_option maxRecDepth 100000 in
theorem tk_of (n : Int) (h : (Lit.int .i64 n).wf = true) : keyOf Try.prog 162 (.agg #[.int .i64 n]) = some (tk n) := by
  obtain ⟨m, hm⟩ := sizeT
  rw [tk_eq, if_pos (by simp [Value.formed, Try.underlying162, cellsT]), hm]
  simp [Program.keyLits, Try.underlying162, Try.underlying2, cellsT, cellsI, h, Value.cells, tk]
set_option maxRecDepth 100000 in
theorem tk_inv {v : Value} {kl : Lit} (h : keyOf Try.prog 162 v = some kl) : ∃ x : Int, v = .agg #[.int .i64 x] ∧ (Lit.int .i64 x).wf = true ∧ kl = tk x := by
  obtain ⟨m, hm⟩ := sizeT
  rw [tk_eq] at h
  by_cases hf : v.formed Try.prog 162 = true
  · rw [if_pos hf, hm] at h
    have hf2 := hf
    unfold Value.formed at hf2
    rw [Try.underlying162] at hf2
    cases v with
    | agg xs =>
      obtain ⟨l⟩ := xs
      simp [cellsT] at hf2
      match l, hf2 with
      | [c], _ =>
        simp [Program.keyLits, Try.underlying162, Try.underlying2, cellsT, cellsI, Value.cells] at h
        cases c with
        | int q n =>
          by_cases hq : q = .i64 ∧ (Lit.int .i64 n).wf = true
          · obtain ⟨rfl, hw⟩ := hq
            simp [hw] at h
            exact ⟨n, rfl, hw, by rw [← h]; simp [tk]⟩
          · simp [hq] at h
        | _ => simp at h
    | _ => simp at hf2
  · rw [if_neg hf] at h
    cases h
set_option maxRecDepth 100000 in
theorem tk_inj {x y : Int} (hx : (Lit.int .i64 x).wf = true) (hy : (Lit.int .i64 y).wf = true) (h : tk x = tk y) : x = y := by
  have := lawT.inj (tk_of x hx) (by rw [h]; exact tk_of y hy)
  simpa using this
theorem tk_key (x : Int) : WideAt.IsKeyLit (tk x) := trivial
/-- Block b is a set of at most n counters: those of zs. -/
def TSet (w : World) (b n : Nat) (zs : List Int) : Prop := ∃ D : DataW Unit, w.ownsMap Try.prog 162 unitElem b n D ∧ ∀ x, (Lit.int .i64 x).wf = true → (Maps.has D (tk x) = true ↔ x ∈ zs)
theorem TSet.below {w w' : World} {b n : Nat} {zs : List Int} (h : TSet w b n zs) (hB : Below w.heap.size w w') : TSet w' b n zs := by
  obtain ⟨D, ⟨es, clock, hb, F, hs, hD⟩, hm⟩ := h
  exact ⟨D, ⟨es, clock, (hB.block b (Array.getElem?_eq_some_iff.1 hb).1).trans hb, F, hs, hD⟩, hm⟩
theorem TSet.lt {w : World} {b n : Nat} {zs : List Int} (h : TSet w b n zs) : b < w.heap.size := by
  obtain ⟨D, ⟨es, clock, hb, -⟩, -⟩ := h
  exact (Array.getElem?_eq_some_iff.1 hb).1
theorem TSet.ne {w : World} {b n : Nat} {zs : List Int} (h : TSet w b n zs) {a : Addr} {u : Value} (hc : w.cell? a = some u) : some a.block ≠ some b := by
  intro e
  cases e
  obtain ⟨D, ⟨es, clock, hb, -⟩, -⟩ := h
  simp [World.cell?, hb] at hc
theorem TSet.apart {w : World} {b n g : Nat} {zs : List Int} {c : Array Value} {T : TypeId} (h : TSet w b n zs) (hV : w.heap[g]? = some (.cells c T)) : some g ≠ some b := by
  intro e
  cases e
  obtain ⟨D, ⟨es, clock, hb, -⟩, -⟩ := h
  rw [hb] at hV
  cases hV
theorem TSet.same {w : World} {b n : Nat} {zs ys : List Int} (h : TSet w b n zs) (hs : ∀ x, x ∈ zs ↔ x ∈ ys) : TSet w b n ys := by
  obtain ⟨D, hM, hm⟩ := h
  exact ⟨D, hM, fun x hx => (hm x hx).trans (hs x)⟩
theorem rdZ_grownT {w w' : World} {b n : Nat} {zs : List Int} {v : Value} {l : List Int} (h : RdZ w v l) (hM : TSet w b n zs) (hG : w.grownBy w' (some b)) : RdZ w' v l := by
  obtain ⟨a, cap, rfl, hn, hm, hcs⟩ := h
  refine ⟨a, cap, rfl, hn, hm, fun i hi => ?_⟩
  obtain ⟨b', o, rfl, hc⟩ := hcs i hi
  exact ⟨b', o, rfl, hG.cell hc (hM.ne hc)⟩
theorem var_grownT {w w' : World} {b n g : Nat} {zs : List Int} {c : Array Value} {T : TypeId} (h : w.heap[g]? = some (.cells c T)) (hM : TSet w b n zs) (hG : w.grownBy w' (some b)) : w'.heap[g]? = some (.cells c T) :=
  var_grown hG h (hM.apart h)
theorem put_mem {D : DataW Unit} {zs : List Int} (hD : IsMap D) (hm : ∀ x, (Lit.int .i64 x).wf = true → (Maps.has D (tk x) = true ↔ x ∈ zs)) {n : Int} (hn : (Lit.int .i64 n).wf = true) (u : DataW Unit) :
    ∀ x, (Lit.int .i64 x).wf = true → (Maps.has (D.put (tk n) u) (tk x) = true ↔ x ∈ n :: zs) := fun x hx => by
  by_cases e : x = n
  · subst e
    rw [has_put_same hD (tk_key x)]
    simp
  · rw [has_put_other (fun q => e (tk_inj hx hn q)), hm x hx]
    simp [e]
theorem del_mem {D : DataW Unit} {zs : List Int} (hm : ∀ x, (Lit.int .i64 x).wf = true → (Maps.has D (tk x) = true ↔ x ∈ zs)) {n : Int} (hn : (Lit.int .i64 n).wf = true) :
    ∀ x, (Lit.int .i64 x).wf = true → (Maps.has (D.del (tk n)) (tk x) = true ↔ x ∈ zs ∧ x ≠ n) := fun x hx => by
  by_cases e : x = n
  · subst e
    rw [has_del_same]
    simp
  · rw [has_del_other (fun q => e (tk_inj hx hn q)), hm x hx]
    simp [e]
set_option maxRecDepth 100000 in
theorem zeroU (w : World) : (zeroValue 184).run Try.prog w = .ok (.agg #[]) w := by kernel_rfl
set_option maxRecDepth 100000 in
theorem iputT (g b nn : Nat) (top n : Int) (zs : List Int) (w : World) (hV : w.heap[g]? = some (.cells #[.int .i64 top, .map (some b)] 159)) (hM : TSet w b nn zs) (hn : nn < 4194304) (hw : (Lit.int .i64 n).wf = true) :
    Calls Try.prog 124 #[.pointer (some ⟨g, 0, none⟩), .int .i64 n] w fun e w' => (∃ u, e = .returned u) ∧ TSet w' b (nn + 1) (n :: zs) ∧ w.grownBy w' (some b) := by
  obtain ⟨D, hO, hm⟩ := hM
  have HO := hid hO
  have HM := hid hm
  obtain ⟨f0, f1, -, -⟩ := var2_facts hV
  clear hV hO hm
  go_enter Try.func124, Try.ntmps124
  go_wp2_with (at_mapUpdate; refine wpList_mapUpdate_own _ rfl _ _ _ 157 rfl 162 184 lawT Try.underlying157 _ b nn D rfl HO.out (by unfold maxLen; omega) _ _ _ rfl rfl (tk_of n hw) _ [] unitElem_mk ?_; intro w1 hown1 hgrow1)
  have O1 := hid hown1
  have G1 := hid hgrow1
  clear hown1 hgrow1
  go_end0
  exact ⟨⟨_, rfl⟩, ⟨_, O1.out, put_mem HO.out.isMap HM.out hw _⟩, G1.out⟩
set_option maxRecDepth 100000 in
theorem ihasT (g b nn : Nat) (top n : Int) (zs : List Int) (w : World) (hV : w.heap[g]? = some (.cells #[.int .i64 top, .map (some b)] 159)) (hM : TSet w b nn zs) (hw : (Lit.int .i64 n).wf = true) :
    Calls Try.prog 125 #[.pointer (some ⟨g, 0, none⟩), .int .i64 n] w fun e w' => e = .returned (.bool (zs.contains n)) ∧ Below w.heap.size w w' := by
  obtain ⟨D, hO, hm⟩ := hM
  have HO := hid hO
  have HM := hid hm
  obtain ⟨f0, f1, -, -⟩ := var2_facts hV
  clear hV hO hm
  have E : Hid (Maps.has D (tk n) = zs.contains n) := by
    unfold Hid
    rw [Bool.eq_iff_iff, HM.out n hw]
    simp
  go_enter Try.func125, Try.ntmps125
  go_wp2_with (at_lookup; refine wpList_lookup_own_unit _ rfl _ _ 157 rfl 162 184 lawT Try.underlying157 (zeroU _) b nn D rfl HO.out _ _ rfl (tk_of n hw) ?_)
  go_ret
  exact ⟨ret_b E.out, by first | exact below_alloc1 _ _ | exact Below.refl _ _⟩
end Go.Proofs.Ytalaolfcdaaaoaa.W
