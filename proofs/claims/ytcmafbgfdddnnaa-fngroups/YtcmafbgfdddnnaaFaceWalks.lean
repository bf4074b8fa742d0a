/-
  What is recovered at the face: the program's atFace, over any closure.
-/
import Derived.Test.YtcmafbgfdddnnaaBase
import Derived.Test.YtcmafbgfdddnnaaSlX
import Derived.Defers
import Derived.Recover
namespace Go.Proofs.Ytcmafbgfdddnnaa.W
open Go.ChangeShapes Go.WideShapes Go.ChangeAt Go.RowKit
open Go.Proofs.Ytcmafbgfdddnnaa.M

theorem run_into {f : FuncId} {fn : Func} {c : Code} (hf : Try.prog.funcs[f]? = some fn) (hn : (fn.name == "runtime.NumGoroutine") = false) (hb : fn.body = some c) (a : Array Value) (w : World) : (callFunc f a).run Try.prog w = .ok (.enter f a) w := by
  have hn' : ¬ fn.name = "runtime.NumGoroutine" := by simpa using hn
  simp [callFunc, hf, hn', hb, go_sem]
theorem catch_panic (g : Nat) (u : TypeId) (pv x y : Value) (w : World) (hv : w.heap[g]? = some (.cells #[x, y] 33)) :
    CallsD Try.prog 103 #[.pointer (some ⟨g, 0, none⟩)] (.panicking [{ v := .iface u pv, recovered := false }]) w fun e u' w' =>
      e = .returned (.tuple #[]) ∧ u' = .panicking [{ v := .iface u pv, recovered := true }] ∧ w' = (w.setCell ⟨g, 0, none⟩ (.int .i64 2)).setCell ⟨g, 1, none⟩ (.slice none 0 0) := by
  obtain ⟨f1, f2, f3, f4⟩ := var2_facts hv
  refine callsD_of_wpS Try.func103 rfl fun c₀ cs hu => ?_
  apply wpS_seq
  apply wpS_region
  simp [wpOpsS, go_sem, recoverD, hu, Try.ntmps103, Exit.thenS]
  refine wpS_cond (t := true) (by simp [Act.eval, Array.replicate]) ?_
  simp only [if_true]
  refine wpS_of_wp ?_
  go_wp2
  simp [bodyPostS, results, Try.results103]
theorem catch_idle (p : Addr) (w : World) :
    CallsD Try.prog 103 #[.pointer (some p)] .returning w fun e u' w' => e = .returned (.tuple #[]) ∧ u' = .returning ∧ w' = w := by
  refine callsD_of_wpS Try.func103 rfl fun c₀ cs hu => ?_
  apply wpS_seq
  apply wpS_region
  simp [wpOpsS, go_sem, recoverD, hu, Try.ntmps103, Exit.thenS]
  refine wpS_cond (t := false) (by simp [Act.eval, Array.replicate]) ?_
  simp only [Bool.false_eq_true, if_false]
  refine wpS_of_wp (wp_skip ?_)
  cases c₀
  simp_all [bodyPostS, results, Try.results103]

set_option maxRecDepth 100000 in
theorem face_ok (k : Nat) (caps : Array Value) (c : Int) (l : List Nat) (w : World) (hE : ∀ w : World, (callFunc k caps).run Try.prog w = .ok (.enter k caps) w)
    (hC : Calls Try.prog k caps (w.alloc (.cells #[.int .i64 0, .slice none 0 0] 33)) fun e w' => ∃ v, e = .returned (.agg #[.int .i64 c, v]) ∧ Owx w' (w.heap.size + 1) v l ∧ Below (w.heap.size + 1) (w.alloc (.cells #[.int .i64 0, .slice none 0 0] 33)) w') :
    Calls Try.prog 88 #[.func (.func k) #[] caps] w fun e w' => ∃ v, e = .returned (.agg #[.int .i64 c, v]) ∧ Owx w' w.heap.size v l ∧ Below w.heap.size w w' := by
  have hmf : ∀ (fn : Fn) (first cap : Array Value) (w : World), (Instr.makeFunc fn first cap).run Try.prog w = .ok (.func fn first cap) w := fun _ _ _ _ => rfl
  replace hC := hid hC
  go_enter_defers Try.func88, Try.ntmps88
  go_wp2_with fail
  refine hC.out.mono ?_
  rintro e w1 ⟨v, rfl, O, B⟩
  have V := var_keep B (heap_alloc_new w (.cells #[.int .i64 0, .slice none 0 0] 33)) (by omega)
  obtain ⟨f1, f2, f3, f4⟩ := var2_facts V
  have B1 := (below_alloc1 w (.cells #[.int .i64 0, .slice none 0 0] 33)).trans (B.mono (by omega))
  obtain ⟨q, cp, rfl, -, -, -⟩ := O.rd.parts
  have hset := hid (var2_set (x' := .int .i64 c) (y' := .slice q l.length cp) V)
  have hbel := hid (below_set2 (x := .int .i64 c) (y := .slice q l.length cp) B1 (Nat.le_refl _))
  have hown := hid ((O.set2 (g := w.heap.size) (x := .int .i64 c) (y := .slice q l.length cp) (by omega)).mono (base' := w.heap.size) (by omega))
  clear V B B1 O hC
  go_wp2
  refine leaves_cons (f := 103) (args := #[.pointer (some ⟨w.heap.size, 0, none⟩)]) (by simp) (by simp [go_sem]) ?_
  refine (catch_idle _ _).mono ?_
  rintro e u' w'' ⟨rfl, rfl, rfl⟩
  exact ⟨.agg #[.int .i64 c, .slice q l.length cp], results_cell_row rfl _ _ w.heap.size 33 _ _ _ rfl hset.out Try.underlying33 rfl (by kernel_rfl), _, rfl, hown.out, hbel.out⟩

set_option maxRecDepth 100000 in
theorem face_no (k : Nat) (caps : Array Value) (u : TypeId) (pv : Value) (w : World) (hE : ∀ w : World, (callFunc k caps).run Try.prog w = .ok (.enter k caps) w)
    (hC : Calls Try.prog k caps (w.alloc (.cells #[.int .i64 0, .slice none 0 0] 33)) fun e w' => e = .panicked [{ v := .iface u pv, recovered := false }] ∧ Below (w.heap.size + 1) (w.alloc (.cells #[.int .i64 0, .slice none 0 0] 33)) w') :
    Calls Try.prog 88 #[.func (.func k) #[] caps] w fun e w' => e = .returned (.agg #[.int .i64 2, .slice none 0 0]) ∧ Below w.heap.size w w' := by
  have hmf : ∀ (fn : Fn) (first cap : Array Value) (w : World), (Instr.makeFunc fn first cap).run Try.prog w = .ok (.func fn first cap) w := fun _ _ _ _ => rfl
  replace hC := hid hC
  go_enter_defers Try.func88, Try.ntmps88
  go_wp2_with fail
  refine hC.out.mono ?_
  rintro e w1 ⟨rfl, B⟩
  have V := var_keep B (heap_alloc_new w (.cells #[.int .i64 0, .slice none 0 0] 33)) (by omega)
  have B1 := (below_alloc1 w (.cells #[.int .i64 0, .slice none 0 0] 33)).trans (B.mono (by omega))
  have hset := hid (var2_set (x' := .int .i64 2) (y' := .slice none 0 0) V)
  have hbel := hid (below_set2 (x := .int .i64 2) (y := .slice none 0 0) B1 (Nat.le_refl _))
  refine leaves_cons (f := 103) (args := #[.pointer (some ⟨w.heap.size, 0, none⟩)]) (by simp) (by simp [go_sem]) ?_
  refine (catch_panic w.heap.size u pv _ _ _ V).mono ?_
  rintro e u' w'' ⟨rfl, rfl, rfl⟩
  exact ⟨.agg #[.int .i64 2, .slice none 0 0], results_cell_row rfl _ _ w.heap.size 33 _ _ _ rfl hset.out Try.underlying33 rfl (by kernel_rfl), rfl, hbel.out⟩
end Go.Proofs.Ytcmafbgfdddnnaa.W
