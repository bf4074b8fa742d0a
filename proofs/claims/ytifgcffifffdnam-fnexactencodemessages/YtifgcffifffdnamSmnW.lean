/-
  The fault of a message: what the model's l7Needs, l7Form and MessageFault answer. Generated text.
-/
import Derived.Test.YtifgcffifffdnamWofW
namespace Go.Proofs.Ytifgcffifffdnam.W
open Go.ChangeShapes Go.WideShapes Go.ChangeAt Go.RowKit
open Go.Proofs.Ytifgcffifffdnam.M

set_option maxHeartbeats 2000000 in
set_option maxRecDepth 100000 in
theorem needA_ok (g : Nat) (k s n : Int) (a : Option Addr) (c : Nat) (w : World) (hV : w.heap[g]? = some (.cells #[.int .i64 k, .int .i64 s, .int .i64 n, .int .i64 0, .int .i64 0, .int .i64 0, .int .i64 0, .int .i64 0, .int .i64 0, .slice a 0 c] 45)) :
    Calls Try.prog 67 #[.pointer (some ⟨g, 0, none⟩), .bool true, .bool true, .bool false, .bool false] w fun e w' => e = .returned (.bool true) ∧ Below w.heap.size w w' := by
  obtain ⟨⟨f0, f1, f2, f3, f4, f5, f6, f7, f8, f9⟩, -⟩ := v10_facts hV
  clear hV
  have y1 := guard_claim
  go_enter Try.func67, Try.ntmps67
  go_wp2
  go_ret
  exact ⟨rfl, by first | exact Below.refl _ _ | exact below_alloc1 _ _⟩
set_option maxHeartbeats 2000000 in
set_option maxRecDepth 100000 in
theorem needA_cn (g : Nat) (k s n cn ci cs cm op id' : Int) (a : Option Addr) (n0 c : Nat) (w : World) (hV : w.heap[g]? = some (.cells #[.int .i64 k, .int .i64 s, .int .i64 n, .int .i64 cn, .int .i64 ci, .int .i64 cs, .int .i64 cm, .int .i64 op, .int .i64 id', .slice a n0 c] 45)) (e : ¬ cn = 0) :
    Calls Try.prog 67 #[.pointer (some ⟨g, 0, none⟩), .bool true, .bool true, .bool false, .bool false] w fun e w' => e = .returned (.bool false) ∧ Below w.heap.size w w' := by
  obtain ⟨⟨f0, f1, f2, f3, f4, f5, f6, f7, f8, f9⟩, -⟩ := v10_facts hV
  clear hV
  have ne : (cn == 0) = false := beq_eq_false_iff_ne.2 e
  have y1 := guard_claim
  go_enter Try.func67, Try.ntmps67
  go_wp2
  go_ret
  exact ⟨rfl, by first | exact Below.refl _ _ | exact below_alloc1 _ _⟩
set_option maxHeartbeats 2000000 in
set_option maxRecDepth 100000 in
theorem needA_ci (g : Nat) (k s n ci cs cm op id' : Int) (a : Option Addr) (n0 c : Nat) (w : World) (hV : w.heap[g]? = some (.cells #[.int .i64 k, .int .i64 s, .int .i64 n, .int .i64 0, .int .i64 ci, .int .i64 cs, .int .i64 cm, .int .i64 op, .int .i64 id', .slice a n0 c] 45)) (e : ¬ ci = 0) :
    Calls Try.prog 67 #[.pointer (some ⟨g, 0, none⟩), .bool true, .bool true, .bool false, .bool false] w fun e w' => e = .returned (.bool false) ∧ Below w.heap.size w w' := by
  obtain ⟨⟨f0, f1, f2, f3, f4, f5, f6, f7, f8, f9⟩, -⟩ := v10_facts hV
  clear hV
  have ne : (ci == 0) = false := beq_eq_false_iff_ne.2 e
  have y1 := guard_claim
  go_enter Try.func67, Try.ntmps67
  go_wp2
  go_ret
  exact ⟨rfl, by first | exact Below.refl _ _ | exact below_alloc1 _ _⟩
set_option maxHeartbeats 2000000 in
set_option maxRecDepth 100000 in
theorem needA_cs (g : Nat) (k s n cs cm op id' : Int) (a : Option Addr) (n0 c : Nat) (w : World) (hV : w.heap[g]? = some (.cells #[.int .i64 k, .int .i64 s, .int .i64 n, .int .i64 0, .int .i64 0, .int .i64 cs, .int .i64 cm, .int .i64 op, .int .i64 id', .slice a n0 c] 45)) (e : ¬ cs = 0) :
    Calls Try.prog 67 #[.pointer (some ⟨g, 0, none⟩), .bool true, .bool true, .bool false, .bool false] w fun e w' => e = .returned (.bool false) ∧ Below w.heap.size w w' := by
  obtain ⟨⟨f0, f1, f2, f3, f4, f5, f6, f7, f8, f9⟩, -⟩ := v10_facts hV
  clear hV
  have ne : (cs == 0) = false := beq_eq_false_iff_ne.2 e
  have y1 := guard_claim
  go_enter Try.func67, Try.ntmps67
  go_wp2
  go_ret
  exact ⟨rfl, by first | exact Below.refl _ _ | exact below_alloc1 _ _⟩
set_option maxHeartbeats 2000000 in
set_option maxRecDepth 100000 in
theorem needA_cm (g : Nat) (k s n cm op id' : Int) (a : Option Addr) (n0 c : Nat) (w : World) (hV : w.heap[g]? = some (.cells #[.int .i64 k, .int .i64 s, .int .i64 n, .int .i64 0, .int .i64 0, .int .i64 0, .int .i64 cm, .int .i64 op, .int .i64 id', .slice a n0 c] 45)) (e : ¬ cm = 0) :
    Calls Try.prog 67 #[.pointer (some ⟨g, 0, none⟩), .bool true, .bool true, .bool false, .bool false] w fun e w' => e = .returned (.bool false) ∧ Below w.heap.size w w' := by
  obtain ⟨⟨f0, f1, f2, f3, f4, f5, f6, f7, f8, f9⟩, -⟩ := v10_facts hV
  clear hV
  have ne : (cm == 0) = false := beq_eq_false_iff_ne.2 e
  have y1 := guard_claim
  go_enter Try.func67, Try.ntmps67
  go_wp2
  go_ret
  exact ⟨rfl, by first | exact Below.refl _ _ | exact below_alloc1 _ _⟩
set_option maxHeartbeats 2000000 in
set_option maxRecDepth 100000 in
theorem needA_op (g : Nat) (k s n op id' : Int) (a : Option Addr) (n0 c : Nat) (w : World) (hV : w.heap[g]? = some (.cells #[.int .i64 k, .int .i64 s, .int .i64 n, .int .i64 0, .int .i64 0, .int .i64 0, .int .i64 0, .int .i64 op, .int .i64 id', .slice a n0 c] 45)) (e : ¬ op = 0) :
    Calls Try.prog 67 #[.pointer (some ⟨g, 0, none⟩), .bool true, .bool true, .bool false, .bool false] w fun e w' => e = .returned (.bool false) ∧ Below w.heap.size w w' := by
  obtain ⟨⟨f0, f1, f2, f3, f4, f5, f6, f7, f8, f9⟩, -⟩ := v10_facts hV
  clear hV
  have ne : (op == 0) = false := beq_eq_false_iff_ne.2 e
  replace e := hid e
  have y1 := guard_claim
  go_enter Try.func67, Try.ntmps67
  go_wp2
  go_ret
  exact ⟨rfl, by first | exact Below.refl _ _ | exact below_alloc1 _ _⟩
set_option maxHeartbeats 2000000 in
set_option maxRecDepth 100000 in
theorem needA_id (g : Nat) (k s n id' : Int) (a : Option Addr) (n0 c : Nat) (w : World) (hV : w.heap[g]? = some (.cells #[.int .i64 k, .int .i64 s, .int .i64 n, .int .i64 0, .int .i64 0, .int .i64 0, .int .i64 0, .int .i64 0, .int .i64 id', .slice a n0 c] 45)) (e : ¬ id' = 0) :
    Calls Try.prog 67 #[.pointer (some ⟨g, 0, none⟩), .bool true, .bool true, .bool false, .bool false] w fun e w' => e = .returned (.bool false) ∧ Below w.heap.size w w' := by
  obtain ⟨⟨f0, f1, f2, f3, f4, f5, f6, f7, f8, f9⟩, -⟩ := v10_facts hV
  clear hV
  have ne : (id' == 0) = false := beq_eq_false_iff_ne.2 e
  replace e := hid e
  have y1 := guard_claim
  go_enter Try.func67, Try.ntmps67
  go_wp2
  go_ret
  exact ⟨rfl, by first | exact Below.refl _ _ | exact below_alloc1 _ _⟩
set_option maxHeartbeats 2000000 in
set_option maxRecDepth 100000 in
theorem needA_l (g : Nat) (k s n : Int) (a : Option Addr) (n0 c : Nat) (w : World) (hV : w.heap[g]? = some (.cells #[.int .i64 k, .int .i64 s, .int .i64 n, .int .i64 0, .int .i64 0, .int .i64 0, .int .i64 0, .int .i64 0, .int .i64 0, .slice a n0 c] 45)) (e : ¬ n0 = 0) :
    Calls Try.prog 67 #[.pointer (some ⟨g, 0, none⟩), .bool true, .bool true, .bool false, .bool false] w fun e w' => e = .returned (.bool false) ∧ Below w.heap.size w w' := by
  obtain ⟨⟨f0, f1, f2, f3, f4, f5, f6, f7, f8, f9⟩, -⟩ := v10_facts hV
  clear hV
  have ne : ((n0 : Int) == 0) = false := beq_eq_false_iff_ne.2 (by omega)
  replace e := hid e
  have y1 := guard_claim
  go_enter Try.func67, Try.ntmps67
  go_wp2
  go_ret
  exact ⟨rfl, by first | exact Below.refl _ _ | exact below_alloc1 _ _⟩
theorem needA (g : Nat) (k s n cn ci cs cm op id' : Int) (a : Option Addr) (n0 c : Nat) (w : World) (hV : w.heap[g]? = some (.cells #[.int .i64 k, .int .i64 s, .int .i64 n, .int .i64 cn, .int .i64 ci, .int .i64 cs, .int .i64 cm, .int .i64 op, .int .i64 id', .slice a n0 c] 45)) :
    Calls Try.prog 67 #[.pointer (some ⟨g, 0, none⟩), .bool true, .bool true, .bool false, .bool false] w fun e w' => ∃ t, e = .returned (.bool t) ∧ (t = true ↔ cn = 0 ∧ ci = 0 ∧ cs = 0 ∧ cm = 0 ∧ op = 0 ∧ id' = 0 ∧ n0 = 0) ∧ Below w.heap.size w w' := by
  by_cases e0 : cn = 0
  case neg => exact (needA_cn g k s n cn ci cs cm op id' a n0 c w hV e0).mono fun e w' ⟨h1, h2⟩ => ⟨false, h1, ⟨fun q => (by cases q), fun q => absurd q.1 e0⟩, h2⟩
  subst e0
  by_cases e1 : ci = 0
  case neg => exact (needA_ci g k s n ci cs cm op id' a n0 c w hV e1).mono fun e w' ⟨h1, h2⟩ => ⟨false, h1, ⟨fun q => (by cases q), fun q => absurd q.2.1 e1⟩, h2⟩
  subst e1
  by_cases e2 : cs = 0
  case neg => exact (needA_cs g k s n cs cm op id' a n0 c w hV e2).mono fun e w' ⟨h1, h2⟩ => ⟨false, h1, ⟨fun q => (by cases q), fun q => absurd q.2.2.1 e2⟩, h2⟩
  subst e2
  by_cases e3 : cm = 0
  case neg => exact (needA_cm g k s n cm op id' a n0 c w hV e3).mono fun e w' ⟨h1, h2⟩ => ⟨false, h1, ⟨fun q => (by cases q), fun q => absurd q.2.2.2.1 e3⟩, h2⟩
  subst e3
  by_cases e4 : op = 0
  case neg => exact (needA_op g k s n op id' a n0 c w hV e4).mono fun e w' ⟨h1, h2⟩ => ⟨false, h1, ⟨fun q => (by cases q), fun q => absurd q.2.2.2.2.1 e4⟩, h2⟩
  subst e4
  by_cases e5 : id' = 0
  case neg => exact (needA_id g k s n id' a n0 c w hV e5).mono fun e w' ⟨h1, h2⟩ => ⟨false, h1, ⟨fun q => (by cases q), fun q => absurd q.2.2.2.2.2.1 e5⟩, h2⟩
  subst e5
  by_cases e6 : n0 = 0
  case neg => exact (needA_l g k s n a n0 c w hV e6).mono fun e w' ⟨h1, h2⟩ => ⟨false, h1, ⟨fun q => (by cases q), fun q => absurd q.2.2.2.2.2.2 e6⟩, h2⟩
  subst e6
  exact (needA_ok g k s n a c w hV).mono fun e w' ⟨h1, h2⟩ => ⟨true, h1, ⟨fun _ => ⟨rfl, rfl, rfl, rfl, rfl, rfl, rfl⟩, fun _ => rfl⟩, h2⟩
set_option maxHeartbeats 2000000 in
set_option maxRecDepth 100000 in
theorem needB_ok (g : Nat) (k s : Int) (a : Option Addr) (c : Nat) (w : World) (hV : w.heap[g]? = some (.cells #[.int .i64 k, .int .i64 s, .int .i64 0, .int .i64 0, .int .i64 0, .int .i64 0, .int .i64 0, .int .i64 0, .int .i64 0, .slice a 0 c] 45)) :
    Calls Try.prog 67 #[.pointer (some ⟨g, 0, none⟩), .bool true, .bool false, .bool false, .bool false] w fun e w' => e = .returned (.bool true) ∧ Below w.heap.size w w' := by
  obtain ⟨⟨f0, f1, f2, f3, f4, f5, f6, f7, f8, f9⟩, -⟩ := v10_facts hV
  clear hV
  have y1 := guard_claim
  go_enter Try.func67, Try.ntmps67
  go_wp2
  go_ret
  exact ⟨rfl, by first | exact Below.refl _ _ | exact below_alloc1 _ _⟩
set_option maxHeartbeats 2000000 in
set_option maxRecDepth 100000 in
theorem needB_n (g : Nat) (k s n cn ci cs cm op id' : Int) (a : Option Addr) (n0 c : Nat) (w : World) (hV : w.heap[g]? = some (.cells #[.int .i64 k, .int .i64 s, .int .i64 n, .int .i64 cn, .int .i64 ci, .int .i64 cs, .int .i64 cm, .int .i64 op, .int .i64 id', .slice a n0 c] 45)) (e : ¬ n = 0) :
    Calls Try.prog 67 #[.pointer (some ⟨g, 0, none⟩), .bool true, .bool false, .bool false, .bool false] w fun e w' => e = .returned (.bool false) ∧ Below w.heap.size w w' := by
  obtain ⟨⟨f0, f1, f2, f3, f4, f5, f6, f7, f8, f9⟩, -⟩ := v10_facts hV
  clear hV
  have ne : (n == 0) = false := beq_eq_false_iff_ne.2 e
  replace e := hid e
  have y1 := guard_claim
  go_enter Try.func67, Try.ntmps67
  go_wp2
  go_ret
  exact ⟨rfl, by first | exact Below.refl _ _ | exact below_alloc1 _ _⟩
set_option maxHeartbeats 2000000 in
set_option maxRecDepth 100000 in
theorem needB_cn (g : Nat) (k s cn ci cs cm op id' : Int) (a : Option Addr) (n0 c : Nat) (w : World) (hV : w.heap[g]? = some (.cells #[.int .i64 k, .int .i64 s, .int .i64 0, .int .i64 cn, .int .i64 ci, .int .i64 cs, .int .i64 cm, .int .i64 op, .int .i64 id', .slice a n0 c] 45)) (e : ¬ cn = 0) :
    Calls Try.prog 67 #[.pointer (some ⟨g, 0, none⟩), .bool true, .bool false, .bool false, .bool false] w fun e w' => e = .returned (.bool false) ∧ Below w.heap.size w w' := by
  obtain ⟨⟨f0, f1, f2, f3, f4, f5, f6, f7, f8, f9⟩, -⟩ := v10_facts hV
  clear hV
  have ne : (cn == 0) = false := beq_eq_false_iff_ne.2 e
  have y1 := guard_claim
  go_enter Try.func67, Try.ntmps67
  go_wp2
  go_ret
  exact ⟨rfl, by first | exact Below.refl _ _ | exact below_alloc1 _ _⟩
set_option maxHeartbeats 2000000 in
set_option maxRecDepth 100000 in
theorem needB_ci (g : Nat) (k s ci cs cm op id' : Int) (a : Option Addr) (n0 c : Nat) (w : World) (hV : w.heap[g]? = some (.cells #[.int .i64 k, .int .i64 s, .int .i64 0, .int .i64 0, .int .i64 ci, .int .i64 cs, .int .i64 cm, .int .i64 op, .int .i64 id', .slice a n0 c] 45)) (e : ¬ ci = 0) :
    Calls Try.prog 67 #[.pointer (some ⟨g, 0, none⟩), .bool true, .bool false, .bool false, .bool false] w fun e w' => e = .returned (.bool false) ∧ Below w.heap.size w w' := by
  obtain ⟨⟨f0, f1, f2, f3, f4, f5, f6, f7, f8, f9⟩, -⟩ := v10_facts hV
  clear hV
  have ne : (ci == 0) = false := beq_eq_false_iff_ne.2 e
  have y1 := guard_claim
  go_enter Try.func67, Try.ntmps67
  go_wp2
  go_ret
  exact ⟨rfl, by first | exact Below.refl _ _ | exact below_alloc1 _ _⟩
set_option maxHeartbeats 2000000 in
set_option maxRecDepth 100000 in
theorem needB_cs (g : Nat) (k s cs cm op id' : Int) (a : Option Addr) (n0 c : Nat) (w : World) (hV : w.heap[g]? = some (.cells #[.int .i64 k, .int .i64 s, .int .i64 0, .int .i64 0, .int .i64 0, .int .i64 cs, .int .i64 cm, .int .i64 op, .int .i64 id', .slice a n0 c] 45)) (e : ¬ cs = 0) :
    Calls Try.prog 67 #[.pointer (some ⟨g, 0, none⟩), .bool true, .bool false, .bool false, .bool false] w fun e w' => e = .returned (.bool false) ∧ Below w.heap.size w w' := by
  obtain ⟨⟨f0, f1, f2, f3, f4, f5, f6, f7, f8, f9⟩, -⟩ := v10_facts hV
  clear hV
  have ne : (cs == 0) = false := beq_eq_false_iff_ne.2 e
  have y1 := guard_claim
  go_enter Try.func67, Try.ntmps67
  go_wp2
  go_ret
  exact ⟨rfl, by first | exact Below.refl _ _ | exact below_alloc1 _ _⟩
set_option maxHeartbeats 2000000 in
set_option maxRecDepth 100000 in
theorem needB_cm (g : Nat) (k s cm op id' : Int) (a : Option Addr) (n0 c : Nat) (w : World) (hV : w.heap[g]? = some (.cells #[.int .i64 k, .int .i64 s, .int .i64 0, .int .i64 0, .int .i64 0, .int .i64 0, .int .i64 cm, .int .i64 op, .int .i64 id', .slice a n0 c] 45)) (e : ¬ cm = 0) :
    Calls Try.prog 67 #[.pointer (some ⟨g, 0, none⟩), .bool true, .bool false, .bool false, .bool false] w fun e w' => e = .returned (.bool false) ∧ Below w.heap.size w w' := by
  obtain ⟨⟨f0, f1, f2, f3, f4, f5, f6, f7, f8, f9⟩, -⟩ := v10_facts hV
  clear hV
  have ne : (cm == 0) = false := beq_eq_false_iff_ne.2 e
  have y1 := guard_claim
  go_enter Try.func67, Try.ntmps67
  go_wp2
  go_ret
  exact ⟨rfl, by first | exact Below.refl _ _ | exact below_alloc1 _ _⟩
set_option maxHeartbeats 2000000 in
set_option maxRecDepth 100000 in
theorem needB_op (g : Nat) (k s op id' : Int) (a : Option Addr) (n0 c : Nat) (w : World) (hV : w.heap[g]? = some (.cells #[.int .i64 k, .int .i64 s, .int .i64 0, .int .i64 0, .int .i64 0, .int .i64 0, .int .i64 0, .int .i64 op, .int .i64 id', .slice a n0 c] 45)) (e : ¬ op = 0) :
    Calls Try.prog 67 #[.pointer (some ⟨g, 0, none⟩), .bool true, .bool false, .bool false, .bool false] w fun e w' => e = .returned (.bool false) ∧ Below w.heap.size w w' := by
  obtain ⟨⟨f0, f1, f2, f3, f4, f5, f6, f7, f8, f9⟩, -⟩ := v10_facts hV
  clear hV
  have ne : (op == 0) = false := beq_eq_false_iff_ne.2 e
  replace e := hid e
  have y1 := guard_claim
  go_enter Try.func67, Try.ntmps67
  go_wp2
  go_ret
  exact ⟨rfl, by first | exact Below.refl _ _ | exact below_alloc1 _ _⟩
set_option maxHeartbeats 2000000 in
set_option maxRecDepth 100000 in
theorem needB_id (g : Nat) (k s id' : Int) (a : Option Addr) (n0 c : Nat) (w : World) (hV : w.heap[g]? = some (.cells #[.int .i64 k, .int .i64 s, .int .i64 0, .int .i64 0, .int .i64 0, .int .i64 0, .int .i64 0, .int .i64 0, .int .i64 id', .slice a n0 c] 45)) (e : ¬ id' = 0) :
    Calls Try.prog 67 #[.pointer (some ⟨g, 0, none⟩), .bool true, .bool false, .bool false, .bool false] w fun e w' => e = .returned (.bool false) ∧ Below w.heap.size w w' := by
  obtain ⟨⟨f0, f1, f2, f3, f4, f5, f6, f7, f8, f9⟩, -⟩ := v10_facts hV
  clear hV
  have ne : (id' == 0) = false := beq_eq_false_iff_ne.2 e
  replace e := hid e
  have y1 := guard_claim
  go_enter Try.func67, Try.ntmps67
  go_wp2
  go_ret
  exact ⟨rfl, by first | exact Below.refl _ _ | exact below_alloc1 _ _⟩
set_option maxHeartbeats 2000000 in
set_option maxRecDepth 100000 in
theorem needB_l (g : Nat) (k s : Int) (a : Option Addr) (n0 c : Nat) (w : World) (hV : w.heap[g]? = some (.cells #[.int .i64 k, .int .i64 s, .int .i64 0, .int .i64 0, .int .i64 0, .int .i64 0, .int .i64 0, .int .i64 0, .int .i64 0, .slice a n0 c] 45)) (e : ¬ n0 = 0) :
    Calls Try.prog 67 #[.pointer (some ⟨g, 0, none⟩), .bool true, .bool false, .bool false, .bool false] w fun e w' => e = .returned (.bool false) ∧ Below w.heap.size w w' := by
  obtain ⟨⟨f0, f1, f2, f3, f4, f5, f6, f7, f8, f9⟩, -⟩ := v10_facts hV
  clear hV
  have ne : ((n0 : Int) == 0) = false := beq_eq_false_iff_ne.2 (by omega)
  replace e := hid e
  have y1 := guard_claim
  go_enter Try.func67, Try.ntmps67
  go_wp2
  go_ret
  exact ⟨rfl, by first | exact Below.refl _ _ | exact below_alloc1 _ _⟩
theorem needB (g : Nat) (k s n cn ci cs cm op id' : Int) (a : Option Addr) (n0 c : Nat) (w : World) (hV : w.heap[g]? = some (.cells #[.int .i64 k, .int .i64 s, .int .i64 n, .int .i64 cn, .int .i64 ci, .int .i64 cs, .int .i64 cm, .int .i64 op, .int .i64 id', .slice a n0 c] 45)) :
    Calls Try.prog 67 #[.pointer (some ⟨g, 0, none⟩), .bool true, .bool false, .bool false, .bool false] w fun e w' => ∃ t, e = .returned (.bool t) ∧ (t = true ↔ n = 0 ∧ cn = 0 ∧ ci = 0 ∧ cs = 0 ∧ cm = 0 ∧ op = 0 ∧ id' = 0 ∧ n0 = 0) ∧ Below w.heap.size w w' := by
  by_cases e0 : n = 0
  case neg => exact (needB_n g k s n cn ci cs cm op id' a n0 c w hV e0).mono fun e w' ⟨h1, h2⟩ => ⟨false, h1, ⟨fun q => (by cases q), fun q => absurd q.1 e0⟩, h2⟩
  subst e0
  by_cases e1 : cn = 0
  case neg => exact (needB_cn g k s cn ci cs cm op id' a n0 c w hV e1).mono fun e w' ⟨h1, h2⟩ => ⟨false, h1, ⟨fun q => (by cases q), fun q => absurd q.2.1 e1⟩, h2⟩
  subst e1
  by_cases e2 : ci = 0
  case neg => exact (needB_ci g k s ci cs cm op id' a n0 c w hV e2).mono fun e w' ⟨h1, h2⟩ => ⟨false, h1, ⟨fun q => (by cases q), fun q => absurd q.2.2.1 e2⟩, h2⟩
  subst e2
  by_cases e3 : cs = 0
  case neg => exact (needB_cs g k s cs cm op id' a n0 c w hV e3).mono fun e w' ⟨h1, h2⟩ => ⟨false, h1, ⟨fun q => (by cases q), fun q => absurd q.2.2.2.1 e3⟩, h2⟩
  subst e3
  by_cases e4 : cm = 0
  case neg => exact (needB_cm g k s cm op id' a n0 c w hV e4).mono fun e w' ⟨h1, h2⟩ => ⟨false, h1, ⟨fun q => (by cases q), fun q => absurd q.2.2.2.2.1 e4⟩, h2⟩
  subst e4
  by_cases e5 : op = 0
  case neg => exact (needB_op g k s op id' a n0 c w hV e5).mono fun e w' ⟨h1, h2⟩ => ⟨false, h1, ⟨fun q => (by cases q), fun q => absurd q.2.2.2.2.2.1 e5⟩, h2⟩
  subst e5
  by_cases e6 : id' = 0
  case neg => exact (needB_id g k s id' a n0 c w hV e6).mono fun e w' ⟨h1, h2⟩ => ⟨false, h1, ⟨fun q => (by cases q), fun q => absurd q.2.2.2.2.2.2.1 e6⟩, h2⟩
  subst e6
  by_cases e7 : n0 = 0
  case neg => exact (needB_l g k s a n0 c w hV e7).mono fun e w' ⟨h1, h2⟩ => ⟨false, h1, ⟨fun q => (by cases q), fun q => absurd q.2.2.2.2.2.2.2 e7⟩, h2⟩
  subst e7
  exact (needB_ok g k s a c w hV).mono fun e w' ⟨h1, h2⟩ => ⟨true, h1, ⟨fun _ => ⟨rfl, rfl, rfl, rfl, rfl, rfl, rfl, rfl⟩, fun _ => rfl⟩, h2⟩
set_option maxHeartbeats 2000000 in
set_option maxRecDepth 100000 in
theorem needC_ok (g : Nat) (k cn ci cs cm : Int) (a : Option Addr) (c : Nat) (w : World) (hV : w.heap[g]? = some (.cells #[.int .i64 k, .int .i64 0, .int .i64 0, .int .i64 cn, .int .i64 ci, .int .i64 cs, .int .i64 cm, .int .i64 0, .int .i64 0, .slice a 0 c] 45)) :
    Calls Try.prog 67 #[.pointer (some ⟨g, 0, none⟩), .bool false, .bool false, .bool true, .bool false] w fun e w' => e = .returned (.bool true) ∧ Below w.heap.size w w' := by
  obtain ⟨⟨f0, f1, f2, f3, f4, f5, f6, f7, f8, f9⟩, -⟩ := v10_facts hV
  clear hV
  have y1 := guard_claim
  go_enter Try.func67, Try.ntmps67
  go_wp2
  go_ret
  exact ⟨rfl, by first | exact Below.refl _ _ | exact below_alloc1 _ _⟩
set_option maxHeartbeats 2000000 in
set_option maxRecDepth 100000 in
theorem needC_s (g : Nat) (k s n cn ci cs cm op id' : Int) (a : Option Addr) (n0 c : Nat) (w : World) (hV : w.heap[g]? = some (.cells #[.int .i64 k, .int .i64 s, .int .i64 n, .int .i64 cn, .int .i64 ci, .int .i64 cs, .int .i64 cm, .int .i64 op, .int .i64 id', .slice a n0 c] 45)) (e : ¬ s = 0) :
    Calls Try.prog 67 #[.pointer (some ⟨g, 0, none⟩), .bool false, .bool false, .bool true, .bool false] w fun e w' => e = .returned (.bool false) ∧ Below w.heap.size w w' := by
  obtain ⟨⟨f0, f1, f2, f3, f4, f5, f6, f7, f8, f9⟩, -⟩ := v10_facts hV
  clear hV
  have ne : (s == 0) = false := beq_eq_false_iff_ne.2 e
  replace e := hid e
  have y1 := guard_claim
  go_enter Try.func67, Try.ntmps67
  go_wp2
  go_ret
  exact ⟨rfl, by first | exact Below.refl _ _ | exact below_alloc1 _ _⟩
set_option maxHeartbeats 2000000 in
set_option maxRecDepth 100000 in
theorem needC_n (g : Nat) (k n cn ci cs cm op id' : Int) (a : Option Addr) (n0 c : Nat) (w : World) (hV : w.heap[g]? = some (.cells #[.int .i64 k, .int .i64 0, .int .i64 n, .int .i64 cn, .int .i64 ci, .int .i64 cs, .int .i64 cm, .int .i64 op, .int .i64 id', .slice a n0 c] 45)) (e : ¬ n = 0) :
    Calls Try.prog 67 #[.pointer (some ⟨g, 0, none⟩), .bool false, .bool false, .bool true, .bool false] w fun e w' => e = .returned (.bool false) ∧ Below w.heap.size w w' := by
  obtain ⟨⟨f0, f1, f2, f3, f4, f5, f6, f7, f8, f9⟩, -⟩ := v10_facts hV
  clear hV
  have ne : (n == 0) = false := beq_eq_false_iff_ne.2 e
  replace e := hid e
  have y1 := guard_claim
  go_enter Try.func67, Try.ntmps67
  go_wp2
  go_ret
  exact ⟨rfl, by first | exact Below.refl _ _ | exact below_alloc1 _ _⟩
set_option maxHeartbeats 2000000 in
set_option maxRecDepth 100000 in
theorem needC_op (g : Nat) (k cn ci cs cm op id' : Int) (a : Option Addr) (n0 c : Nat) (w : World) (hV : w.heap[g]? = some (.cells #[.int .i64 k, .int .i64 0, .int .i64 0, .int .i64 cn, .int .i64 ci, .int .i64 cs, .int .i64 cm, .int .i64 op, .int .i64 id', .slice a n0 c] 45)) (e : ¬ op = 0) :
    Calls Try.prog 67 #[.pointer (some ⟨g, 0, none⟩), .bool false, .bool false, .bool true, .bool false] w fun e w' => e = .returned (.bool false) ∧ Below w.heap.size w w' := by
  obtain ⟨⟨f0, f1, f2, f3, f4, f5, f6, f7, f8, f9⟩, -⟩ := v10_facts hV
  clear hV
  have ne : (op == 0) = false := beq_eq_false_iff_ne.2 e
  replace e := hid e
  have y1 := guard_claim
  go_enter Try.func67, Try.ntmps67
  go_wp2
  go_ret
  exact ⟨rfl, by first | exact Below.refl _ _ | exact below_alloc1 _ _⟩
set_option maxHeartbeats 2000000 in
set_option maxRecDepth 100000 in
theorem needC_id (g : Nat) (k cn ci cs cm id' : Int) (a : Option Addr) (n0 c : Nat) (w : World) (hV : w.heap[g]? = some (.cells #[.int .i64 k, .int .i64 0, .int .i64 0, .int .i64 cn, .int .i64 ci, .int .i64 cs, .int .i64 cm, .int .i64 0, .int .i64 id', .slice a n0 c] 45)) (e : ¬ id' = 0) :
    Calls Try.prog 67 #[.pointer (some ⟨g, 0, none⟩), .bool false, .bool false, .bool true, .bool false] w fun e w' => e = .returned (.bool false) ∧ Below w.heap.size w w' := by
  obtain ⟨⟨f0, f1, f2, f3, f4, f5, f6, f7, f8, f9⟩, -⟩ := v10_facts hV
  clear hV
  have ne : (id' == 0) = false := beq_eq_false_iff_ne.2 e
  replace e := hid e
  have y1 := guard_claim
  go_enter Try.func67, Try.ntmps67
  go_wp2
  go_ret
  exact ⟨rfl, by first | exact Below.refl _ _ | exact below_alloc1 _ _⟩
set_option maxHeartbeats 2000000 in
set_option maxRecDepth 100000 in
theorem needC_l (g : Nat) (k cn ci cs cm : Int) (a : Option Addr) (n0 c : Nat) (w : World) (hV : w.heap[g]? = some (.cells #[.int .i64 k, .int .i64 0, .int .i64 0, .int .i64 cn, .int .i64 ci, .int .i64 cs, .int .i64 cm, .int .i64 0, .int .i64 0, .slice a n0 c] 45)) (e : ¬ n0 = 0) :
    Calls Try.prog 67 #[.pointer (some ⟨g, 0, none⟩), .bool false, .bool false, .bool true, .bool false] w fun e w' => e = .returned (.bool false) ∧ Below w.heap.size w w' := by
  obtain ⟨⟨f0, f1, f2, f3, f4, f5, f6, f7, f8, f9⟩, -⟩ := v10_facts hV
  clear hV
  have ne : ((n0 : Int) == 0) = false := beq_eq_false_iff_ne.2 (by omega)
  replace e := hid e
  have y1 := guard_claim
  go_enter Try.func67, Try.ntmps67
  go_wp2
  go_ret
  exact ⟨rfl, by first | exact Below.refl _ _ | exact below_alloc1 _ _⟩
theorem needC (g : Nat) (k s n cn ci cs cm op id' : Int) (a : Option Addr) (n0 c : Nat) (w : World) (hV : w.heap[g]? = some (.cells #[.int .i64 k, .int .i64 s, .int .i64 n, .int .i64 cn, .int .i64 ci, .int .i64 cs, .int .i64 cm, .int .i64 op, .int .i64 id', .slice a n0 c] 45)) :
    Calls Try.prog 67 #[.pointer (some ⟨g, 0, none⟩), .bool false, .bool false, .bool true, .bool false] w fun e w' => ∃ t, e = .returned (.bool t) ∧ (t = true ↔ s = 0 ∧ n = 0 ∧ op = 0 ∧ id' = 0 ∧ n0 = 0) ∧ Below w.heap.size w w' := by
  by_cases e0 : s = 0
  case neg => exact (needC_s g k s n cn ci cs cm op id' a n0 c w hV e0).mono fun e w' ⟨h1, h2⟩ => ⟨false, h1, ⟨fun q => (by cases q), fun q => absurd q.1 e0⟩, h2⟩
  subst e0
  by_cases e1 : n = 0
  case neg => exact (needC_n g k n cn ci cs cm op id' a n0 c w hV e1).mono fun e w' ⟨h1, h2⟩ => ⟨false, h1, ⟨fun q => (by cases q), fun q => absurd q.2.1 e1⟩, h2⟩
  subst e1
  by_cases e2 : op = 0
  case neg => exact (needC_op g k cn ci cs cm op id' a n0 c w hV e2).mono fun e w' ⟨h1, h2⟩ => ⟨false, h1, ⟨fun q => (by cases q), fun q => absurd q.2.2.1 e2⟩, h2⟩
  subst e2
  by_cases e3 : id' = 0
  case neg => exact (needC_id g k cn ci cs cm id' a n0 c w hV e3).mono fun e w' ⟨h1, h2⟩ => ⟨false, h1, ⟨fun q => (by cases q), fun q => absurd q.2.2.2.1 e3⟩, h2⟩
  subst e3
  by_cases e4 : n0 = 0
  case neg => exact (needC_l g k cn ci cs cm a n0 c w hV e4).mono fun e w' ⟨h1, h2⟩ => ⟨false, h1, ⟨fun q => (by cases q), fun q => absurd q.2.2.2.2 e4⟩, h2⟩
  subst e4
  exact (needC_ok g k cn ci cs cm a c w hV).mono fun e w' ⟨h1, h2⟩ => ⟨true, h1, ⟨fun _ => ⟨rfl, rfl, rfl, rfl, rfl⟩, fun _ => rfl⟩, h2⟩
set_option maxHeartbeats 2000000 in
set_option maxRecDepth 100000 in
theorem needD_ok (g : Nat) (k op id' : Int) (a : Option Addr) (n0 c : Nat) (w : World) (hV : w.heap[g]? = some (.cells #[.int .i64 k, .int .i64 0, .int .i64 0, .int .i64 0, .int .i64 0, .int .i64 0, .int .i64 0, .int .i64 op, .int .i64 id', .slice a n0 c] 45)) :
    Calls Try.prog 67 #[.pointer (some ⟨g, 0, none⟩), .bool false, .bool false, .bool false, .bool true] w fun e w' => e = .returned (.bool true) ∧ Below w.heap.size w w' := by
  obtain ⟨⟨f0, f1, f2, f3, f4, f5, f6, f7, f8, f9⟩, -⟩ := v10_facts hV
  clear hV
  have y1 := guard_claim
  go_enter Try.func67, Try.ntmps67
  go_wp2
  go_ret
  exact ⟨rfl, by first | exact Below.refl _ _ | exact below_alloc1 _ _⟩
set_option maxHeartbeats 2000000 in
set_option maxRecDepth 100000 in
theorem needD_s (g : Nat) (k s n cn ci cs cm op id' : Int) (a : Option Addr) (n0 c : Nat) (w : World) (hV : w.heap[g]? = some (.cells #[.int .i64 k, .int .i64 s, .int .i64 n, .int .i64 cn, .int .i64 ci, .int .i64 cs, .int .i64 cm, .int .i64 op, .int .i64 id', .slice a n0 c] 45)) (e : ¬ s = 0) :
    Calls Try.prog 67 #[.pointer (some ⟨g, 0, none⟩), .bool false, .bool false, .bool false, .bool true] w fun e w' => e = .returned (.bool false) ∧ Below w.heap.size w w' := by
  obtain ⟨⟨f0, f1, f2, f3, f4, f5, f6, f7, f8, f9⟩, -⟩ := v10_facts hV
  clear hV
  have ne : (s == 0) = false := beq_eq_false_iff_ne.2 e
  replace e := hid e
  have y1 := guard_claim
  go_enter Try.func67, Try.ntmps67
  go_wp2
  go_ret
  exact ⟨rfl, by first | exact Below.refl _ _ | exact below_alloc1 _ _⟩
set_option maxHeartbeats 2000000 in
set_option maxRecDepth 100000 in
theorem needD_n (g : Nat) (k n cn ci cs cm op id' : Int) (a : Option Addr) (n0 c : Nat) (w : World) (hV : w.heap[g]? = some (.cells #[.int .i64 k, .int .i64 0, .int .i64 n, .int .i64 cn, .int .i64 ci, .int .i64 cs, .int .i64 cm, .int .i64 op, .int .i64 id', .slice a n0 c] 45)) (e : ¬ n = 0) :
    Calls Try.prog 67 #[.pointer (some ⟨g, 0, none⟩), .bool false, .bool false, .bool false, .bool true] w fun e w' => e = .returned (.bool false) ∧ Below w.heap.size w w' := by
  obtain ⟨⟨f0, f1, f2, f3, f4, f5, f6, f7, f8, f9⟩, -⟩ := v10_facts hV
  clear hV
  have ne : (n == 0) = false := beq_eq_false_iff_ne.2 e
  replace e := hid e
  have y1 := guard_claim
  go_enter Try.func67, Try.ntmps67
  go_wp2
  go_ret
  exact ⟨rfl, by first | exact Below.refl _ _ | exact below_alloc1 _ _⟩
set_option maxHeartbeats 2000000 in
set_option maxRecDepth 100000 in
theorem needD_cn (g : Nat) (k cn ci cs cm op id' : Int) (a : Option Addr) (n0 c : Nat) (w : World) (hV : w.heap[g]? = some (.cells #[.int .i64 k, .int .i64 0, .int .i64 0, .int .i64 cn, .int .i64 ci, .int .i64 cs, .int .i64 cm, .int .i64 op, .int .i64 id', .slice a n0 c] 45)) (e : ¬ cn = 0) :
    Calls Try.prog 67 #[.pointer (some ⟨g, 0, none⟩), .bool false, .bool false, .bool false, .bool true] w fun e w' => e = .returned (.bool false) ∧ Below w.heap.size w w' := by
  obtain ⟨⟨f0, f1, f2, f3, f4, f5, f6, f7, f8, f9⟩, -⟩ := v10_facts hV
  clear hV
  have ne : (cn == 0) = false := beq_eq_false_iff_ne.2 e
  have y1 := guard_claim
  go_enter Try.func67, Try.ntmps67
  go_wp2
  go_ret
  exact ⟨rfl, by first | exact Below.refl _ _ | exact below_alloc1 _ _⟩
set_option maxHeartbeats 2000000 in
set_option maxRecDepth 100000 in
theorem needD_ci (g : Nat) (k ci cs cm op id' : Int) (a : Option Addr) (n0 c : Nat) (w : World) (hV : w.heap[g]? = some (.cells #[.int .i64 k, .int .i64 0, .int .i64 0, .int .i64 0, .int .i64 ci, .int .i64 cs, .int .i64 cm, .int .i64 op, .int .i64 id', .slice a n0 c] 45)) (e : ¬ ci = 0) :
    Calls Try.prog 67 #[.pointer (some ⟨g, 0, none⟩), .bool false, .bool false, .bool false, .bool true] w fun e w' => e = .returned (.bool false) ∧ Below w.heap.size w w' := by
  obtain ⟨⟨f0, f1, f2, f3, f4, f5, f6, f7, f8, f9⟩, -⟩ := v10_facts hV
  clear hV
  have ne : (ci == 0) = false := beq_eq_false_iff_ne.2 e
  have y1 := guard_claim
  go_enter Try.func67, Try.ntmps67
  go_wp2
  go_ret
  exact ⟨rfl, by first | exact Below.refl _ _ | exact below_alloc1 _ _⟩
set_option maxHeartbeats 2000000 in
set_option maxRecDepth 100000 in
theorem needD_cs (g : Nat) (k cs cm op id' : Int) (a : Option Addr) (n0 c : Nat) (w : World) (hV : w.heap[g]? = some (.cells #[.int .i64 k, .int .i64 0, .int .i64 0, .int .i64 0, .int .i64 0, .int .i64 cs, .int .i64 cm, .int .i64 op, .int .i64 id', .slice a n0 c] 45)) (e : ¬ cs = 0) :
    Calls Try.prog 67 #[.pointer (some ⟨g, 0, none⟩), .bool false, .bool false, .bool false, .bool true] w fun e w' => e = .returned (.bool false) ∧ Below w.heap.size w w' := by
  obtain ⟨⟨f0, f1, f2, f3, f4, f5, f6, f7, f8, f9⟩, -⟩ := v10_facts hV
  clear hV
  have ne : (cs == 0) = false := beq_eq_false_iff_ne.2 e
  have y1 := guard_claim
  go_enter Try.func67, Try.ntmps67
  go_wp2
  go_ret
  exact ⟨rfl, by first | exact Below.refl _ _ | exact below_alloc1 _ _⟩
set_option maxHeartbeats 2000000 in
set_option maxRecDepth 100000 in
theorem needD_cm (g : Nat) (k cm op id' : Int) (a : Option Addr) (n0 c : Nat) (w : World) (hV : w.heap[g]? = some (.cells #[.int .i64 k, .int .i64 0, .int .i64 0, .int .i64 0, .int .i64 0, .int .i64 0, .int .i64 cm, .int .i64 op, .int .i64 id', .slice a n0 c] 45)) (e : ¬ cm = 0) :
    Calls Try.prog 67 #[.pointer (some ⟨g, 0, none⟩), .bool false, .bool false, .bool false, .bool true] w fun e w' => e = .returned (.bool false) ∧ Below w.heap.size w w' := by
  obtain ⟨⟨f0, f1, f2, f3, f4, f5, f6, f7, f8, f9⟩, -⟩ := v10_facts hV
  clear hV
  have ne : (cm == 0) = false := beq_eq_false_iff_ne.2 e
  have y1 := guard_claim
  go_enter Try.func67, Try.ntmps67
  go_wp2
  go_ret
  exact ⟨rfl, by first | exact Below.refl _ _ | exact below_alloc1 _ _⟩
theorem needD (g : Nat) (k s n cn ci cs cm op id' : Int) (a : Option Addr) (n0 c : Nat) (w : World) (hV : w.heap[g]? = some (.cells #[.int .i64 k, .int .i64 s, .int .i64 n, .int .i64 cn, .int .i64 ci, .int .i64 cs, .int .i64 cm, .int .i64 op, .int .i64 id', .slice a n0 c] 45)) :
    Calls Try.prog 67 #[.pointer (some ⟨g, 0, none⟩), .bool false, .bool false, .bool false, .bool true] w fun e w' => ∃ t, e = .returned (.bool t) ∧ (t = true ↔ s = 0 ∧ n = 0 ∧ cn = 0 ∧ ci = 0 ∧ cs = 0 ∧ cm = 0) ∧ Below w.heap.size w w' := by
  by_cases e0 : s = 0
  case neg => exact (needD_s g k s n cn ci cs cm op id' a n0 c w hV e0).mono fun e w' ⟨h1, h2⟩ => ⟨false, h1, ⟨fun q => (by cases q), fun q => absurd q.1 e0⟩, h2⟩
  subst e0
  by_cases e1 : n = 0
  case neg => exact (needD_n g k n cn ci cs cm op id' a n0 c w hV e1).mono fun e w' ⟨h1, h2⟩ => ⟨false, h1, ⟨fun q => (by cases q), fun q => absurd q.2.1 e1⟩, h2⟩
  subst e1
  by_cases e2 : cn = 0
  case neg => exact (needD_cn g k cn ci cs cm op id' a n0 c w hV e2).mono fun e w' ⟨h1, h2⟩ => ⟨false, h1, ⟨fun q => (by cases q), fun q => absurd q.2.2.1 e2⟩, h2⟩
  subst e2
  by_cases e3 : ci = 0
  case neg => exact (needD_ci g k ci cs cm op id' a n0 c w hV e3).mono fun e w' ⟨h1, h2⟩ => ⟨false, h1, ⟨fun q => (by cases q), fun q => absurd q.2.2.2.1 e3⟩, h2⟩
  subst e3
  by_cases e4 : cs = 0
  case neg => exact (needD_cs g k cs cm op id' a n0 c w hV e4).mono fun e w' ⟨h1, h2⟩ => ⟨false, h1, ⟨fun q => (by cases q), fun q => absurd q.2.2.2.2.1 e4⟩, h2⟩
  subst e4
  by_cases e5 : cm = 0
  case neg => exact (needD_cm g k cm op id' a n0 c w hV e5).mono fun e w' ⟨h1, h2⟩ => ⟨false, h1, ⟨fun q => (by cases q), fun q => absurd q.2.2.2.2.2 e5⟩, h2⟩
  subst e5
  exact (needD_ok g k op id' a n0 c w hV).mono fun e w' ⟨h1, h2⟩ => ⟨true, h1, ⟨fun _ => ⟨rfl, rfl, rfl, rfl, rfl, rfl⟩, fun _ => rfl⟩, h2⟩
end Go.Proofs.Ytifgcffifffdnam.W
