/-
  An element of an array of bytes that is a value.
-/
import Derived.Test.YtbfdbicddmffnabArr
namespace Go.Proofs.Ytbfdbicddmffnab.W
open Go.ChangeShapes Go.WideShapes Go.ChangeAt Go.RowKit
open Go.Proofs.Ytbfdbicddmffnab.M

theorem size8 (w : World) : (sizeOf 5).run Try.prog w = .ok 1 w := by kernel_rfl
theorem agg8 (w : World) : (isAgg 5).run Try.prog w = .ok false w := by kernel_rfl
theorem idx_arr (T : TypeId) (n : Nat) (hu : Try.prog.underlying T = some (.array n 5)) (l : List Nat) (hl : l.length = n) (k : Nat) (hk : k < n) (w : World) :
    (Instr.index T (.agg (arr l)) (.int .i64 (k : Int))).run Try.prog w = .ok (.int .u8 (gt l k : Nat)) w := by
  have h2 : (arr l)[k]? = some (.int .u8 (gt l k : Nat)) := arr_get l k (by omega)
  simp [Instr.index, run_underlying hu, asIntOf, part, h2, go_sem]
  intro h
  omega
/-- A slice as an array that is pointed at. -/
theorem arr_at (T e : TypeId) (n : Nat) (hu : Try.prog.underlying T = some (.array n e)) (a : Option Addr) (len cap : Nat) (h : n ≤ len) (w : World) :
    (Instr.arrayAt T (.slice a len cap)).run Try.prog w = .ok (.pointer a) w := by
  simp [Instr.arrayAt, run_underlying hu, show ¬ len < n by omega, go_sem]
end Go.Proofs.Ytbfdbicddmffnab.W
