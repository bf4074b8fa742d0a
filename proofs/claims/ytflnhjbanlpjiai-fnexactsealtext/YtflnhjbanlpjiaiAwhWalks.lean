/-
  Whole blocks, and a length in bits: the program's appendWhole, lengthInBits.
-/
import Derived.Test.YtflnhjbanlpjiaiAppM
import Derived.Test.YtflnhjbanlpjiaiWhoF
import Derived.Test.YtflnhjbanlpjiaiIpkWalks
import Derived.Test.YtflnhjbanlpjiaiL3cWalks
namespace Go.Proofs.Ytflnhjbanlpjiai.W
open Go.ChangeShapes Go.WideShapes Go.ChangeAt Go.RowKit
open Go.Proofs.Ytflnhjbanlpjiai.M

set_option maxRecDepth 100000 in
theorem awhole (v u : Value) (l m : List Nat) (base : Nat) (w : World) (hv : Own w base v l) (hu : Rd w u m) (hb : base ≤ w.heap.size) (hl : l.length ≤ 100000) (hm : m.length ≤ 100000) (h16 : l.length % 16 = 0) :
    Calls Try.prog 56 #[v, u] w fun e w' => ∃ v', e = .returned v' ∧ Own w' base v' (l ++ whole m) ∧ Below base w w' := by
  obtain ⟨p0, c0, rfl, -, -, -⟩ := hv.rd.parts
  obtain ⟨p1, c1, rfl, -, -, -⟩ := hu.parts
  have HV := hid hv
  have HU := hid hu
  have HL := hid hl
  have HM := hid hm
  have HB := hid hb
  clear hv hu
  go_enter Try.func56, Try.ntmps56
  go_wp2_with (at_builtin; refine list_app rfl _ _ rfl _ _ l m base rfl rfl HV.out HU.out (by omega) hb ?_; intro v1 w1 O G)
  have O1 := hid O
  have B1 := hid (show Below base w w1 from (Below.refl base w).grown G hb (HV.out.row (Nat.le_refl _)))
  have Z1 := hid (Nat.le_trans hb G.size)
  clear O G HV HU
  go_loopw [0] (fun o0 ws => ∃ k : Nat, k ≤ (16 - m.length % 16) % 16 ∧ Hid (Own ws base o0 (l ++ m ++ zs k)) ∧ Hid (Below base w ws) ∧ Hid (base ≤ ws.heap.size)) (fun o0 _ => 64 + l.length + m.length - slen o0)
  case atStart => exact ⟨0, by omega, hid (by rw [show zs 0 = [] from rfl, List.append_nil]; exact O1.out), B1, Z1⟩
  case round =>
    clear O1 B1 Z1
    obtain ⟨k, hk, HO, HBl, HZ⟩ := hrel
    have LK : (l ++ m ++ zs k).length = l.length + m.length + k := by rw [List.length_append, List.length_append, zs_len]
    obtain ⟨p, c, e, -, -, -⟩ := HO.out.rd.parts
    rw [LK] at e
    subst e
    by_cases hlt : k < (16 - m.length % 16) % 16
    · have d1 : (((l.length + m.length + k : Nat) : Int) % 16 != 0) = true := by rw [bne_iff_ne]; omega
      have SN := hid (zs_snoc (l ++ m) k)
      have Q1 := hid (HO.out.below (below_alloc1 wr (.cells #[.int .u8 0] 5)))
      have S2 := hid (own_0 wr).rd
      have R2 := hid (HBl.out.alloc HZ.out (.cells #[.int .u8 0] 5))
      have Z2 := hid (show base ≤ (wr.alloc (.cells #[.int .u8 0] 5)).heap.size by have := HZ.out; simp; omega)
      have LKH := hid LK
      generalize hq : l.length + m.length + k = q at *
      clear HO HBl LK
      go_wp2_with (at_builtin; refine list_app rfl _ _ rfl _ _ (l ++ m ++ zs k) [0] base rfl rfl Q1.out S2.out (by rw [LKH.out]; simp; omega) Z2.out ?_; intro v' w3 O G)
      rw [SN.out] at O
      have hB : Below base w w3 := R2.out.grown G Z2.out (Q1.out.row (Nat.le_refl _))
      have hZ3 := hid (Nat.le_trans Z2.out G.size)
      have hV : slen v' = q + 1 := by
        obtain ⟨p3, c3, rfl, -, -, -⟩ := O.rd.parts
        show (l ++ m ++ zs (k + 1)).length = q + 1
        rw [List.length_append, List.length_append, zs_len]
        omega
      clear G
      go_wp2
      go_roundw
      case rel => exact ⟨k + 1, by omega, hid O, hid hB, hZ3⟩
      case measure => rw [hV]; simp only [slen]; omega
    · have hk8 : k = (16 - m.length % 16) % 16 := by omega
      have d1 : (((l.length + m.length + k : Nat) : Int) % 16 != 0) = false := by rw [bne_eq_false_iff_eq]; omega
      rw [List.append_assoc, whole_at m k hk8] at HO
      generalize l.length + m.length + k = q at *
      go_wp2
      go_ret
      exact ⟨_, rfl, HO.out, HBl.out⟩

set_option maxRecDepth 100000 in
theorem lenbits (p : Option Addr) (n c : Nat) (w : World) (h : n ≤ 1000) :
    Calls Try.prog 57 #[.slice p n c] w fun e w' => ∃ v, e = .returned v ∧ Own w' w.heap.size v (packL (8 * n) 8) ∧ Below w.heap.size w w' := by
  have m1 : IntKind.i64.wrap (8 * (n : Int)) = 8 * (n : Int) := by rw [IntKind.wrap_i64]; omega
  have q := ipw_ok (8 * n) 8 w (by omega) (by omega) (by omega) (by have : (256 : Nat) ^ 8 = 18446744073709551616 := by decide
                                                                    omega)
  rw [show ((8 * n : Nat) : Int) = 8 * (n : Int) by omega, show ((8 : Nat) : Int) = 8 from rfl] at q
  have Q := hid q
  clear q
  go_enter Try.func57, Try.ntmps57
  go_wp2_with fail
  refine Q.out.mono ?_
  rintro e w1 ⟨v, rfl, O, B⟩
  obtain ⟨q, c', rfl, -, -, -⟩ := O.rd.parts
  have hf1 : ∀ (x : Int) (p : Option Addr) (m cc : Nat) (w : World), (Instr.field 24 (.agg #[.int .i64 x, .slice p m cc]) 1).run Try.prog w = .ok (.slice p m cc) w := fun _ _ _ _ _ => by kernel_rfl
  go_wp2
  go_ret
  exact ⟨_, rfl, O, B⟩
end Go.Proofs.Ytflnhjbanlpjiai.W
