/-
  A block counted up; the first block of a nonce; whole blocks: the model's l1Copy, l3Count, l3First, l3Whole.
-/
import Derived.Test.YtckgjghpfjinfakAppM
import Derived.Test.YtckgjghpfjinfakCut
import Derived.Test.YtckgjghpfjinfakL1pWalks
import Derived.Test.YtckgjghpfjinfakL1rWalks
import Derived.Test.YtckgjghpfjinfakCtrF
import Derived.Test.YtckgjghpfjinfakWhoF
namespace Go.Proofs.Ytckgjghpfjinfak.W
open Go.ChangeShapes Go.WideShapes Go.ChangeAt Go.RowKit
open Go.Proofs.Ytckgjghpfjinfak.M

theorem copyA (v : Value) (l : List Nat) (w : World) (h : Rd w v l) (hl : l.length ≤ 1048576) :
    Calls Try.prog 83 #[v] w fun e w' => ∃ v', e = .returned v' ∧ Own w' w.heap.size v' l ∧ Below w.heap.size w w' := by
  obtain ⟨a, cap, rfl, -, -, -⟩ := h.parts
  have O0 := own_lit0 w
  have H := hid (h.below (below_alloc1 w (.cells #[] 5)))
  clear h
  go_enter Try.func83, Try.ntmps83
  go_wp2_with (at_builtin; refine list_app rfl _ _ rfl _ _ [] l w.heap.size rfl rfl O0 H.out (by simp; omega) (by simp) ?_; intro v' w1 O G)
  rw [List.nil_append] at O
  have hB1 : Below w.heap.size w w1 := (below_alloc1 w _).grown G (by simp) (fun x e => by cases e; exact Nat.le_refl _)
  clear G
  go_wp2
  go_ret
  exact ⟨v', rfl, O, hB1⟩

set_option maxRecDepth 100000 in
theorem l3count' (v : Value) (l t r : List Nat) (n : Nat) (w : World) (h : Rd w v l) (y : Byt l) (hl : l.length = 16) (ht : l.take 12 = t) (hn : vt l 12 4 = n) (hr : packL ((n + 1) % 4294967296) 4 = r) :
    Calls Try.prog 68 #[v] w fun e w' => ∃ v', e = .returned v' ∧ Own w' w.heap.size v' (t ++ r) ∧ Below w.heap.size w w' := by
  obtain ⟨b, o, cap, rfl, ecap, -⟩ := h.spot (by omega)
  have TL := hid (show t.length = 12 by rw [← ht]; simp [hl])
  have RL := hid (show r.length = 4 by rw [← hr, packL_len])
  rw [hl] at h ecap ⊢
  have H := hid h
  have HL := hid hl
  have n1 : n < 4294967296 := by rw [← hn]; exact vt_lt l y 12 4
  have RU := run_upto b o 16 cap 12 (by omega) (by omega)
  have PD := hid (rd_piece h 0 12 (by omega))
  rw [Nat.add_zero, Nat.sub_zero, sub_take, ht] at PD
  have w1 : IntKind.i64.wrap ((n : Int) + 1) = (n : Int) + 1 := by rw [IntKind.wrap_i64]; omega
  have e1 : ((n : Int) + 1) % 4294967296 = (((n + 1) % 4294967296 : Nat) : Int) := by omega
  have HN := hid hn
  have HR := hid hr
  replace e1 := hid e1
  clear h hl ht hn hr
  go_enter Try.func68, Try.ntmps68
  go_wp2_with fail
  refine (l1read _ l 12 4 _ H.out y (by omega) (by rw [HL.out]; omega) (by omega) (by rw [HL.out]; omega)).mono ?_
  rintro e w' ⟨rfl, rfl⟩
  rw [HN.out]
  go_wp2_with fail
  refine (copyA _ t _ PD.out (by rw [TL.out]; omega)).mono ?_
  rintro e w1 ⟨v1, rfl, O1, B1⟩
  obtain ⟨p1, c1, rfl, -, -, -⟩ := O1.rd.parts
  rw [TL.out] at O1 ⊢
  replace O1 := hid O1
  replace B1 := hid B1
  go_wp2_with fail
  rw [e1.out]
  refine (l1pack ((n + 1) % 4294967296) 4 _ (by omega) (by omega) (by omega)).mono ?_
  rintro e w2 ⟨rfl, O2, B2⟩
  rw [HR.out] at O2
  have Q1 := hid (O1.out.below B2)
  have R2 := hid (B1.out.trans (B2.mono B1.out.size))
  have S2 := hid O2.rd
  clear O2 B2
  go_wp2_with (at_builtin; refine list_app rfl _ _ rfl _ _ t r w'.heap.size rfl rfl Q1.out S2.out (by rw [TL.out, RL.out]; omega) (R2.out.size) ?_; intro v' w3 O G)
  have hB : Below w'.heap.size w' w3 := R2.out.grown G R2.out.size (Q1.out.row (Nat.le_refl _))
  clear G
  go_wp2
  go_ret
  exact ⟨v', rfl, O, hB⟩
theorem l3count (v : Value) (l : List Nat) (w : World) (h : Rd w v l) (y : Byt l) (hl : l.length = 16) :
    Calls Try.prog 68 #[v] w fun e w' => ∃ v', e = .returned v' ∧ Own w' w.heap.size v' (cu l) ∧ Below w.heap.size w w' := l3count' v l _ _ _ w h y hl rfl rfl rfl

theorem own_4 (w : World) : Own (w.alloc (.cells #[.int .u8 0, .int .u8 0, .int .u8 0, .int .u8 1] 5)) w.heap.size (.slice (some ⟨w.heap.size, 0, none⟩) 4 4) [0, 0, 0, 1] :=
  World.ownsRow_lit w #[.int .u8 0, .int .u8 0, .int .u8 0, .int .u8 1] 4 (Nat.le_refl _) (by unfold maxLen; omega) rfl
theorem own_0 (w : World) : Own (w.alloc (.cells #[.int .u8 0] 5)) w.heap.size (.slice (some ⟨w.heap.size, 0, none⟩) 1 1) [0] :=
  World.ownsRow_lit w #[.int .u8 0] 1 (Nat.le_refl _) (by unfold maxLen; omega) rfl
set_option maxRecDepth 100000 in
theorem l3first (v : Value) (l : List Nat) (w : World) (h : Rd w v l) (hl : l.length ≤ 1048576) :
    Calls Try.prog 69 #[v] w fun e w' => ∃ v', e = .returned v' ∧ Own w' w.heap.size v' (jb l) ∧ Below w.heap.size w w' := by
  obtain ⟨a, cap, rfl, -, -, -⟩ := h.parts
  have H := hid h
  have HL := hid hl
  clear h
  go_enter Try.func69, Try.ntmps69
  go_wp2_with fail
  refine (copyA _ l _ H.out hl).mono ?_
  rintro e w1 ⟨v1, rfl, O1, B1⟩
  obtain ⟨p1, c1, rfl, -, -, -⟩ := O1.rd.parts
  have Q1 := hid (O1.below (below_alloc1 w1 (.cells #[.int .u8 0, .int .u8 0, .int .u8 0, .int .u8 1] 5)))
  have S2 := hid (own_4 w1).rd
  have R2 := hid (B1.alloc B1.size (.cells #[.int .u8 0, .int .u8 0, .int .u8 0, .int .u8 1] 5))
  clear O1 B1
  go_wp2_with (at_builtin; refine list_app rfl _ _ rfl _ _ l [0, 0, 0, 1] w.heap.size rfl rfl Q1.out S2.out (by have := HL.out; simp; omega) (R2.out.size) ?_; intro v' w3 O G)
  have hB : Below w.heap.size w w3 := R2.out.grown G R2.out.size (Q1.out.row (Nat.le_refl _))
  clear G
  go_wp2
  go_ret
  exact ⟨v', rfl, O, hB⟩

/-- How long a slice is. -/
def slen : Value → Nat
  | .slice _ n _ => n
  | _ => 0
/-- k zeros behind. -/
theorem whole_at (l : List Nat) (k : Nat) (h : k = (16 - l.length % 16) % 16) : l ++ zs k = whole l := by rw [whole, h]
theorem zs_snoc (l : List Nat) (k : Nat) : l ++ zs k ++ [0] = l ++ zs (k + 1) := by
  rw [List.append_assoc, zs, zs, List.replicate_succ']
set_option maxRecDepth 100000 in
theorem l3whole (v : Value) (l : List Nat) (w : World) (h : Rd w v l) (hl : l.length ≤ 1000000) :
    Calls Try.prog 80 #[v] w fun e w' => ∃ v', e = .returned v' ∧ Own w' w.heap.size v' (whole l) ∧ Below w.heap.size w w' := by
  obtain ⟨a, cap, rfl, -, -, -⟩ := h.parts
  have H := hid h
  have HL := hid hl
  clear h
  go_enter Try.func80, Try.ntmps80
  go_wp2_with fail
  refine (copyA _ l _ H.out (by omega)).mono ?_
  rintro e w1 ⟨v1, rfl, O1, B1⟩
  replace O1 := hid O1
  replace B1 := hid B1
  go_wp2_with fail
  go_loopw [3] (fun o3 ws => ∃ k : Nat, k ≤ (16 - l.length % 16) % 16 ∧ Hid (Own ws w.heap.size o3 (l ++ zs k)) ∧ Hid (Below w.heap.size w ws)) (fun o3 _ => 32 + l.length - slen o3)
  case atStart => exact ⟨0, by omega, hid (by rw [show zs 0 = [] from rfl, List.append_nil]; exact O1.out), B1⟩
  case round =>
    clear O1 B1
    obtain ⟨k, hk, HO, HB⟩ := hrel
    have LK : (l ++ zs k).length = l.length + k := by rw [List.length_append, zs_len]
    obtain ⟨p, c, e, -, -, -⟩ := HO.out.rd.parts
    rw [LK] at e
    subst e
    by_cases hlt : k < (16 - l.length % 16) % 16
    · have c1 : (((l.length + k : Nat) : Int) % 16 != 0) = true := by rw [bne_iff_ne]; omega
      have SN := hid (zs_snoc l k)
      have Q1 := hid (HO.out.below (below_alloc1 wr (.cells #[.int .u8 0] 5)))
      have S2 := hid (own_0 wr).rd
      have R2 := hid (HB.out.alloc HB.out.size (.cells #[.int .u8 0] 5))
      have LKH := hid LK
      have HM := hid (rfl : l.length + k = l.length + k)
      generalize hm : l.length + k = m at *
      clear HO HB LK HM
      go_wp2_with (at_builtin; refine list_app rfl _ _ rfl _ _ (l ++ zs k) [0] w.heap.size rfl rfl Q1.out S2.out (by rw [LKH.out]; have := HL.out; simp; omega) (R2.out.size) ?_; intro v' w3 O G)
      rw [SN.out] at O
      have hB : Below w.heap.size w w3 := R2.out.grown G R2.out.size (Q1.out.row (Nat.le_refl _))
      have hV : slen v' = m + 1 := by
        obtain ⟨p3, c3, rfl, -, -, -⟩ := O.rd.parts
        show (l ++ zs (k + 1)).length = m + 1
        rw [List.length_append, zs_len]
        omega
      clear G
      go_wp2
      go_roundw
      case rel => exact ⟨k + 1, by omega, hid O, hid hB⟩
      case measure => rw [hV]; simp only [slen]; omega
    · have hk8 : k = (16 - l.length % 16) % 16 := by omega
      have c1 : (((l.length + k : Nat) : Int) % 16 != 0) = false := by rw [bne_eq_false_iff_eq]; omega
      rw [whole_at l k hk8] at HO
      generalize l.length + k = m at *
      go_wp2
      go_ret
      exact ⟨_, rfl, HO.out, HB.out⟩
end Go.Proofs.Ytckgjghpfjinfak.W
