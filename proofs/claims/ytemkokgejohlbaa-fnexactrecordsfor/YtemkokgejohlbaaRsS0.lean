/-
  The records of a service: what l10Records of the model answers. Generated text.
-/
import Derived.Deep.Cut
import Derived.Test.YtemkokgejohlbaaRsF
import Derived.Test.YtemkokgejohlbaaRcA
import Derived.Test.YtemkokgejohlbaaVwD
namespace Go.Proofs.Ytemkokgejohlbaa.W
open Go.ChangeShapes Go.WideShapes Go.ChangeAt Go.RowKit
open Go.Proofs.Ytemkokgejohlbaa.M

theorem v3_factsR {w : World} {g : Nat} {x y z : Value} {T : TypeId} (h : w.heap[g]? = some (.cells #[x, y, z] T)) :
    (w.cell? ⟨g, 0, none⟩ = some x ∧ w.cell? ⟨g, 1, none⟩ = some y ∧ w.cell? ⟨g, 2, none⟩ = some z) ∧ w.frozen? ⟨g, 0, none⟩ = false ∧ w.frozen? ⟨g, 1, none⟩ = false ∧ w.frozen? ⟨g, 2, none⟩ = false :=
  ⟨⟨by rw [cell_of_row w g 0 _ _ _ h]; rfl, by rw [cell_of_row w g 1 _ _ _ h]; rfl, by rw [cell_of_row w g 2 _ _ _ h]; rfl⟩, frozen_of_row w g 0 _ T h, frozen_of_row w g 1 _ T h, frozen_of_row w g 2 _ T h⟩
theorem var4_factsR {w' : World} {g : Nat} {x y z u : Value} {T : TypeId} (h : w'.heap[g]? = some (.cells #[x, y, z, u] T)) :
    (w'.cell? ⟨g, 0, none⟩ = some x ∧ w'.cell? ⟨g, 1, none⟩ = some y ∧ w'.cell? ⟨g, 2, none⟩ = some z ∧ w'.cell? ⟨g, 3, none⟩ = some u) ∧ w'.frozen? ⟨g, 0, none⟩ = false ∧ w'.frozen? ⟨g, 1, none⟩ = false ∧ w'.frozen? ⟨g, 2, none⟩ = false ∧ w'.frozen? ⟨g, 3, none⟩ = false :=
  ⟨⟨by rw [cell_of_row w' g 0 _ _ _ h]; rfl, by rw [cell_of_row w' g 1 _ _ _ h]; rfl, by rw [cell_of_row w' g 2 _ _ _ h]; rfl, by rw [cell_of_row w' g 3 _ _ _ h]; rfl⟩, frozen_of_row w' g 0 _ T h, frozen_of_row w' g 1 _ T h, frozen_of_row w' g 2 _ T h, frozen_of_row w' g 3 _ T h⟩
theorem ownsRow_setCell_far {w : World} {base g : Nat} {v : Value} {x : List Rcd} (h : OwD w base v x) (hg : ∀ b, v.ownBlock = some b → b ≠ g) (i : Nat) (u : Value) : OwD (w.setCell ⟨g, i, none⟩ u) base v x :=
  h.kept (setD_grown w g i u) (by
    cases e : v.ownBlock with
    | none => exact .inl rfl
    | some b => exact .inr (fun q => hg b e (Option.some.inj q)))
theorem rcO_srv {c : Clm} : rcO 33 c = ⟨33, c.n, c.m % 65536⟩ := rfl
theorem rcO_a {k : Int} {c : Clm} (h : k ≠ 33) : rcO k c = ⟨k, c.n, 0⟩ := by rw [rcO, if_neg h]
set_option maxHeartbeats 4000000 in
set_option maxRecDepth 100000 in
theorem l10r (v : Value) (cs : List Clm) (s kd : Int) (w : World) (h : RdC w v cs) (hl : cs.length ≤ 4) (hf : ∀ c ∈ cs, clC c = 0) :
    Calls Try.prog 15 #[v, .int .i64 s, .int .i64 kd] w fun e w' => ∃ u, e = .returned u ∧ OwD w' w.heap.size u (rsL s kd cs) ∧ Below w.heap.size w w' := by
  have H := hid h
  obtain ⟨a, cap, rfl, -, -, -⟩ := h.parts
  clear h
  have O0 := hid (owD_lit (base := w.heap.size) (heap_alloc_new w (.cells #[] 47)) (Nat.le_refl _))
  have B0 := hid (below_alloc1 w (.cells #[] 47))
  go_enter Try.func15, Try.ntmps15
  go_wp2_with fail
  generalize w.alloc (.cells #[] 47) = w0 at *
  go_loopw [7, 8, 9] (fun s9 i s11 wr => ∃ k : Nat, ∃ u9 u11 : Value, k ≤ cs.length ∧ i = .int .i64 k ∧ s9 = u9 ∧ s11 = u11 ∧ Hid (OwD wr w.heap.size u9 (rsL s kd (cs.take k))) ∧ Hid (Below w.heap.size w wr)) (fun _ i _ _ => cs.length - (intOf i).toNat)
  case atStart => exact ⟨0, _, _, by omega, rfl, rfl, rfl, O0, B0⟩
  case round =>
    obtain ⟨k, u9, u11, hk, rfl, rfl, rfl, OO, BL⟩ := hrel
    clear O0 B0
    by_cases hlt : k < cs.length
    · skip
      have TY := hid fun q => rsL_yes (s := s) (k := kd) hlt q
      have TN := hid fun q => rsL_no (s := s) (k := kd) hlt q
      have LK := hid (show (rsL s kd (cs.take k)).length ≤ 4 from Nat.le_trans (rsL_len _ _ _) (by simp; omega))
      obtain ⟨x, hx⟩ : ∃ x, x = rsL s kd (cs.take k) := ⟨_, rfl⟩
      rw [← hx] at OO LK TY TN
      clear hx
      obtain ⟨px, cx, rfl, -, -, -⟩ := OO.out.rd.parts
      obtain ⟨a', cap', e, -, -, hcs⟩ := (H.out.below BL.out).parts
      cases e
      obtain ⟨b, o, rfl, q1⟩ := hcs k hlt
      obtain ⟨c0, c1, c2, c3⟩ := c_cells q1
      have I1 := idx_ci b o cs.length cap k hlt
      obtain ⟨hm1, hm2⟩ := m_quo (clC_m (hf _ (List.getElem_mem hlt)))
      obtain ⟨M, hM⟩ : ∃ M, M = cs[k] := ⟨_, rfl⟩
      rw [← hM] at c0 c1 c2 c3 TY TN hm1 hm2
      clear q1 hcs hM
      by_cases qs : M.s = 0
      · have n0 : (M.s != 0) = false := by simp [qs]
        by_cases q1 : M.m / 65536 = s
        · have T := hid (TY.out (by unfold okR; simp [qs, q1]))
          have n1 : (M.m / 65536 != s) = false := by simp [q1]
          replace qs := hid qs
          replace q1 := hid q1
          clear TY TN
          by_cases qk : kd = 33
          · subst qk
            have VR := hid (heap_alloc_new wr (.cells #[.int .i64 33, .int .i64 M.n, .int .i64 0] 47))
            have BR := hid (below_alloc1 wr (.cells #[.int .i64 33, .int .i64 M.n, .int .i64 0] 47))
            obtain ⟨⟨f0, f1, f2⟩, g0, g1, g2⟩ := v3_factsR VR.out
            have d3 := cell_kept BR.out c3
            go_upto_region 9 with fail
            clear f0 f1 f2 g0 g1 g2 d3
            have VS := hid (heap_alloc_new wr (.cells #[.int .i64 33, .int .i64 M.n, .int .i64 (M.m % 65536)] 47))
            have BT := hid (below_alloc1 wr (.cells #[.int .i64 33, .int .i64 M.n, .int .i64 (M.m % 65536)] 47))
            have OS := hid (OO.out.below BT.out)
            have BS := hid (BL.out.trans (BT.out.mono BL.out.size))
            clear BT
            have e1 := rcO_srv (c := M)
            obtain ⟨X, hX⟩ : ∃ X, X = rcO 33 M := ⟨_, rfl⟩
            rw [← hX] at T e1
            have VX := hid (show (wr.alloc (.cells #[.int .i64 33, .int .i64 M.n, .int .i64 (M.m % 65536)] 47)).heap[wr.heap.size]? = some (.cells #[.int .i64 X.a, .int .i64 X.b, .int .i64 X.c] 47) by rw [e1]; exact VS.out)
            clear VS VR BR e1 hX OO BL
            generalize (wr.alloc (.cells #[.int .i64 33, .int .i64 M.n, .int .i64 (M.m % 65536)] 47)) = w1 at *
            obtain ⟨gx, hgx⟩ : ∃ g, g = wr.heap.size := ⟨_, rfl⟩
            rw [← hgx] at VX ⊢
            clear hgx
            obtain ⟨⟨f0, f1, f2⟩, -⟩ := v3_factsR VX.out
            have R4 := hid (d_at (c := X) (heap_alloc_new w1 (.cells #[.int .i64 X.a, .int .i64 X.b, .int .i64 X.c] 47)))
            have B4 := below_alloc1 w1 (.cells #[.int .i64 X.a, .int .i64 X.b, .int .i64 X.c] 47)
            have O4 := hid (OS.out.below B4)
            have S4 := hid (BS.out.trans (B4.mono BS.out.size))
            have Z4 := hid (show w.heap.size ≤ (w1.alloc (.cells #[.int .i64 X.a, .int .i64 X.b, .int .i64 X.c] 47)).heap.size from S4.out.size)
            have L4 := hid (show x.length ≤ 4194304 by have := LK.out; omega)
            clear B4
            go_wp2_with (at_builtin; refine list_appD rfl _ _ rfl _ x X w.heap.size w1.heap.size 1 rfl rfl O4.out R4.out L4.out Z4.out ?_; intro g5 cap5 w5 hO hG hL; have B5 := hid (S4.out.grown hG Z4.out (O4.out.row (Nat.le_refl _))); have O5 := hid hO)
            clear hO hG hL O4 S4 R4 f0 f1 f2 c0 c1 c2 c3 I1 OS BS
            go_roundw
            case rel => exact ⟨k + 1, _, _,  hlt, by go_num, rfl, rfl,  hid (by rw [T.out]; exact O5.out), B5⟩
            case measure => simp [intOf] <;> omega
          · have nk : (kd == 33) = false := by simpa using qk
            have VR := hid (heap_alloc_new wr (.cells #[.int .i64 kd, .int .i64 M.n, .int .i64 0] 47))
            have BR := hid (below_alloc1 wr (.cells #[.int .i64 kd, .int .i64 M.n, .int .i64 0] 47))
            go_upto_region 9 with fail
            have VS := VR
            have OS := hid (OO.out.below BR.out)
            have BS := hid (BL.out.trans (BR.out.mono BL.out.size))
            have e1 := rcO_a (c := M) qk
            obtain ⟨X, hX⟩ : ∃ X, X = rcO kd M := ⟨_, rfl⟩
            rw [← hX] at T e1
            have VX := hid (show (wr.alloc (.cells #[.int .i64 kd, .int .i64 M.n, .int .i64 0] 47)).heap[wr.heap.size]? = some (.cells #[.int .i64 X.a, .int .i64 X.b, .int .i64 X.c] 47) by rw [e1]; exact VS.out)
            clear VS VR BR e1 hX OO BL
            generalize (wr.alloc (.cells #[.int .i64 kd, .int .i64 M.n, .int .i64 0] 47)) = w1 at *
            obtain ⟨gx, hgx⟩ : ∃ g, g = wr.heap.size := ⟨_, rfl⟩
            rw [← hgx] at VX ⊢
            clear hgx
            obtain ⟨⟨f0, f1, f2⟩, -⟩ := v3_factsR VX.out
            have R4 := hid (d_at (c := X) (heap_alloc_new w1 (.cells #[.int .i64 X.a, .int .i64 X.b, .int .i64 X.c] 47)))
            have B4 := below_alloc1 w1 (.cells #[.int .i64 X.a, .int .i64 X.b, .int .i64 X.c] 47)
            have O4 := hid (OS.out.below B4)
            have S4 := hid (BS.out.trans (B4.mono BS.out.size))
            have Z4 := hid (show w.heap.size ≤ (w1.alloc (.cells #[.int .i64 X.a, .int .i64 X.b, .int .i64 X.c] 47)).heap.size from S4.out.size)
            have L4 := hid (show x.length ≤ 4194304 by have := LK.out; omega)
            clear B4
            go_wp2_with (at_builtin; refine list_appD rfl _ _ rfl _ x X w.heap.size w1.heap.size 1 rfl rfl O4.out R4.out L4.out Z4.out ?_; intro g5 cap5 w5 hO hG hL; have B5 := hid (S4.out.grown hG Z4.out (O4.out.row (Nat.le_refl _))); have O5 := hid hO)
            clear hO hG hL O4 S4 R4 f0 f1 f2 c0 c1 c2 c3 I1 OS BS
            go_roundw
            case rel => exact ⟨k + 1, _, _,  hlt, by go_num, rfl, rfl,  hid (by rw [T.out]; exact O5.out), B5⟩
            case measure => simp [intOf] <;> omega
        · have T := hid (TN.out (by unfold okR; simp [q1]))
          have n1 : (M.m / 65536 != s) = true := by simp [q1]
          replace qs := hid qs
          replace q1 := hid q1
          clear TY TN
          go_wp2
          go_roundw
          case rel => exact ⟨k + 1, _, _,  hlt, by go_num, rfl, rfl,  hid (by rw [T.out]; exact OO.out), BL⟩
          case measure => simp [intOf] <;> omega
      · have T := hid (TN.out (by unfold okR; simp [qs]))
        have n0 : (M.s != 0) = true := by simp [qs]
        replace qs := hid qs
        clear TY TN
        go_wp2
        go_roundw
        case rel => exact ⟨k + 1, _, _,  hlt, by go_num, rfl, rfl,  hid (by rw [T.out]; exact OO.out), BL⟩
        case measure => simp [intOf] <;> omega
    · have hke : k = cs.length := by omega
      subst hke
      rw [List.take_length] at OO
      obtain ⟨px, cx, rfl, -, -, -⟩ := OO.out.rd.parts
      go_wp2
      go_ret
      exact ⟨_, rfl, OO.out, BL.out⟩
end Go.Proofs.Ytemkokgejohlbaa.W
