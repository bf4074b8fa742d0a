/-
  How the exact laws mark slices of messages.
-/
import Derived.Test.YtifgcffifffdnamMsL
namespace Go.Proofs.Ytifgcffifffdnam.W
open Go.ChangeShapes Go.WideShapes Go.ChangeAt Go.RowKit
open Go.Proofs.Ytifgcffifffdnam.M

/-- As long as they were, message by message. -/
def Like (ms ns : List Msg) : Prop := ns.length = ms.length ∧ ∀ i (h : i < ms.length) (h' : i < ns.length), (ns[i]).l.length = (ms[i]).l.length
theorem Like.set {ms ns : List Msg} (h : Like ms ns) (j : Nat) (hj : j < ms.length) (m' : Msg) (hm : m'.l.length = (ms[j]).l.length) : Like ms (ns.set j m') := by
  refine ⟨by rw [List.length_set]; exact h.1, fun i hi h' => ?_⟩
  rw [set_get h' (by rw [h.1]; exact hi)]
  by_cases e : j = i
  · subst e
    rw [if_pos rfl]; exact hm
  · rw [if_neg e]; exact h.2 i hi (by rw [h.1]; exact hi)
set_option maxHeartbeats 4000000 in
set_option maxRecDepth 100000 in
theorem markMS (v : Value) (ms : List Msg) (k : Nat) (z : Int) (hz : z = (k : Int)) (lo hi : Nat) (w : World) (h : OMs w lo hi v ms) (hl : ms.length + totM ms ≤ 1048576) (hk : k ≤ 4194304) :
    Calls Try.prog 41 #[v, .int .i64 z] w fun e w' => e = .returned (.int .i64 ((k + (ms.length * 9 + totM ms) : Nat) : Int)) ∧ Ins lo hi w w' := by
  subst hz
  by_cases h0 : ms.length = 0
  · obtain rfl := List.eq_nil_of_length_eq_zero h0
    obtain ⟨a, cap, rfl, -, -, -⟩ := h.rd.parts
    clear h
    go_enter Try.func41, Try.ntmps41
    go_wp2
    refine wp_loop_rounds 1 ?_
    rw [rounds_succ]
    go_wp2
    go_ret
    exact ⟨rfl, Ins.refl _ _ _⟩
  · obtain ⟨g, cap, rfl⟩ : ∃ g cap, v = .slice (some ⟨g, 0, none⟩) ms.length cap := by
      obtain ⟨us, hl, h1, -⟩ := h
      rcases h1.2 with ⟨rfl, e⟩ | ⟨g, cap, cur, rfl, -⟩
      · omega
      · exact ⟨g, cap, rfl⟩
    have H := hid h
    clear h
    go_enter Try.func41, Try.ntmps41
    go_wp2
    go_loopw [1, 5] (fun kk i wr => ∃ j : Nat, ∃ ns : List Msg, j ≤ ms.length ∧ i = .int .i64 j ∧ kk = .int .i64 ((k + (j * 9 + totM (ms.take j)) : Nat) : Int) ∧ Hid (Like ms ns) ∧ Hid (OMs wr lo hi (.slice (some ⟨g, 0, none⟩) ms.length cap) ns) ∧ Hid (Ins lo hi w wr)) (fun _ i _ => ms.length - (intOf i).toNat)
    case atStart => exact ⟨0, ms, by omega, rfl, by simp [totM], hid ⟨rfl, fun _ _ _ => rfl⟩, H, hid (Ins.refl _ _ _)⟩
    case round =>
      obtain ⟨j, ns, hj, rfl, rfl, LK, HO, HI⟩ := hrel
      clear H
      by_cases hlt : j < ms.length
      · have KS := hid (totM_take ms j hlt)
        have KB := hid (totM_le ms (j + 1))
        have hjn : j < ns.length := by rw [LK.out.1]; exact hlt
        have HN := hid (LK.out.2 j hlt hjn)
        obtain ⟨q, hq⟩ : ∃ q, q = k + (j * 9 + totM (ms.take j)) := ⟨_, rfl⟩
        rw [← hq]
        obtain ⟨u, d, fz, hO1, -, -, -⟩ := HO.out.open LK.out.1 j hjn
        obtain ⟨M1, I1⟩ := HO.out.mark9 LK.out.1 j hjn ⟨(q : Int), (q : Int) + 1, (q : Int) + 1 + 1, (q : Int) + 1 + 1 + 1, (q : Int) + 1 + 1 + 1 + 1, (q : Int) + 1 + 1 + 1 + 1 + 1, (q : Int) + 1 + 1 + 1 + 1 + 1 + 1, (q : Int) + 1 + 1 + 1 + 1 + 1 + 1 + 1, (q : Int) + 1 + 1 + 1 + 1 + 1 + 1 + 1 + 1, (ns[j]).l⟩ rfl
        obtain ⟨d0, d1, d2, d3, d4, d5, d6, d7, d8, d9⟩ := m_cells d
        have z0 := fz (j * 10)
        have z1 := fz (j * 10 + 1)
        have z2 := fz (j * 10 + 2)
        have z3 := fz (j * 10 + 3)
        have z4 := fz (j * 10 + 4)
        have z5 := fz (j * 10 + 5)
        have z6 := fz (j * 10 + 6)
        have z7 := fz (j * 10 + 7)
        have z8 := fz (j * 10 + 8)
        have Q := hid hq
        clear hq
        have qb : q ≤ 16777200 := by have := Q.out; have := KB.out; have := KS.out; omega
        have I2 := idx_mi g 0 ms.length cap j hlt
        rw [Nat.zero_add] at I2
        have k0 : (0 : Int) ≤ (j : Int) := by omega
        have k1 : (j : Int) < (ms.length : Int) := by omega
        have M2 := hid M1
        have I3 := hid I1
        have hset : ((ns.set j ⟨(q : Int), (q : Int) + 1, (q : Int) + 1 + 1, (q : Int) + 1 + 1 + 1, (q : Int) + 1 + 1 + 1 + 1, (q : Int) + 1 + 1 + 1 + 1 + 1, (q : Int) + 1 + 1 + 1 + 1 + 1 + 1, (q : Int) + 1 + 1 + 1 + 1 + 1 + 1 + 1, (q : Int) + 1 + 1 + 1 + 1 + 1 + 1 + 1 + 1, (ns[j]).l⟩)[j]'(by rw [List.length_set]; exact hjn)) = ⟨(q : Int), (q : Int) + 1, (q : Int) + 1 + 1, (q : Int) + 1 + 1 + 1, (q : Int) + 1 + 1 + 1 + 1, (q : Int) + 1 + 1 + 1 + 1 + 1, (q : Int) + 1 + 1 + 1 + 1 + 1 + 1, (q : Int) + 1 + 1 + 1 + 1 + 1 + 1 + 1, (q : Int) + 1 + 1 + 1 + 1 + 1 + 1 + 1 + 1, (ns[j]).l⟩ := List.getElem_set_self _
        obtain ⟨u', c9, hO2, hNX⟩ := M1.bytes (by rw [List.length_set]; exact LK.out.1) j (by rw [List.length_set]; exact hjn)
        have cu : (st9 wr g (j * 10) ⟨(q : Int), (q : Int) + 1, (q : Int) + 1 + 1, (q : Int) + 1 + 1 + 1, (q : Int) + 1 + 1 + 1 + 1, (q : Int) + 1 + 1 + 1 + 1 + 1, (q : Int) + 1 + 1 + 1 + 1 + 1 + 1, (q : Int) + 1 + 1 + 1 + 1 + 1 + 1 + 1, (q : Int) + 1 + 1 + 1 + 1 + 1 + 1 + 1 + 1, (ns[j]).l⟩).cell? ⟨g, j * 10 + 9, none⟩ = some u := by
          have so : ∀ (W : World) (t : Nat) (x : Value), t < 9 → (W.setCell ⟨g, j * 10 + t, none⟩ x).cell? ⟨g, j * 10 + 9, none⟩ = W.cell? ⟨g, j * 10 + 9, none⟩ := fun W t x ht => World.cell?_setCell_other _ _ _ _ (by intro e; simp at e <;> omega)
          unfold st9
          rw [so _ 8 _ (by omega), so _ 7 _ (by omega), so _ 6 _ (by omega), so _ 5 _ (by omega), so _ 4 _ (by omega), so _ 3 _ (by omega), so _ 2 _ (by omega), so _ 1 _ (by omega), so _ 0 _ (by omega)]
          exact d9
        rw [cu] at c9
        obtain rfl := Option.some.inj c9
        rw [hset] at hO2 hNX
        have O2 := hid hO2
        have NX := hid hNX
        have nl : (ns[j]).l.length ≤ 1048576 := by rw [HN.out]; have := KS.out; have := KB.out; omega
        have LS := hid (fun (l' : List Nat) (hl' : l'.length = (ms[j]).l.length) => (LK.out.set j hlt ⟨(q : Int), (q : Int) + 1, (q : Int) + 1 + 1, (q : Int) + 1 + 1 + 1, (q : Int) + 1 + 1 + 1 + 1, (q : Int) + 1 + 1 + 1 + 1 + 1, (q : Int) + 1 + 1 + 1 + 1 + 1 + 1, (q : Int) + 1 + 1 + 1 + 1 + 1 + 1 + 1, (q : Int) + 1 + 1 + 1 + 1 + 1 + 1 + 1 + 1, (ns[j]).l⟩ HN.out).set j hlt { (⟨(q : Int), (q : Int) + 1, (q : Int) + 1 + 1, (q : Int) + 1 + 1 + 1, (q : Int) + 1 + 1 + 1 + 1, (q : Int) + 1 + 1 + 1 + 1 + 1, (q : Int) + 1 + 1 + 1 + 1 + 1 + 1, (q : Int) + 1 + 1 + 1 + 1 + 1 + 1 + 1, (q : Int) + 1 + 1 + 1 + 1 + 1 + 1 + 1 + 1, (ns[j]).l⟩ : Msg) with l := l' } hl')
        have W := hid (show (((((((((wr.setCell ⟨g, j * 10, none⟩ (.int .i64 ((q : Int)))).setCell ⟨g, j * 10 + 1, none⟩ (.int .i64 ((q : Int) + 1))).setCell ⟨g, j * 10 + 2, none⟩ (.int .i64 ((q : Int) + 1 + 1))).setCell ⟨g, j * 10 + 3, none⟩ (.int .i64 ((q : Int) + 1 + 1 + 1))).setCell ⟨g, j * 10 + 3 + 1, none⟩ (.int .i64 ((q : Int) + 1 + 1 + 1 + 1))).setCell ⟨g, j * 10 + 3 + 2, none⟩ (.int .i64 ((q : Int) + 1 + 1 + 1 + 1 + 1))).setCell ⟨g, j * 10 + 3 + 3, none⟩ (.int .i64 ((q : Int) + 1 + 1 + 1 + 1 + 1 + 1))).setCell ⟨g, j * 10 + 7, none⟩ (.int .i64 ((q : Int) + 1 + 1 + 1 + 1 + 1 + 1 + 1))).setCell ⟨g, j * 10 + 8, none⟩ (.int .i64 ((q : Int) + 1 + 1 + 1 + 1 + 1 + 1 + 1 + 1))) = st9 wr g (j * 10) ⟨(q : Int), (q : Int) + 1, (q : Int) + 1 + 1, (q : Int) + 1 + 1 + 1, (q : Int) + 1 + 1 + 1 + 1, (q : Int) + 1 + 1 + 1 + 1 + 1, (q : Int) + 1 + 1 + 1 + 1 + 1 + 1, (q : Int) + 1 + 1 + 1 + 1 + 1 + 1 + 1, (q : Int) + 1 + 1 + 1 + 1 + 1 + 1 + 1 + 1, (ns[j]).l⟩ from rfl)
        clear M1 I1 d fz hO1 hO2 hNX hset c9 cu
        go_wp2_with fail
        rw [W.out]
        rw [show ((q : Int) + 1 + 1 + 1 + 1 + 1 + 1 + 1 + 1 + 1 : Int) = ((q + 9 : Nat) : Int) by omega]
        refine (markBx u (ns[j]).l (q + 9) lo _ O2.out.1 nl (by omega)).mono ?_
        rintro e w2 ⟨rfl, hO, hG⟩
        obtain ⟨r1, r2⟩ := NX.out w2 _ hG hO
        have R1 := hid r1
        have R2 := hid ((HI.out.trans I3.out).trans r2)
        have R3 := hid (LS.out (marks (q + 9) (ns[j]).l.length) (by rw [marks_len]; exact HN.out))
        have K2 := hid (show q + 9 + (ns[j]).l.length = k + ((j + 1) * 9 + totM (ms.take (j + 1))) by rw [HN.out]; have := KS.out; have := Q.out; omega)
        clear hO hG r1 r2 O2 NX LS W M2 HI I3 HO LK d0 d1 d2 d3 d4 d5 d6 d7 d8 d9 z0 z1 z2 z3 z4 z5 z6 z7 z8
        obtain ⟨q2, hq2⟩ : ∃ m : Nat, m = q + 9 + (ns[j]).l.length := ⟨_, rfl⟩
        rw [← hq2]
        rw [← hq2] at K2
        clear hq2
        go_wp2
        go_roundw
        case rel => exact ⟨j + 1, _, hlt, by go_num, by rw [K2.out], R3, R1, R2⟩
        case measure => simp [intOf]; omega
      · have hk8 : j = ms.length := by omega
        subst hk8
        rw [List.take_of_length_le (Nat.le_refl _)]
        obtain ⟨q, hq⟩ : ∃ q, q = k + (ms.length * 9 + totM ms) := ⟨_, rfl⟩
        rw [← hq]
        have Q := hid hq
        clear hq
        go_wp2
        go_ret
        exact ⟨congrArg (fun z : Nat => Ending.returned (.int .i64 (z : Int))) Q.out, HI.out⟩
theorem markMSx (v : Value) (ms : List Msg) (k : Nat) (z : Int) (hz : z = (k : Int)) (lo hi : Nat) (w : World) (h : OMs w lo hi v ms) (hl : ms.length + totM ms ≤ 1048576) (hk : k ≤ 4194304) :
    Calls Try.prog 41 #[v, .int .i64 z] w fun e w' => e = .returned (.int .i64 ((k + (ms.length * 9 + totM ms) : Nat) : Int)) ∧ True ∧ Ins lo hi w w' :=
  (markMS v ms k z hz lo hi w h hl hk).mono fun _ _ ⟨h1, h2⟩ => ⟨h1, trivial, h2⟩
end Go.Proofs.Ytifgcffifffdnam.W
