/-
  A ring as the program works with it: what keyringOf answers.
-/
import Derived.Test.YtbfdbicddmffnabIrfW
import Derived.Test.YtbfdbicddmffnabMapK
namespace Go.Proofs.Ytbfdbicddmffnab.W
open Go.ChangeShapes Go.WideShapes Go.ChangeAt Go.RowKit
open Go.Proofs.Ytbfdbicddmffnab.M

theorem rd_grownM {w w' : World} {b n : Nat} {D : DataW Value} {v : Value} {l : List Nat} (h : Rd w v l) (hM : MapK w b n D) (hG : w.grownBy w' (some b)) : Rd w' v l := by
  obtain ⟨a, cap, rfl, hn, hm, hcs⟩ := h
  refine ⟨a, cap, rfl, hn, hm, fun i hi => ?_⟩
  obtain ⟨b', o, rfl, hc⟩ := hcs i hi
  exact ⟨b', o, rfl, hG.cell hc (hM.ne hc)⟩
theorem rdk_grownM {w w' : World} {b n : Nat} {D : DataW Value} {v : Value} {ks : List (Int × List Nat)} (h : RdK w v ks) (hM : MapK w b n D) (hG : w.grownBy w' (some b)) : RdK w' v ks := by
  obtain ⟨a, cap, rfl, hn, hm, hcs⟩ := h
  refine ⟨a, cap, rfl, hn, hm, fun i hi => ?_⟩
  obtain ⟨b', o, u, rfl, h1, h2, h3⟩ := hcs i hi
  exact ⟨b', o, u, rfl, hG.cell h1 (hM.ne h1), hG.cell h2 (hM.ne h2), rd_grownM h3 hM hG⟩
theorem MapK.apart {w : World} {b n g : Nat} {D : DataW Value} {c : Array Value} {T : TypeId} (hM : MapK w b n D) (hV : w.heap[g]? = some (.cells c T)) : some g ≠ some b := by
  intro e
  cases e
  obtain ⟨es, clock, hb, -⟩ := hM
  rw [hb] at hV
  cases hV
theorem kF_ok {k : Int × List Nat} (h : kF k = 0) : (1 ≤ k.1 ∧ k.1 ≤ 255) ∧ k.2.length = 16 := by
  unfold kF at h
  split at h
  · rename_i h1
    split at h
    · rename_i h2
      exact ⟨h1, h2⟩
    · omega
  · omega
/-- The map holds just the first k keys' numbers. -/
def HasTo (ks : List (Int × List Nat)) (k : Nat) (D : DataW Value) : Prop := ∀ x, Maps.has D (.int .i64 x) = true ↔ ∃ j, ∃ h : j < ks.length, j < k ∧ (ks[j]).1 = x
theorem HasTo.next {ks : List (Int × List Nat)} {k : Nat} {D : DataW Value} (h : HasTo ks k D) (hD : Maps.IsMap D) (hk : k < ks.length) (hw : WideAt.IsKeyLit (.int .i64 (ks[k]).1)) (d : DataW Value) : HasTo ks (k + 1) (D.put (.int .i64 (ks[k]).1) d) := fun x => by
  by_cases e : x = (ks[k]).1
  · subst e
    rw [Maps.has_put_same hD hw]
    exact ⟨fun _ => ⟨k, hk, by omega, rfl⟩, fun _ => rfl⟩
  · rw [Maps.has_put_other (by intro q; cases q; exact e rfl), h x]
    constructor
    · rintro ⟨j, hj, h1, h2⟩
      exact ⟨j, hj, by omega, h2⟩
    · rintro ⟨j, hj, h1, h2⟩
      refine ⟨j, hj, ?_, h2⟩
      rcases Nat.lt_or_ge j k with q | q
      · exact q
      · obtain rfl : j = k := by omega
        exact absurd h2.symm e
theorem two_results {fn : Func} {a b : Tmp} (h : fn.results = #[.tmp a, .tmp b]) (ts : Array Value) (P : Program) (w : World) :
    (results fn ts).run P w = .ok (.tuple #[ts.getD a undef, ts.getD b undef]) w := by simp [results, h]
theorem ret_t {r : Value} {a b : Int} (h : a = b) : Ending.returned (.tuple #[r, .int .i64 a]) = .returned (.tuple #[r, .int .i64 b]) := by rw [h]
theorem rise_lt {ks : List (Int × List Nat)} (h : Rise ks) : ∀ (j i : Nat) (hj : j < ks.length) (hij : i < j), (ks[i]'(Nat.lt_trans hij hj)).1 < (ks[j]).1
  | 0, i, _, hij => absurd hij (Nat.not_lt_zero i)
  | j + 1, i, hj, hij => by
    have h1 := h j hj
    rcases Nat.lt_or_ge i j with q | q
    · have h2 := rise_lt h j i (by omega) q
      omega
    · obtain rfl : i = j := by omega
      exact h1
/-- The map's zero element, as it is read. -/
def zK : DataW Value := .held (.agg (arr (zs 16)))
/-- The map holds the first k keys' bytes at their numbers. -/
def AtTo (ks : List (Int × List Nat)) (k : Nat) (D : DataW Value) : Prop := ∀ j (h : j < ks.length), j < k → D.atKey (.int .i64 (ks[j]).1) zK = .held (.agg (arr (ks[j]).2))
theorem AtTo.next {ks : List (Int × List Nat)} {k : Nat} {D : DataW Value} (h : AtTo ks k D) (hD : Maps.IsMap D) (hr : Rise ks) (hk : k < ks.length) (hw : WideAt.IsKeyLit (.int .i64 (ks[k]).1)) : AtTo ks (k + 1) (D.put (.int .i64 (ks[k]).1) (.held (.agg (arr (ks[k]).2)))) := fun j hj hjk => by
  rcases Nat.lt_or_ge j k with q | q
  · have := rise_lt hr k j hk q
    rw [Maps.atKey_put_other (by intro e; simp only [Lit.int.injEq, true_and] at e; omega)]
    exact h j hj q
  · obtain rfl : j = k := by omega
    rw [Maps.atKey_put_same hD hw]
theorem MapK.below {w w' : World} {b n : Nat} {D : DataW Value} (h : MapK w b n D) (hB : Below w.heap.size w w') : MapK w' b n D :=
  World.ownsMap.kept h (grown_of_below hB none) (by simp)
/-- Block g is a ring with the primary p; its map, block b, holds just the keys ks. -/
structure Ring1 (w : World) (g b : Nat) (p : Int) (ks : List (Int × List Nat)) (D : DataW Value) : Prop where
  block : w.heap[g]? = some (.cells #[.int .i64 p, .map (some b)] 119)
  map : MapK w b ks.length D
  good : GoodM D
  has : HasTo ks ks.length D
  bytes : AtTo ks ks.length D
theorem Ring1.below {w w' : World} {g b : Nat} {p : Int} {ks : List (Int × List Nat)} {D : DataW Value} (h : Ring1 w g b p ks D) (hB : Below w.heap.size w w') : Ring1 w' g b p ks D :=
  ⟨var_below hB h.block, h.map.below hB, h.good, h.has, h.bytes⟩
set_option maxHeartbeats 2000000 in
set_option maxRecDepth 100000 in
theorem ikrD (p : Int) (v : Value) (ks : List (Int × List Nat)) (w : World) (h : RdK w v ks) (hp : (Lit.int .i64 p).wf = true) :
    Calls Try.prog 88 #[.agg #[.int .i64 p, v]] w fun e w' => ∃ r : Value, e = .returned (.tuple #[r, .int .i64 (rF p ks)]) ∧ (rF p ks = 0 → ∃ g b D, r = .pointer (some ⟨g, 0, none⟩) ∧ w.heap.size ≤ g ∧ w.heap.size ≤ b ∧ Ring1 w' g b p ks D) ∧ Below w.heap.size w w' := by
  have H := hid h
  obtain ⟨a, cap, rfl, -, hcm, -⟩ := h.parts
  clear h
  unfold maxLen at hcm
  have hmm := @run_makeMap Try.prog
  go_enter Try.func88, Try.ntmps88
  go_wp2_with fail
  have V := hid (heap_alloc2_old w (.cells #[.int .i64 p, .slice a ks.length cap] 38) (.cells #[.int .i64 (ks.length : Int), .int .i64 1, .int .i64 3] 83))
  have BB := hid (below_alloc2 w (.cells #[.int .i64 p, .slice a ks.length cap] 38) (.cells #[.int .i64 (ks.length : Int), .int .i64 1, .int .i64 3] 83))
  have V2 := heap_alloc2_new w (.cells #[.int .i64 p, .slice a ks.length cap] 38) (.cells #[.int .i64 (ks.length : Int), .int .i64 1, .int .i64 3] 83)
  generalize (w.alloc (.cells #[.int .i64 p, .slice a ks.length cap] 38)).alloc (.cells #[.int .i64 (ks.length : Int), .int .i64 1, .int .i64 3] 83) = w0 at *
  refine (within1 _ _ _ _ _ V2).mono ?_
  rintro e w1 ⟨rfl, hB⟩
  replace V := hid (var_below hB V.out)
  replace BB := hid (BB.out.trans (hB.mono BB.out.size))
  replace H := hid (H.out.below BB.out)
  clear hB V2
  obtain ⟨g, hg⟩ : ∃ g, g = w.heap.size := ⟨_, rfl⟩
  rw [← hg] at V ⊢
  clear hg
  obtain ⟨f0, f1, -, -⟩ := var2_facts V.out
  by_cases hn : ks.length < 1 ∨ 3 < ks.length
  · have E := hid (rF_many (p := p) hn)
    rw [show inB (ks.length : Int) 1 3 = false by unfold inB; exact decide_eq_false (by omega)]
    replace hn := hid hn
    go_wp2
    try simp only [Exit.inBlock, Exit.then]
    refine bodyPost_ret (two_results rfl _ _ _) rfl ?_
    exact ⟨_, ret_t E.out.symm, fun q => absurd (E.out.symm.trans q) (by decide), BB.out⟩
  · have h1 : 1 ≤ ks.length := by omega
    have h3 : ks.length ≤ 3 := by omega
    rw [show inB (ks.length : Int) 1 3 = true by unfold inB; exact decide_eq_true (by omega)]
    replace hn := hid hn
    go_wp2_with fail
    go_loopw [5, 6, 20] (fun s4 s5 i wr => ∃ k : Nat, ∃ u4 u5 : Value, k ≤ ks.length ∧ i = .int .i64 k ∧ s4 = u4 ∧ s5 = u5 ∧ Hid (∀ j (hj : j < ks.length), j < k → kF ks[j] = 0) ∧ Hid (Below w1.heap.size w1 wr)) (fun _ _ i _ => ks.length - (intOf i).toNat)
    case atStart => exact ⟨0, _, _, by omega, rfl, rfl, rfl, hid (fun j _ h => absurd h (Nat.not_lt_zero j)), hid (Below.refl _ _)⟩
    case round =>
      obtain ⟨k, v4, v5, hk, rfl, rfl, rfl, T, BL⟩ := hrel
      clear f0 f1
      by_cases hlt : k < ks.length
      · obtain ⟨a', ca', e, -, -, hcs⟩ := (H.out.below BL.out).parts
        cases e
        obtain ⟨b, o, u, rfl, q1, q2, q3⟩ := hcs k hlt
        obtain ⟨pu, cu, rfl, -, -, -⟩ := q3.parts
        have I1 := idx_kg b o ks.length cap k hlt
        have k0 : (0 : Int) ≤ (k : Int) := by omega
        have k1 : (k : Int) < (ks.length : Int) := by omega
        clear hcs q3
        go_wp2_with fail
        refine (ikf _ _ _ _ _ (ks[k]).2 rfl).mono ?_
        rintro e w' ⟨rfl, hB⟩
        replace BL := hid (BL.out.trans (((below_alloc1 wr _).trans (hB.mono (by simp))).mono BL.out.size))
        have B2 := hid (BB.out.trans (BL.out.mono BB.out.size))
        have EK : kF ((ks[k]).1, (ks[k]).2) = kF ks[k] := rfl
        rw [EK]
        clear hB EK q1 q2
        by_cases e : kF ks[k] = 0
        · have T2 := hid (show ∀ j (hj : j < ks.length), j < k + 1 → kF ks[j] = 0 from fun j hj hjk => by
            rcases Nat.lt_or_ge j k with q | q
            · exact T.out j hj q
            · obtain rfl : j = k := by omega
              exact e)
          rw [e]
          replace e := hid e
          go_wp2
          go_roundw
          case rel => exact ⟨k + 1, _, _, hlt, by go_num, rfl, rfl, T2, BL⟩
          case measure => simp [intOf]; omega
        · have E := hid (rF_key (p := p) hn.out k hlt T.out e)
          obtain ⟨x, hx⟩ : ∃ x, x = kF ks[k] := ⟨_, rfl⟩
          rw [← hx] at e ⊢
          have X := hid hx
          have ne : (x != 0) = true := by rw [bne_iff_ne]; exact e
          clear hx
          replace e := hid e
          go_wp2
          try simp only [Exit.inBlock, Exit.then]
          refine bodyPost_ret (two_results rfl _ _ _) rfl ?_
          exact ⟨_, ret_t (X.out.trans E.out.symm), fun q => absurd ((X.out.trans E.out.symm).trans q) e.out, B2.out⟩
      · have hke : k = ks.length := by omega
        subst hke
        replace T := hid (show ∀ j (hj : j < ks.length), kF ks[j] = 0 from fun j hj => T.out j hj hj)
        replace V := hid (var_below BL.out V.out)
        replace H := hid (H.out.below BL.out)
        replace BB := hid (BB.out.trans (BL.out.mono BB.out.size))
        clear BL
        obtain ⟨w2, hw2⟩ : ∃ w', w' = wr := ⟨_, rfl⟩
        rw [← hw2] at V H BB ⊢
        clear hw2
        obtain ⟨f0, f1, -, -⟩ := var2_facts V.out
        go_wp2_with fail
        refine (idr _ ks _ H.out h1 (by omega)).mono ?_
        rintro e w3 ⟨t, rfl, ht, hf, hB⟩
        replace V := hid (var_below hB V.out)
        replace H := hid (H.out.below hB)
        replace BB := hid (BB.out.trans (hB.mono BB.out.size))
        clear hB f0 f1
        obtain ⟨f0, f1, -, -⟩ := var2_facts V.out
        cases t
        · have E := hid (rF_form (p := p) hn.out T.out (hf rfl))
          clear ht hf
          go_wp2
          try simp only [Exit.inBlock, Exit.then]
          refine bodyPost_ret (two_results rfl _ _ _) rfl ?_
          exact ⟨_, ret_t E.out.symm, fun q => absurd (E.out.symm.trans q) (by decide), BB.out⟩
        · have RR := hid (ht rfl)
          clear ht hf
          have F0 := fun x => cell_alloc f0 x
          have F1 := cell_alloc (cell_alloc f1 (.map #[] 0)) (.cells #[.int .i64 p, .map (some w3.heap.size)] 119)
          have M0 := hid (show MapK ((w3.alloc (.map #[] 0)).alloc (.cells #[.int .i64 p, .map (some w3.heap.size)] 119)) w3.heap.size 0 (.map []) from (World.ownsMap_made w3 Try.prog 2 Rv).alloc _)
          have VR := hid (heap_alloc2_new w3 (.map #[] 0) (.cells #[.int .i64 p, .map (some w3.heap.size)] 119))
          have hA := below_alloc2 w3 (.map #[] 0) (.cells #[.int .i64 p, .map (some w3.heap.size)] 119)
          replace V := hid (var_below hA V.out)
          replace H := hid (H.out.below hA)
          have SZ := hid BB.out.size
          replace BB := hid (BB.out.trans (hA.mono BB.out.size))
          clear hA
          go_wp2_with fail
          clear F0 F1 f0 f1
          generalize (w3.alloc (.map #[] 0)).alloc (.cells #[.int .i64 p, .map (some w3.heap.size)] 119) = w5 at *
          have SZ5 := hid (show w.heap.size ≤ w3.heap.size from SZ.out)
          generalize w3.heap.size = bM at *
          obtain ⟨gr, hgr⟩ : ∃ g, g = bM + 1 := ⟨_, rfl⟩
          rw [← hgr] at VR ⊢
          have GR5 := hid (show w.heap.size ≤ gr by rw [hgr]; exact Nat.le_succ_of_le SZ5.out)
          clear hgr
          go_loopw [9, 42] (fun s9 i wr => ∃ k : Nat, ∃ u9 : Value, ∃ D : DataW Value, k ≤ ks.length ∧ i = .int .i64 k ∧ s9 = u9 ∧ Hid (MapK wr bM k D) ∧ Hid (GoodM D) ∧ Hid (HasTo ks k D) ∧ Hid (AtTo ks k D) ∧ Hid (w5.grownBy wr (some bM))) (fun _ i _ => ks.length - (intOf i).toNat)
          case atStart => exact ⟨0, _, .map [], by omega, rfl, rfl, M0, hid GoodM.nil, hid (fun x => ⟨(fun h => by cases h), (fun ⟨j, _, h, _⟩ => absurd h (Nat.not_lt_zero j))⟩), hid (fun j _ h => absurd h (Nat.not_lt_zero j)), hid (World.grownBy.refl _ _)⟩
          case round =>
            obtain ⟨k, v9, D, hk', rfl, rfl, MK, GD, HT, AT, GG⟩ := hrel
            by_cases hlt' : k < ks.length
            · obtain ⟨⟨d1, d2⟩, d3⟩ := kF_ok (T.out k hlt')
              obtain ⟨a', ca', e, -, -, hcs⟩ := (rdk_grownM H.out M0.out GG.out).parts
              cases e
              obtain ⟨b, o, u, rfl, q1, q2, q3⟩ := hcs k hlt'
              obtain ⟨pu, cu, rfl, -, -, -⟩ := q3.parts
              rw [d3] at q2 q3
              have I1 := idx_kg b o ks.length cap k hlt'
              have k0 : (0 : Int) ≤ (k : Int) := by omega
              have k1 : (k : Int) < (ks.length : Int) := by omega
              have RU := hid q3
              have WF := hid (show (Lit.int .i64 (ks[k]).1).wf = true from WalkArith.wf_i64 (by omega))
              have VR2 := hid (var_grown GG.out VR.out (M0.out.apart VR.out))
              have VA := hid (var_alloc (.cells #[.int .i64 (ks[k]).1, .slice pu 16 cu] 40) VR2.out)
              have MA := hid (show MapK (wr.alloc (.cells #[.int .i64 (ks[k]).1, .slice pu 16 cu] 40)) bM k D from World.ownsMap.alloc MK.out _)
              have RA := hid (RU.out.below (below_alloc1 wr (.cells #[.int .i64 (ks[k]).1, .slice pu 16 cu] 40)))
              have GA := hid (World.grownBy_alloc wr (.cells #[.int .i64 (ks[k]).1, .slice pu 16 cu] 40) (some bM))
              have hk9 : k < 1000 := by omega
              have D3 := hid d3
              clear hcs q3 d3
              go_wp2_with fail
              refine (iput gr bM k p (ks[k]).1 (.slice pu 16 cu) (ks[k]).2 D _ VA.out MA.out hk9 RA.out D3.out WF.out).mono ?_
              rintro e w' ⟨⟨u', rfl⟩, hM', hG'⟩
              have NG := hid (grown_trans (grown_trans GG.out GA.out) hG')
              have NM := hid hM'
              have NK := lawK.key (Go.Maps.keyOf_int_mk Try.underlying2 WF.out)
              have ND := hid (GD.out.put MK.out.isMap _ NK (ks[k]).2 D3.out)
              have NA := hid (AT.out.next MK.out.isMap RR.out hlt' NK)
              have NH := hid (HT.out.next MK.out.isMap hlt' NK (.held (.agg (arr (ks[k]).2))))
              clear hM' hG' q1 q2 NK
              go_wp2
              go_roundw
              case rel => exact ⟨k + 1, _, _, hlt', by go_num, rfl, NM, ND, NH, NA, NG⟩
              case measure => simp [intOf]; omega
            · have hke : k = ks.length := by omega
              subst hke
              have BE := hid (BB.out.grown GG.out BB.out.size (fun x e => by cases e; exact SZ5.out))
              have VR2 := var_grown GG.out VR.out (M0.out.apart VR.out)
              have V2 := var_grown GG.out V.out (M0.out.apart V.out)
              obtain ⟨f0, f1, -, -⟩ := var2_facts V2
              have VR3 := hid VR2
              clear V2 VR2
              go_wp2_with fail
              refine (ihas _ _ _ _ _ D _ VR3.out MK.out GD.out hp).mono ?_
              rintro e w' ⟨rfl, hB⟩
              replace BE := hid (BE.out.trans (hB.mono BE.out.size))
              have HH := hid (HT.out p)
              have R1 := hid (show Ring1 w' gr bM p ks D from ⟨var_below hB VR3.out, MK.out.below hB, GD.out, HT.out, AT.out⟩)
              clear hB f0 f1
              cases hs : Maps.has D (.int .i64 p)
              · have E := hid (rF_none (p := p) hn.out T.out RR.out (fun ⟨j, hj, hx⟩ => by
                  have q := HH.out.2 ⟨j, hj, hj, hx⟩
                  rw [hs] at q
                  cases q))
                go_wp2
                try simp only [Exit.inBlock, Exit.then]
                refine bodyPost_ret (two_results rfl _ _ _) rfl ?_
                exact ⟨_, ret_t E.out.symm, fun q => absurd (E.out.symm.trans q) (by decide), BE.out⟩
              · have E := hid (rF_ok (p := p) hn.out T.out RR.out (by
                  obtain ⟨j, hj, -, hx⟩ := HH.out.1 hs
                  exact ⟨j, hj, hx⟩))
                go_wp2
                try simp only [Exit.inBlock, Exit.then]
                refine bodyPost_ret (two_results rfl _ _ _) rfl ?_
                exact ⟨_, ret_t E.out.symm, fun _ => ⟨gr, bM, D, rfl, GR5.out, SZ5.out, R1.out⟩, BE.out⟩
theorem ikr (p : Int) (v : Value) (ks : List (Int × List Nat)) (w : World) (h : RdK w v ks) (hp : (Lit.int .i64 p).wf = true) :
    Calls Try.prog 88 #[.agg #[.int .i64 p, v]] w fun e w' => ∃ r : Value, e = .returned (.tuple #[r, .int .i64 (rF p ks)]) ∧ Below w.heap.size w w' :=
  (ikrD p v ks w h hp).mono fun _ _ ⟨r, he, _, hB⟩ => ⟨r, he, hB⟩
end Go.Proofs.Ytbfdbicddmffnab.W
