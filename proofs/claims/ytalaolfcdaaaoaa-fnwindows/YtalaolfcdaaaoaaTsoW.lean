/-
  A window as the program works with it: what takenSetOf answers.
-/
import Derived.Test.YtalaolfcdaaaoaaTsW
namespace Go.Proofs.Ytalaolfcdaaaoaa.W
open Go.ChangeShapes Go.WideShapes Go.ChangeAt Go.RowKit Go.Maps
open Go.Proofs.Ytalaolfcdaaaoaa.M

theorem two_resultsT {fn : Func} {a b : Tmp} (h : fn.results = #[.tmp a, .tmp b]) (ts : Array Value) (P : Program) (w : World) :
    (results fn ts).run P w = .ok (.tuple #[ts.getD a undef, ts.getD b undef]) w := by simp [results, h]
theorem ret_tT {r : Value} {a b : Int} (h : a = b) : Ending.returned (.tuple #[r, .int .i64 a]) = .returned (.tuple #[r, .int .i64 b]) := by rw [h]
/-- The window top, l as it is worked with: the struct at block g, its set at block b. -/
structure Win1 (w : World) (g b nn : Nat) (top : Int) (l : List Int) : Prop where
  var : w.heap[g]? = some (.cells #[.int .i64 top, .map (some b)] 159)
  set : TSet w b nn l
theorem Win1.below {w w' : World} {g b nn : Nat} {top : Int} {l : List Int} (h : Win1 w g b nn top l) (hB : Below w.heap.size w w') : Win1 w' g b nn top l := ⟨var_below hB h.var, h.set.below hB⟩
theorem tset_made (w : World) : TSet (w.alloc (.map #[] 0)) w.heap.size 0 [] := ⟨.map [], World.ownsMap_made w Try.prog 162 _, fun x _ => by simp [Maps.has]⟩
set_option maxHeartbeats 4000000 in
set_option maxRecDepth 100000 in
theorem iso (top : Int) (v : Value) (l : List Int) (w : World) (h : RdZ w v l) (hy : WfZ l) (hl : l.length ≤ 1048576) :
    Calls Try.prog 100 #[.agg #[.int .i64 top, v]] w fun e w' => ∃ r : Value, e = .returned (.tuple #[r, .int .i64 (wF top l)]) ∧ (wF top l = 0 → ∃ g b, r = .pointer (some ⟨g, 0, none⟩) ∧ w.heap.size ≤ g ∧ w.heap.size ≤ b ∧ Win1 w' g b l.length top l) ∧ Below w.heap.size w w' := by
  have H := hid h
  have HY := hid hy
  obtain ⟨a, cap, rfl, -, hcm, -⟩ := h.parts
  clear h hy
  unfold maxLen at hcm
  have hmm := @run_makeMap Try.prog
  go_enter Try.func100, Try.ntmps100
  go_wp2_with fail
  have V := hid (heap_alloc2_old w (.cells #[.int .i64 top, .slice a l.length cap] 69) (.cells #[.int .i64 top, .int .i64 (-1), .int .i64 1000000000] 100))
  have BB := hid (below_alloc2 w (.cells #[.int .i64 top, .slice a l.length cap] 69) (.cells #[.int .i64 top, .int .i64 (-1), .int .i64 1000000000] 100))
  have V2 := heap_alloc2_new w (.cells #[.int .i64 top, .slice a l.length cap] 69) (.cells #[.int .i64 top, .int .i64 (-1), .int .i64 1000000000] 100)
  generalize (w.alloc (.cells #[.int .i64 top, .slice a l.length cap] 69)).alloc (.cells #[.int .i64 top, .int .i64 (-1), .int .i64 1000000000] 100) = w0 at *
  refine (within1 _ _ _ _ _ V2).mono ?_
  rintro e w1 ⟨rfl, hB⟩
  replace V := hid (var_below hB V.out)
  replace BB := hid (BB.out.trans (hB.mono BB.out.size))
  replace H := hid (H.out.below BB.out)
  clear hB V2
  obtain ⟨g, hg⟩ : ∃ g, g = w.heap.size := ⟨_, rfl⟩
  rw [← hg] at V ⊢
  clear hg
  obtain ⟨f0, f1, -, -⟩ := var2_facts V.out
  by_cases hr : -1 ≤ top ∧ top ≤ 1000000000
  case neg =>
    have E := hid (wF_range (l := l) hr)
    rw [show inB top (-1) 1000000000 = false from decide_eq_false hr]
    clear hr
    go_wp2
    try simp only [Exit.inBlock, Exit.then]
    refine bodyPost_ret (two_resultsT rfl _ _ _) rfl ?_
    exact ⟨_, ret_tT E.out.symm, fun q => absurd (E.out.symm.trans q) (by decide), BB.out⟩
  rw [show inB top (-1) 1000000000 = true from decide_eq_true hr]
  have HR := hid hr
  clear hr
  go_wp2_with fail
  clear f0 f1
  go_loopw [5, 18] (fun s5 i wr => ∃ k : Nat, ∃ u5 : Value, k ≤ l.length ∧ i = .int .i64 k ∧ s5 = u5 ∧ Hid (∀ j (hj : j < l.length), j < k → inW top l[j] = true) ∧ Hid (Below w1.heap.size w1 wr)) (fun _ i _ => l.length - (intOf i).toNat)
  case atStart => exact ⟨0, _, by omega, rfl, rfl, hid (fun j _ h => absurd h (Nat.not_lt_zero j)), hid (Below.refl _ _)⟩
  case round =>
    obtain ⟨k, v5, hk, rfl, rfl, T, BL⟩ := hrel
    have VL := hid (var_below BL.out V.out)
    by_cases hlt : k < l.length
    · obtain ⟨a', ca', e, -, -, hcs⟩ := (H.out.below BL.out).parts
      cases e
      obtain ⟨b, o, rfl, q1⟩ := hcs k hlt
      obtain ⟨f0, f1, -, -⟩ := var2_facts VL.out
      clear hcs
      go_wp2_with fail
      clear q1 f0 f1
      have V3 := heap_alloc_new wr (.cells #[.int .i64 l[k], .int .i64 0, .int .i64 top] 100)
      have hA := below_alloc1 wr (.cells #[.int .i64 l[k], .int .i64 0, .int .i64 top] 100)
      generalize wr.alloc (.cells #[.int .i64 l[k], .int .i64 0, .int .i64 top] 100) = w2 at *
      replace VL := hid (var_below hA VL.out)
      replace BL := hid (BL.out.trans (hA.mono BL.out.size))
      clear hA
      refine (within1 _ _ _ _ _ V3).mono ?_
      rintro e w3 ⟨rfl, hB⟩
      replace VL := hid (var_below hB VL.out)
      replace BL := hid (BL.out.trans (hB.mono BL.out.size))
      clear hB V3
      have B2 := hid (BB.out.trans (BL.out.mono BB.out.size))
      obtain ⟨f0, f1, -, -⟩ := var2_facts VL.out
      by_cases hin : 0 ≤ l[k] ∧ l[k] ≤ top
      · rw [show inB l[k] 0 top = true from decide_eq_true hin]
        have HI := hid hin
        clear hin
        go_wp2_with fail
        clear f0 f1
        refine (iold _ _ _ HR.out).mono ?_
        rintro e x ⟨rfl, rfl⟩
        by_cases ho : l[k] ≤ top - 16
        · have E := hid (wF_bad k hlt (inW_not (.inr ho)))
          rw [decide_eq_true ho]
          clear ho
          go_wp2
          try simp only [Exit.inBlock, Exit.then]
          refine bodyPost_ret (two_resultsT rfl _ _ _) rfl ?_
          exact ⟨_, ret_tT E.out.symm, fun q => absurd (E.out.symm.trans q) (by decide), B2.out⟩
        · have E := hid (inW_mk HI.out ho)
          rw [decide_eq_false ho]
          clear ho
          go_wp2
          go_roundw
          case rel => exact ⟨k + 1, _, hlt, by go_num, rfl, hid (fun j hj hjk => by
            rcases Nat.lt_or_ge j k with q | q
            · exact T.out j hj q
            · obtain rfl : j = k := by omega
              exact E.out), BL⟩
          case measure => simp [intOf]; omega
      · rw [show inB l[k] 0 top = false from decide_eq_false hin]
        have E := hid (wF_bad k hlt (inW_not (.inl hin)))
        clear hin
        go_wp2
        try simp only [Exit.inBlock, Exit.then]
        refine bodyPost_ret (two_resultsT rfl _ _ _) rfl ?_
        exact ⟨_, ret_tT E.out.symm, fun q => absurd (E.out.symm.trans q) (by decide), B2.out⟩
    · have hke : k = l.length := by omega
      subst hke
      replace T := hid (show ∀ j (hj : j < l.length), inW top l[j] = true from fun j hj => T.out j hj hj)
      replace V := VL
      replace H := hid (H.out.below BL.out)
      replace BB := hid (BB.out.trans (BL.out.mono BB.out.size))
      clear BL VL
      obtain ⟨w2, hw2⟩ : ∃ w', w' = wr := ⟨_, rfl⟩
      rw [← hw2] at V H BB ⊢
      clear hw2
      obtain ⟨f0, f1, -, -⟩ := var2_facts V.out
      go_wp2_with fail
      refine (inris _ l _ H.out).mono ?_
      rintro e w3 ⟨rfl, hB⟩
      replace V := hid (var_below hB V.out)
      replace H := hid (H.out.below hB)
      replace BB := hid (BB.out.trans (hB.mono BB.out.size))
      clear hB f0 f1
      obtain ⟨f0, f1, -, -⟩ := var2_facts V.out
      cases ht : risB l with
      | false =>
        have E := hid (show wF top l = 1 by rw [wF, if_neg (by have := HR.out; omega), if_neg (by rw [all_inW T.out]; simp), if_pos ht])
        clear ht
        go_wp2
        try simp only [Exit.inBlock, Exit.then]
        refine bodyPost_ret (two_resultsT rfl _ _ _) rfl ?_
        exact ⟨_, ret_tT E.out.symm, fun q => absurd (E.out.symm.trans q) (by decide), BB.out⟩
      | true =>
        have RR := hid (ris_pair ht)
        clear ht
        have F0 := fun x => cell_alloc f0 x
        have F1 := cell_alloc (cell_alloc f1 (.map #[] 0)) (.cells #[.int .i64 top, .map (some w3.heap.size)] 159)
        have M0 := hid ((tset_made w3).below (below_alloc1 _ (.cells #[.int .i64 top, .map (some w3.heap.size)] 159)))
        have VR := hid (heap_alloc2_new w3 (.map #[] 0) (.cells #[.int .i64 top, .map (some w3.heap.size)] 159))
        have hA := below_alloc2 w3 (.map #[] 0) (.cells #[.int .i64 top, .map (some w3.heap.size)] 159)
        replace V := hid (var_below hA V.out)
        replace H := hid (H.out.below hA)
        have SZ := hid BB.out.size
        replace BB := hid (BB.out.trans (hA.mono BB.out.size))
        clear hA
        go_wp2_with fail
        clear F0 F1 f0 f1
        generalize (w3.alloc (.map #[] 0)).alloc (.cells #[.int .i64 top, .map (some w3.heap.size)] 159) = w5 at *
        have SZ5 := hid (show w.heap.size ≤ w3.heap.size from SZ.out)
        generalize w3.heap.size = bM at *
        obtain ⟨gr, hgr⟩ : ∃ g, g = bM + 1 := ⟨_, rfl⟩
        rw [← hgr] at VR ⊢
        have GR5 := hid (show w.heap.size ≤ gr by rw [hgr]; exact Nat.le_succ_of_le SZ5.out)
        clear hgr
        go_loopw [8, 48] (fun s8 i wr => ∃ k : Nat, ∃ u8 : Value, k ≤ l.length ∧ i = .int .i64 k ∧ s8 = u8 ∧ Hid (TSet wr bM k (l.take k)) ∧ Hid (w5.grownBy wr (some bM))) (fun _ i _ => l.length - (intOf i).toNat)
        case atStart => exact ⟨0, _, by omega, rfl, rfl, M0, hid (World.grownBy.refl _ _)⟩
        case round =>
          obtain ⟨k, v8, hk', rfl, rfl, MK, GG⟩ := hrel
          have VR2 := hid (var_grownT VR.out M0.out GG.out)
          by_cases hlt' : k < l.length
          · obtain ⟨a', ca', e, -, -, hcs⟩ := (rdZ_grownT H.out M0.out GG.out).parts
            cases e
            obtain ⟨b, o, rfl, q1⟩ := hcs k hlt'
            clear hcs
            go_wp2_with fail
            clear q1
            refine (iputT gr bM k top l[k] (l.take k) _ VR2.out MK.out (by omega) (HY.out.at k hlt')).mono ?_
            rintro e w6 ⟨⟨u, rfl⟩, hS, hG⟩
            have M6 := hid (hS.same (ys := l.take (k + 1)) fun x => by rw [List.take_succ_eq_append_getElem hlt', List.mem_append, List.mem_cons, List.mem_singleton]; exact or_comm)
            have G6 := hid (grown_trans GG.out hG)
            clear hS hG
            go_wp2
            go_roundw
            case rel => exact ⟨k + 1, _, hlt', by go_num, rfl, M6, G6⟩
            case measure => simp [intOf]; omega
          · have hke : k = l.length := by omega
            subst hke
            rw [List.take_of_length_le (Nat.le_refl _)] at MK
            have VE := hid (var_grownT V.out M0.out GG.out)
            have BE := hid (BB.out.trans (below_of_grown GG.out BB.out.size (fun k e => by cases e; exact SZ5.out)))
            obtain ⟨f0, f1, -, -⟩ := var2_facts VE.out
            by_cases h1 : top = -1
            · have E := hid (show wF top l = 0 by rw [wF, if_neg (by have := HR.out; omega), if_neg (by rw [all_inW T.out]; simp), if_neg (by rw [pair_ris RR.out]; simp), if_neg (by omega)])
              subst h1
              go_wp2
              try simp only [Exit.inBlock, Exit.then]
              refine bodyPost_ret (two_resultsT rfl _ _ _) rfl ?_
              exact ⟨_, ret_tT E.out.symm, fun q => ⟨gr, bM, rfl, GR5.out, SZ5.out, VR2.out, MK.out⟩, BE.out⟩
            · have W1 := hid (show (Lit.int .i64 top).wf = true from WalkArith.wf_i64 (by have := HR.out; omega))
              have H1 := hid h1
              have n1 : (top != -1) = true := by rw [bne_iff_ne]; exact h1
              clear h1
              go_wp2_with fail
              clear f0 f1 n1
              refine (ihasT gr bM l.length top top l _ VR2.out MK.out W1.out).mono ?_
              rintro e w7 ⟨rfl, hB⟩
              have VR3 := hid (var_below hB VR2.out)
              have MK3 := hid (MK.out.below hB)
              replace BE := hid (BE.out.trans (hB.mono BE.out.size))
              clear hB
              have LT := hid (last_top RR.out fun x hx => (inW_yes (List.all_eq_true.1 (all_inW T.out) x hx)).2.1)
              cases hc : l.contains top with
              | false =>
                have E := hid (show wF top l = 8 by
                  rw [wF, if_neg (by have := HR.out; omega), if_neg (by rw [all_inW T.out]; simp), if_neg (by rw [pair_ris RR.out]; simp), if_pos ⟨by have := HR.out; have := H1.out; omega, fun q => by
                    have := LT.out.1 q
                    simp [this] at hc⟩])
                clear hc
                go_wp2
                try simp only [Exit.inBlock, Exit.then]
                refine bodyPost_ret (two_resultsT rfl _ _ _) rfl ?_
                exact ⟨_, ret_tT E.out.symm, fun q => absurd (E.out.symm.trans q) (by decide), BE.out⟩
              | true =>
                have E := hid (show wF top l = 0 by
                  rw [wF, if_neg (by have := HR.out; omega), if_neg (by rw [all_inW T.out]; simp), if_neg (by rw [pair_ris RR.out]; simp), if_neg]
                  rintro ⟨-, q⟩
                  exact q (LT.out.2 (by simpa using hc)))
                clear hc
                go_wp2
                try simp only [Exit.inBlock, Exit.then]
                refine bodyPost_ret (two_resultsT rfl _ _ _) rfl ?_
                exact ⟨_, ret_tT E.out.symm, fun q => ⟨gr, bM, rfl, GR5.out, SZ5.out, VR3.out, MK3.out⟩, BE.out⟩
end Go.Proofs.Ytalaolfcdaaaoaa.W
