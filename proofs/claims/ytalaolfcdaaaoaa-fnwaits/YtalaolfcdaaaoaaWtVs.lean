/-
  The fault of a wait and of waits: what the model answers.
-/
import Derived.Test.YtalaolfcdaaaoaaWtQ
import Derived.Test.YtalaolfcdaaaoaaInWalks
namespace Go.Proofs.Ytalaolfcdaaaoaa.W
open Go.ChangeShapes Go.WideShapes Go.ChangeAt Go.RowKit
open Go.Proofs.Ytalaolfcdaaaoaa.M

/-- A wait's form, its bounds, its fault. -/
def wtfB (x : Wai) : Bool := inB x.a 1 4 && (x.a == 4 || (x.f == 0 && x.g == 0))
def wtbB (x : Wai) : Bool := inB x.b 0 1000000 && (inB x.c 0 3 && (inB x.d 0 1000000 && (inB x.e 1 9 && (inB x.f 0 3 && inB x.g 0 1000000))))
def wt1 (x : Wai) : Int := if wtfB x = true then (if wtbB x = true then 0 else 3) else 1
theorem wt1_q (x : Wai) : wt1 x = 0 ∨ wt1 x = 1 ∨ wt1 x = 3 := by
  unfold wt1
  by_cases h : wtfB x = true
  · by_cases h2 : wtbB x = true
    · simp [h, h2]
    · simp [h, h2]
  · simp [h]
theorem wt1_f {x : Wai} (h : wtfB x = false) : wt1 x = 1 := by unfold wt1; rw [h]; simp
theorem wt1_b {x : Wai} (h : wtfB x = true) (h2 : wtbB x = false) : wt1 x = 3 := by unfold wt1; rw [h, h2]; simp
theorem wt1_o {x : Wai} (h : wtfB x = true) (h2 : wtbB x = true) : wt1 x = 0 := by unfold wt1; rw [h, h2]; simp
/-- The first fault from place k on. -/
def wtG : List Wai → Int
  | [] => 0
  | x :: r => if wt1 x = 0 then wtG r else wt1 x
/-- The fault of waits. -/
def wtF (cs : List Wai) : Int := if 40 < cs.length then 2 else wtG cs
theorem wtG_at : ∀ (cs : List Wai) (k : Nat) (hk : k < cs.length), (∀ j (hj : j < cs.length), j < k → wt1 cs[j] = 0) → wt1 cs[k] ≠ 0 → wtG cs = wt1 cs[k]
  | [], k, hk, _, _ => by simp at hk
  | x :: r, 0, hk, _, h => by simp only [List.getElem_cons_zero] at h ⊢; rw [wtG, if_neg h]
  | x :: r, k + 1, hk, ha, h => by
    have h0 := ha 0 (by simp) (by omega)
    simp only [List.getElem_cons_zero] at h0
    rw [wtG, if_pos h0, wtG_at r k (by simpa using hk) (fun j hj q => by have := ha (j + 1) (by simpa using hj) (by omega); simpa using this) (by simpa using h)]
    simp
theorem wtG_ok : ∀ (cs : List Wai), (∀ j (hj : j < cs.length), wt1 cs[j] = 0) → wtG cs = 0
  | [], _ => rfl
  | x :: r, h => by
    have h0 := h 0 (by simp)
    simp only [List.getElem_cons_zero] at h0
    rw [wtG, if_pos h0, wtG_ok r fun j hj => by have := h (j + 1) (by simpa using hj); simpa using this]
theorem wtG_all : ∀ (cs : List Wai), wtG cs = 0 → ∀ x ∈ cs, wt1 x = 0
  | [], _, x, hx => by simp at hx
  | y :: r, h, x, hx => by
    rw [wtG] at h
    by_cases h0 : wt1 y = 0
    · rw [if_pos h0] at h
      rcases List.mem_cons.1 hx with rfl | q
      · exact h0
      · exact wtG_all r h x q
    · rw [if_neg h0] at h; exact absurd h h0
theorem wtF_many {cs : List Wai} (h : 40 < cs.length) : wtF cs = 2 := by rw [wtF, if_pos h]
theorem wtF_at {cs : List Wai} (hl : ¬ 40 < cs.length) (k : Nat) (hk : k < cs.length) (ha : ∀ j (hj : j < cs.length), j < k → wt1 cs[j] = 0) (h : wt1 cs[k] ≠ 0) : wtF cs = wt1 cs[k] := by rw [wtF, if_neg hl]; exact wtG_at cs k hk ha h
theorem wtF_ok {cs : List Wai} (hl : ¬ 40 < cs.length) (ha : ∀ j (hj : j < cs.length), wt1 cs[j] = 0) : wtF cs = 0 := by rw [wtF, if_neg hl]; exact wtG_ok cs ha
set_option maxRecDepth 100000 in
theorem l9node (n : Int) (w : World) :
    Calls Try.prog 72 #[.int .i64 n] w fun e w' => e = .returned (.bool (inB n 0 3)) ∧ w' = w := by
  go_enter Try.func72, Try.ntmps72
  go_wp2_with fail
  refine (l1in _ _ _ _).mono ?_
  rintro e w1 ⟨rfl, rfl⟩
  obtain ⟨t, ht⟩ : ∃ t, t = inB n 0 3 := ⟨_, rfl⟩
  rw [← ht]
  replace ht := hid ht
  go_wp2
  go_ret
  exact ⟨ret_wb ht.out, rfl⟩
set_option maxHeartbeats 2000000 in
set_option maxRecDepth 100000 in
theorem l9w (b o : Nat) (x : Wai) (w : World) (h : ∀ t v, (jrow x)[t]? = some v → w.cell? ⟨b, o + t, none⟩ = some v) :
    Calls Try.prog 88 #[.pointer (some ⟨b, o, none⟩)] w fun e w' => e = .returned (.int .i64 (wt1 x)) ∧ w' = w := by
  obtain ⟨c0, c1, c2, c3, c4, c5, c6⟩ := j_cells h
  clear h
  go_enter Try.func88, Try.ntmps88
  go_wp2_with fail
  refine (l1in _ _ _ _).mono ?_
  rintro e w1 ⟨rfl, hw⟩
  subst hw
  obtain ⟨t1, ht1⟩ : ∃ t, t = inB x.a 1 4 := ⟨_, rfl⟩
  rw [← ht1]
  replace ht1 := hid ht1
  cases t1
  · have E := hid (show wt1 x = 1 by have := ht1.out; unfold wt1 wtfB; rw [← this]; simp)
    go_wp2
    go_ret
    exact ⟨ret_wi E.out.symm, rfl⟩
  by_cases h4 : x.a = 4
  · have FB := hid (show wtfB x = true by have := ht1.out; unfold wtfB; rw [← this, h4]; simp)
    go_wp2_with fail
    refine (l1in _ _ _ _).mono ?_
    rintro e w1 ⟨rfl, hw⟩
    subst hw
    obtain ⟨ub, hub⟩ : ∃ t, t = inB x.b 0 1000000 := ⟨_, rfl⟩
    rw [← hub]
    replace hub := hid hub
    replace h4 := hid h4
    cases ub
    · have E := hid (show wt1 x = 3 by have kb := hub.out; have := FB.out; unfold wt1 wtbB; rw [this, ← kb]; simp)
      go_wp2
      go_ret
      exact ⟨ret_wi E.out.symm, rfl⟩
    go_wp2_with fail
    refine (l9node _ _).mono ?_
    rintro e w1 ⟨rfl, hw⟩
    subst hw
    obtain ⟨uc, huc⟩ : ∃ t, t = inB x.c 0 3 := ⟨_, rfl⟩
    rw [← huc]
    replace huc := hid huc
    cases uc
    · have E := hid (show wt1 x = 3 by have kb := hub.out; have kc := huc.out; have := FB.out; unfold wt1 wtbB; rw [this, ← kb, ← kc]; simp)
      go_wp2
      go_ret
      exact ⟨ret_wi E.out.symm, rfl⟩
    go_wp2_with fail
    refine (l1in _ _ _ _).mono ?_
    rintro e w1 ⟨rfl, hw⟩
    subst hw
    obtain ⟨ud, hud⟩ : ∃ t, t = inB x.d 0 1000000 := ⟨_, rfl⟩
    rw [← hud]
    replace hud := hid hud
    cases ud
    · have E := hid (show wt1 x = 3 by have kb := hub.out; have kc := huc.out; have kd := hud.out; have := FB.out; unfold wt1 wtbB; rw [this, ← kb, ← kc, ← kd]; simp)
      go_wp2
      go_ret
      exact ⟨ret_wi E.out.symm, rfl⟩
    go_wp2_with fail
    refine (l1in _ _ _ _).mono ?_
    rintro e w1 ⟨rfl, hw⟩
    subst hw
    obtain ⟨ue, hue⟩ : ∃ t, t = inB x.e 1 9 := ⟨_, rfl⟩
    rw [← hue]
    replace hue := hid hue
    cases ue
    · have E := hid (show wt1 x = 3 by have kb := hub.out; have kc := huc.out; have kd := hud.out; have ke := hue.out; have := FB.out; unfold wt1 wtbB; rw [this, ← kb, ← kc, ← kd, ← ke]; simp)
      go_wp2
      go_ret
      exact ⟨ret_wi E.out.symm, rfl⟩
    go_wp2_with fail
    refine (l9node _ _).mono ?_
    rintro e w1 ⟨rfl, hw⟩
    subst hw
    obtain ⟨uf, huf⟩ : ∃ t, t = inB x.f 0 3 := ⟨_, rfl⟩
    rw [← huf]
    replace huf := hid huf
    cases uf
    · have E := hid (show wt1 x = 3 by have kb := hub.out; have kc := huc.out; have kd := hud.out; have ke := hue.out; have kf := huf.out; have := FB.out; unfold wt1 wtbB; rw [this, ← kb, ← kc, ← kd, ← ke, ← kf]; simp)
      go_wp2
      go_ret
      exact ⟨ret_wi E.out.symm, rfl⟩
    go_wp2_with fail
    refine (l1in _ _ _ _).mono ?_
    rintro e w1 ⟨rfl, hw⟩
    subst hw
    obtain ⟨ug, hug⟩ : ∃ t, t = inB x.g 0 1000000 := ⟨_, rfl⟩
    rw [← hug]
    replace hug := hid hug
    cases ug
    · have E := hid (show wt1 x = 3 by have kb := hub.out; have kc := huc.out; have kd := hud.out; have ke := hue.out; have kf := huf.out; have kg := hug.out; have := FB.out; unfold wt1 wtbB; rw [this, ← kb, ← kc, ← kd, ← ke, ← kf, ← kg]; simp)
      go_wp2
      go_ret
      exact ⟨ret_wi E.out.symm, rfl⟩
    have E := hid (show wt1 x = 0 by have kb := hub.out; have kc := huc.out; have kd := hud.out; have ke := hue.out; have kf := huf.out; have kg := hug.out; have := FB.out; unfold wt1 wtbB; rw [this, ← kb, ← kc, ← kd, ← ke, ← kf, ← kg]; simp)
    go_wp2
    go_ret
    exact ⟨ret_wi E.out.symm, rfl⟩
  by_cases h5 : x.f = 0
  · by_cases h6 : x.g = 0
    · have FB := hid (show wtfB x = true by have := ht1.out; unfold wtfB; rw [← this, h5, h6]; simp)
      go_wp2_with fail
      refine (l1in _ _ _ _).mono ?_
      rintro e w1 ⟨rfl, hw⟩
      subst hw
      obtain ⟨ub, hub⟩ : ∃ t, t = inB x.b 0 1000000 := ⟨_, rfl⟩
      rw [← hub]
      replace hub := hid hub
      replace h4 := hid h4
      replace h5 := hid h5
      replace h6 := hid h6
      cases ub
      · have E := hid (show wt1 x = 3 by have kb := hub.out; have := FB.out; unfold wt1 wtbB; rw [this, ← kb]; simp)
        go_wp2
        go_ret
        exact ⟨ret_wi E.out.symm, rfl⟩
      go_wp2_with fail
      refine (l9node _ _).mono ?_
      rintro e w1 ⟨rfl, hw⟩
      subst hw
      obtain ⟨uc, huc⟩ : ∃ t, t = inB x.c 0 3 := ⟨_, rfl⟩
      rw [← huc]
      replace huc := hid huc
      cases uc
      · have E := hid (show wt1 x = 3 by have kb := hub.out; have kc := huc.out; have := FB.out; unfold wt1 wtbB; rw [this, ← kb, ← kc]; simp)
        go_wp2
        go_ret
        exact ⟨ret_wi E.out.symm, rfl⟩
      go_wp2_with fail
      refine (l1in _ _ _ _).mono ?_
      rintro e w1 ⟨rfl, hw⟩
      subst hw
      obtain ⟨ud, hud⟩ : ∃ t, t = inB x.d 0 1000000 := ⟨_, rfl⟩
      rw [← hud]
      replace hud := hid hud
      cases ud
      · have E := hid (show wt1 x = 3 by have kb := hub.out; have kc := huc.out; have kd := hud.out; have := FB.out; unfold wt1 wtbB; rw [this, ← kb, ← kc, ← kd]; simp)
        go_wp2
        go_ret
        exact ⟨ret_wi E.out.symm, rfl⟩
      go_wp2_with fail
      refine (l1in _ _ _ _).mono ?_
      rintro e w1 ⟨rfl, hw⟩
      subst hw
      obtain ⟨ue, hue⟩ : ∃ t, t = inB x.e 1 9 := ⟨_, rfl⟩
      rw [← hue]
      replace hue := hid hue
      cases ue
      · have E := hid (show wt1 x = 3 by have kb := hub.out; have kc := huc.out; have kd := hud.out; have ke := hue.out; have := FB.out; unfold wt1 wtbB; rw [this, ← kb, ← kc, ← kd, ← ke]; simp)
        go_wp2
        go_ret
        exact ⟨ret_wi E.out.symm, rfl⟩
      go_wp2_with fail
      refine (l9node _ _).mono ?_
      rintro e w1 ⟨rfl, hw⟩
      subst hw
      obtain ⟨uf, huf⟩ : ∃ t, t = inB x.f 0 3 := ⟨_, rfl⟩
      rw [← huf]
      replace huf := hid huf
      cases uf
      · have E := hid (show wt1 x = 3 by have kb := hub.out; have kc := huc.out; have kd := hud.out; have ke := hue.out; have kf := huf.out; have := FB.out; unfold wt1 wtbB; rw [this, ← kb, ← kc, ← kd, ← ke, ← kf]; simp)
        go_wp2
        go_ret
        exact ⟨ret_wi E.out.symm, rfl⟩
      go_wp2_with fail
      refine (l1in _ _ _ _).mono ?_
      rintro e w1 ⟨rfl, hw⟩
      subst hw
      obtain ⟨ug, hug⟩ : ∃ t, t = inB x.g 0 1000000 := ⟨_, rfl⟩
      rw [← hug]
      replace hug := hid hug
      cases ug
      · have E := hid (show wt1 x = 3 by have kb := hub.out; have kc := huc.out; have kd := hud.out; have ke := hue.out; have kf := huf.out; have kg := hug.out; have := FB.out; unfold wt1 wtbB; rw [this, ← kb, ← kc, ← kd, ← ke, ← kf, ← kg]; simp)
        go_wp2
        go_ret
        exact ⟨ret_wi E.out.symm, rfl⟩
      have E := hid (show wt1 x = 0 by have kb := hub.out; have kc := huc.out; have kd := hud.out; have ke := hue.out; have kf := huf.out; have kg := hug.out; have := FB.out; unfold wt1 wtbB; rw [this, ← kb, ← kc, ← kd, ← ke, ← kf, ← kg]; simp)
      go_wp2
      go_ret
      exact ⟨ret_wi E.out.symm, rfl⟩
    · have E := hid (wt1_f (x := x) (by unfold wtfB; simp [h4, h6]))
      have n4 : (x.a != 4) = true := by simp [h4]
      have n6 : (x.g != 0) = true := by simp [h6]
      go_wp2
      go_ret
      exact ⟨ret_wi E.out.symm, rfl⟩
  · have E := hid (wt1_f (x := x) (by unfold wtfB; simp [h4, h5]))
    go_wp2
    go_ret
    exact ⟨ret_wi E.out.symm, rfl⟩
set_option maxHeartbeats 2000000 in
set_option maxRecDepth 100000 in
theorem s9f (v : Value) (cs : List Wai) (w : World) (h : RdJ w v cs) :
    Calls Try.prog 26 #[v] w fun e w' => e = .returned (.int .i64 (wtF cs)) ∧ Below w.heap.size w w' := by
  have H := hid h
  obtain ⟨a, cap, rfl, hc, hm, -⟩ := h.parts
  clear h
  have hmx : cs.length ≤ 9223372036854775807 := by unfold maxLen at hm; omega
  clear hc hm
  by_cases hl : 40 < cs.length
  · have E := hid (wtF_many hl)
    go_enter Try.func26, Try.ntmps26
    go_wp2
    go_ret
    exact ⟨ret_wi E.out.symm, Below.refl _ _⟩
  · have HL := hid hl
    go_enter Try.func26, Try.ntmps26
    go_wp2_with fail
    go_loopw [3, 4] (fun i u wr => ∃ k : Nat, ∃ u4 : Value, k ≤ cs.length ∧ i = .int .i64 k ∧ u = u4 ∧ Hid (Below w.heap.size w wr) ∧ Hid (∀ j (hj : j < cs.length), j < k → wt1 cs[j] = 0)) (fun i _ _ => cs.length - (intOf i).toNat)
    case atStart => exact ⟨0, _, by omega, rfl, rfl, hid (Below.refl _ _), hid fun j _ q => by omega⟩
    case round =>
      obtain ⟨k, u4, hk, rfl, rfl, BL, OK⟩ := hrel
      by_cases hlt : k < cs.length
      · obtain ⟨a', cap', e, -, -, hcs⟩ := (H.out.below BL.out).parts
        cases e
        obtain ⟨b, o, rfl, q1⟩ := hcs k hlt
        have I1 := idx_ji b o cs.length cap k hlt
        have k0 : (0 : Int) ≤ (k : Int) := by omega
        have k1 : (k : Int) < (cs.length : Int) := by omega
        have VR := hid fun q => wtF_at hl k hlt OK.out q
        have Q := hid q1
        obtain ⟨t, ht⟩ : ∃ t, t = wt1 cs[k] := ⟨_, rfl⟩
        replace ht := hid ht
        clear q1 hcs hl
        go_wp2_with fail
        refine (l9w _ _ cs[k] _ Q.out).mono ?_
        rintro e w1 ⟨rfl, hw⟩
        subst hw
        rw [← ht.out]
        clear Q
        by_cases h0 : t = 0
        · subst h0
          have OK2 := hid (show ∀ j (hj : j < cs.length), j < k + 1 → wt1 cs[j] = 0 from fun j hj q => by
            rcases Nat.lt_or_ge j k with q2 | q2
            · exact OK.out j hj q2
            · obtain rfl : j = k := by omega
              exact ht.out.symm)
          go_wp2
          go_roundw
          case rel => exact ⟨k + 1, _, hlt, by go_num, rfl, BL, OK2⟩
          case measure => simp [intOf]; omega
        · have E := hid ((VR.out (by rw [← ht.out]; exact h0)).trans ht.out.symm)
          go_wp2
          go_ret
          exact ⟨ret_wi E.out.symm, BL.out⟩
      · have E := hid (wtF_ok HL.out fun j hj => OK.out j hj (by omega))
        go_wp2
        go_ret
        exact ⟨ret_wi E.out.symm, BL.out⟩
end Go.Proofs.Ytalaolfcdaaaoaa.W
