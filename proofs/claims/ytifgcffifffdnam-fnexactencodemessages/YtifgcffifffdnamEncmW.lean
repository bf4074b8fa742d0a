/-
  Messages as bytes: what EncodeMessage of the model and of the program answers. Generated text.
-/
import Derived.Test.YtifgcffifffdnamEnmW
import Derived.Test.YtifgcffifffdnamMkB
namespace Go.Proofs.Ytifgcffifffdnam.W
open Go.ChangeShapes Go.WideShapes Go.ChangeAt Go.RowKit
open Go.Proofs.Ytifgcffifffdnam.M

/-- The bytes that EncodeMessage tells of a message with this code. -/
def emL (m : Msg) (code : Int) : List Nat := if code = 0 then eB m else []
theorem emL_len {m : Msg} {code : Int} (hc : mF m code) : (emL m code).length ≤ 100 := by
  unfold emL
  split
  · rename_i h
    subst h
    rcases ok_cases hc with ⟨s, n, e, h1, h2, h3⟩ | ⟨s, e, h1, h3⟩ | ⟨s, n, e, h1, h2, h3⟩ | ⟨cn, ci, cs, cm, e, h1, h2, h4, h5, h3⟩ | ⟨op, id', e, h0, h1, h2, h4, h5, h3⟩ <;> rw [h3]
    · simp [eP, packL_len]
    · simp [eA, packL_len]
    · simp [eP, packL_len]
    · simp [eC, packL_len]
    · simp [eK]; omega
  · simp
set_option maxHeartbeats 2000000 in
set_option maxRecDepth 100000 in
theorem sem (k s n cn ci cs cm op id' code : Int) (v : Value) (l : List Nat) (w : World) (h : Rd w v l) (hc : mF ⟨k, s, n, cn, ci, cs, cm, op, id', l⟩ code) :
    Calls Try.prog 22 #[.agg #[.int .i64 k, .int .i64 s, .int .i64 n, .int .i64 cn, .int .i64 ci, .int .i64 cs, .int .i64 cm, .int .i64 op, .int .i64 id', v]] w fun e w' => ∃ v', e = .returned (.agg #[.int .i64 code, v']) ∧ Own w' w.heap.size v' (emL ⟨k, s, n, cn, ci, cs, cm, op, id', l⟩ code) ∧ Below w.heap.size w w' := by
  have H := hid h
  have HC := hid hc
  obtain ⟨a, c, rfl, -, -, -⟩ := h.parts
  clear h hc
  go_enter Try.func22, Try.ntmps22
  go_wp2_with fail
  have VM := hid (heap_alloc2_old w (.cells #[.int .i64 k, .int .i64 s, .int .i64 n, .int .i64 cn, .int .i64 ci, .int .i64 cs, .int .i64 cm, .int .i64 op, .int .i64 id', .slice a l.length c] 45) (.cells #[.int .i64 0, .slice none 0 0] 50))
  have VR := hid (heap_alloc2_new w (.cells #[.int .i64 k, .int .i64 s, .int .i64 n, .int .i64 cn, .int .i64 ci, .int .i64 cs, .int .i64 cm, .int .i64 op, .int .i64 id', .slice a l.length c] 45) (.cells #[.int .i64 0, .slice none 0 0] 50))
  have BB := hid (below_alloc2 w (.cells #[.int .i64 k, .int .i64 s, .int .i64 n, .int .i64 cn, .int .i64 ci, .int .i64 cs, .int .i64 cm, .int .i64 op, .int .i64 id', .slice a l.length c] 45) (.cells #[.int .i64 0, .slice none 0 0] 50))
  replace H := hid (H.out.below BB.out)
  generalize (w.alloc (.cells #[.int .i64 k, .int .i64 s, .int .i64 n, .int .i64 cn, .int .i64 ci, .int .i64 cs, .int .i64 cm, .int .i64 op, .int .i64 id', .slice a l.length c] 45)).alloc (.cells #[.int .i64 0, .slice none 0 0] 50) = w0 at *
  obtain ⟨gr, hgr⟩ : ∃ g, g = w.heap.size + 1 := ⟨_, rfl⟩
  obtain ⟨gm, hgm⟩ : ∃ g, g = w.heap.size := ⟨_, rfl⟩
  have LG := hid (show w.heap.size ≤ gr by omega)
  rw [← hgr] at VR ⊢
  rw [← hgm] at VM ⊢
  clear hgr hgm
  refine (smf k s n cn ci cs cm op id' code _ l _ H.out HC.out).mono ?_
  rintro e w1 ⟨rfl, hB⟩
  replace VM := hid (var_below hB VM.out)
  replace VR := hid (var_below hB VR.out)
  replace H := hid (H.out.below hB)
  replace BB := hid (BB.out.trans (hB.mono BB.out.size))
  clear hB
  by_cases h0 : code = 0
  case neg =>
    have ne : (code != 0) = true := by rw [bne_iff_ne]; exact h0
    have EL := hid (show emL ⟨k, s, n, cn, ci, cs, cm, op, id', l⟩ code = [] by rw [emL, if_neg h0])
    replace h0 := hid h0
    obtain ⟨r0, r1, y0, y1⟩ := var2_facts VR.out
    have hset := hid (var2_set (x' := .int .i64 code) (y' := .slice none 0 0) VR.out)
    have hbel := hid (below_set2 (x := .int .i64 code) (y := .slice none 0 0) BB.out LG.out)
    go_wp2
    try simp only [Exit.inBlock, Exit.then]
    exact bodyPost_ret (v := .agg #[.int .i64 code, .slice none 0 0]) (results_cell_row rfl _ _ gr 50 _ _ _ rfl hset.out Try.underlying50 rfl (by kernel_rfl)) rfl ⟨_, rfl, by rw [EL.out]; exact Own.nil _ _, hbel.out⟩
  subst h0
  obtain ⟨⟨f0, f1, f2, f3, f4, f5, f6, f7, f8, f9⟩, -⟩ := v10_facts VM.out
  go_wp2_with fail
  refine (senc gm 0 ⟨k, s, n, cn, ci, cs, cm, op, id', l⟩ _ _ H.out HC.out (v10_facts VM.out).1).mono ?_
  rintro e w2 ⟨v2, rfl, hO, hB⟩
  clear f0 f1 f2 f3 f4 f5 f6 f7 f8 f9 VM
  obtain ⟨pv, kv, rfl, -, -, -⟩ := hO.rd.parts
  have OU := hid hO
  have GS := hid (show gr < w1.heap.size from var_lt VR.out)
  replace VR := hid (var_below hB VR.out)
  have LW := hid BB.out.size
  replace BB := hid (BB.out.trans (hB.mono BB.out.size))
  clear hO hB
  obtain ⟨m0, hm⟩ : ∃ z : Nat, z = (eB ⟨k, s, n, cn, ci, cs, cm, op, id', l⟩).length := ⟨_, rfl⟩
  rw [← hm] at OU ⊢
  replace hm := hid hm
  obtain ⟨r0, r1, y0, y1⟩ := var2_facts VR.out
  have hset := hid (var2_set (x' := .int .i64 0) (y' := .slice pv m0 kv) VR.out)
  have hbel := hid (below_set2 (x := .int .i64 0) (y := .slice pv m0 kv) BB.out LG.out)
  have hown := hid ((OU.out.set2 (g := gr) (x := .int .i64 0) (y := .slice pv m0 kv) GS.out).mono (base' := w.heap.size) LW.out)
  go_wp2
  try simp only [Exit.inBlock, Exit.then]
  exact bodyPost_ret (v := .agg #[.int .i64 0, .slice pv m0 kv]) (results_cell_row rfl _ _ gr 50 _ _ _ rfl hset.out Try.underlying50 rfl (by kernel_rfl)) rfl ⟨_, rfl, by simpa [emL] using hown.out, hbel.out⟩
set_option maxHeartbeats 2000000 in
set_option maxRecDepth 100000 in
theorem iem (k s n cn ci cs cm op id' code : Int) (v : Value) (l : List Nat) (w : World) (h : Rd w v l) (hc : mF ⟨k, s, n, cn, ci, cs, cm, op, id', l⟩ code) :
    Calls Try.prog 23 #[.agg #[.int .i64 k, .int .i64 s, .int .i64 n, .int .i64 cn, .int .i64 ci, .int .i64 cs, .int .i64 cm, .int .i64 op, .int .i64 id', v]] w fun e w' => ∃ v', e = .returned (.agg #[.int .i64 code, v']) ∧ Own w' w.heap.size v' (emL ⟨k, s, n, cn, ci, cs, cm, op, id', l⟩ code) ∧ Below w.heap.size w w' := by
  have H := hid h
  have HC := hid hc
  obtain ⟨a, c, rfl, -, -, -⟩ := h.parts
  clear h hc
  go_enter Try.func23, Try.ntmps23
  go_wp2_with fail
  have VM := hid (heap_alloc2_old w (.cells #[.int .i64 k, .int .i64 s, .int .i64 n, .int .i64 cn, .int .i64 ci, .int .i64 cs, .int .i64 cm, .int .i64 op, .int .i64 id', .slice a l.length c] 45) (.cells #[.int .i64 0, .slice none 0 0] 50))
  have VR := hid (heap_alloc2_new w (.cells #[.int .i64 k, .int .i64 s, .int .i64 n, .int .i64 cn, .int .i64 ci, .int .i64 cs, .int .i64 cm, .int .i64 op, .int .i64 id', .slice a l.length c] 45) (.cells #[.int .i64 0, .slice none 0 0] 50))
  have BB := hid (below_alloc2 w (.cells #[.int .i64 k, .int .i64 s, .int .i64 n, .int .i64 cn, .int .i64 ci, .int .i64 cs, .int .i64 cm, .int .i64 op, .int .i64 id', .slice a l.length c] 45) (.cells #[.int .i64 0, .slice none 0 0] 50))
  replace H := hid (H.out.below BB.out)
  generalize (w.alloc (.cells #[.int .i64 k, .int .i64 s, .int .i64 n, .int .i64 cn, .int .i64 ci, .int .i64 cs, .int .i64 cm, .int .i64 op, .int .i64 id', .slice a l.length c] 45)).alloc (.cells #[.int .i64 0, .slice none 0 0] 50) = w0 at *
  obtain ⟨gr, hgr⟩ : ∃ g, g = w.heap.size + 1 := ⟨_, rfl⟩
  obtain ⟨gm, hgm⟩ : ∃ g, g = w.heap.size := ⟨_, rfl⟩
  have LG := hid (show w.heap.size ≤ gr by omega)
  rw [← hgr] at VR ⊢
  rw [← hgm] at VM ⊢
  clear hgr hgm
  refine (wof k s n cn ci cs cm op id' code _ l _ H.out HC.out).mono ?_
  rintro e w1 ⟨u, rfl, hW, hB⟩
  replace VM := hid (var_below hB VM.out)
  replace VR := hid (var_below hB VR.out)
  replace H := hid (H.out.below hB)
  replace BB := hid (BB.out.trans (hB.mono BB.out.size))
  have HW := hid hW
  clear hB hW
  by_cases h0 : code = 0
  case neg =>
    have ne : (code != 0) = true := by rw [bne_iff_ne]; exact h0
    have EL := hid (show emL ⟨k, s, n, cn, ci, cs, cm, op, id', l⟩ code = [] by rw [emL, if_neg h0])
    replace h0 := hid h0
    obtain ⟨r0, r1, y0, y1⟩ := var2_facts VR.out
    have hset := hid (var2_set (x' := .int .i64 code) (y' := .slice none 0 0) VR.out)
    have hbel := hid (below_set2 (x := .int .i64 code) (y := .slice none 0 0) BB.out LG.out)
    go_wp2
    try simp only [Exit.inBlock, Exit.then]
    exact bodyPost_ret (v := .agg #[.int .i64 code, .slice none 0 0]) (results_cell_row rfl _ _ gr 50 _ _ _ rfl hset.out Try.underlying50 rfl (by kernel_rfl)) rfl ⟨_, rfl, by rw [EL.out]; exact Own.nil _ _, hbel.out⟩
  subst h0
  have HW2 := hid (HW.out rfl)
  clear HW
  go_wp2_with fail
  refine (ienc u _ ⟨k, s, n, cn, ci, cs, cm, op, id', l⟩ _ H.out HC.out HW2.out).mono ?_
  rintro e w2 ⟨v2, rfl, hO, hB⟩
  clear HW2 VM
  obtain ⟨pv, kv, rfl, -, -, -⟩ := hO.rd.parts
  have OU := hid hO
  have GS := hid (show gr < w1.heap.size from var_lt VR.out)
  replace VR := hid (var_below hB VR.out)
  have LW := hid BB.out.size
  replace BB := hid (BB.out.trans (hB.mono BB.out.size))
  clear hO hB
  obtain ⟨m0, hm⟩ : ∃ z : Nat, z = (eB ⟨k, s, n, cn, ci, cs, cm, op, id', l⟩).length := ⟨_, rfl⟩
  rw [← hm] at OU ⊢
  replace hm := hid hm
  obtain ⟨r0, r1, y0, y1⟩ := var2_facts VR.out
  have hset := hid (var2_set (x' := .int .i64 0) (y' := .slice pv m0 kv) VR.out)
  have hbel := hid (below_set2 (x := .int .i64 0) (y := .slice pv m0 kv) BB.out LG.out)
  have hown := hid ((OU.out.set2 (g := gr) (x := .int .i64 0) (y := .slice pv m0 kv) GS.out).mono (base' := w.heap.size) LW.out)
  go_wp2
  try simp only [Exit.inBlock, Exit.then]
  exact bodyPost_ret (v := .agg #[.int .i64 0, .slice pv m0 kv]) (results_cell_row rfl _ _ gr 50 _ _ _ rfl hset.out Try.underlying50 rfl (by kernel_rfl)) rfl ⟨_, rfl, by simpa [emL] using hown.out, hbel.out⟩
end Go.Proofs.Ytifgcffifffdnam.W
