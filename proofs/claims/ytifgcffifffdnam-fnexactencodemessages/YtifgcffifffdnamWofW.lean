/-
  What a message becomes on the wire, with its fault: the program's wireOf. Generated text.
-/
import Derived.Test.YtifgcffifffdnamSmmW
namespace Go.Proofs.Ytifgcffifffdnam.W
open Go.ChangeShapes Go.WideShapes Go.ChangeAt Go.RowKit
open Go.Proofs.Ytifgcffifffdnam.M

/-- t tells whether two messages are the same. -/
def smQ (a b : Msg) (t : Bool) : Prop :=
  (a.k = b.k ∧ a.s = b.s ∧ a.n = b.n ∧ a.cn = b.cn ∧ a.ci = b.ci ∧ a.cs = b.cs ∧ a.cm = b.cm ∧ a.op = b.op ∧ a.id = b.id ∧ t = sameS a.l b.l) ∨ (¬ (a.k = b.k ∧ a.s = b.s ∧ a.n = b.n ∧ a.cn = b.cn ∧ a.ci = b.ci ∧ a.cs = b.cs ∧ a.cm = b.cm ∧ a.op = b.op ∧ a.id = b.id) ∧ t = false)
theorem smQ_some (a b : Msg) : ∃ t, smQ a b t := by
  by_cases q : a.k = b.k ∧ a.s = b.s ∧ a.n = b.n ∧ a.cn = b.cn ∧ a.ci = b.ci ∧ a.cs = b.cs ∧ a.cm = b.cm ∧ a.op = b.op ∧ a.id = b.id
  · obtain ⟨q1, q2, q3, q4, q5, q6, q7, q8, q9⟩ := q
    exact ⟨_, .inl ⟨q1, q2, q3, q4, q5, q6, q7, q8, q9, rfl⟩⟩
  · exact ⟨_, .inr ⟨q, rfl⟩⟩
theorem sam_nil {l : List Nat} : sameS [] l = true ↔ l = [] := by
  cases l with
  | nil => simp [sameS]
  | cons x l => simp [sameS, strOf, strOfNums, ByteArray.toList_eq]
theorem sam_id (l : List Nat) : sameS l l = true := by simp [sameS]
theorem ret_wf {u : Value} {a b : Int} (h : a = b) : Ending.returned (.tuple #[u, .int .i64 a]) = .returned (.tuple #[u, .int .i64 b]) := by rw [h]
theorem two_res {fn : Func} {a b : Tmp} (h : fn.results = #[.tmp a, .tmp b]) (ts : Array Value) (P : Program) (w : World) :
    (results fn ts).run P w = .ok (.tuple #[ts.getD a undef, ts.getD b undef]) w := by simp [results, h]
theorem mF_form {m : Msg} {c : Int} (h : mF m c) (q : ¬ mForm m) : c = 1 := by rcases h with ⟨-, e⟩ | ⟨f, -⟩ | ⟨f, -⟩ | ⟨f, -⟩ <;> first | exact e | exact absurd f q
theorem mF_fit {m : Msg} {c : Int} (h : mF m c) (q : mForm m) (q2 : ¬ mFit m) : c = 3 := by rcases h with ⟨f, -⟩ | ⟨-, -, e⟩ | ⟨-, f, -⟩ | ⟨-, f, -⟩ <;> first | exact e | exact absurd q f | exact absurd f q2
theorem mF_len {m : Msg} {c : Int} (h : mF m c) (q : mForm m) (q2 : mFit m) (q3 : ¬ mLen m) : c = 2 := by rcases h with ⟨f, -⟩ | ⟨-, f, -⟩ | ⟨-, -, -, e⟩ | ⟨-, -, f, -⟩ <;> first | exact e | exact absurd q f | exact absurd q2 f | exact absurd f q3
theorem mF_ok {m : Msg} {c : Int} (h : mF m c) (q : mForm m) (q2 : mFit m) (q3 : mLen m) : c = 0 := by rcases h with ⟨f, -⟩ | ⟨-, f, -⟩ | ⟨-, -, f, -⟩ | ⟨-, -, -, e⟩ <;> first | exact e | exact absurd q f | exact absurd q2 f | exact absurd q3 f
set_option maxRecDepth 100000 in
theorem bneed (g : Nat) (op nd : Int) (w : World) (h0 : w.cell? ⟨g, 0, none⟩ = some (.int .i64 op)) (hn : nd = if op = 1 then 16 else 0) :
    Calls Try.prog 71 #[.pointer (some ⟨g, 0, none⟩)] w fun e w' => e = .returned (.int .i64 nd) ∧ Below w.heap.size w w' := by
  by_cases e : op = 1
  · subst e
    rw [if_pos rfl] at hn
    subst hn
    go_enter Try.func71, Try.ntmps71
    go_wp2
    go_ret
    exact ⟨rfl, Below.refl _ _⟩
  · have ne : (op == 1) = false := beq_eq_false_iff_ne.2 e
    rw [if_neg e] at hn
    subst hn
    replace e := hid e
    go_enter Try.func71, Try.ntmps71
    go_wp2
    go_ret
    exact ⟨rfl, Below.refl _ _⟩
theorem len_iff {s n cn ci cs cm op id' nd : Int} {l : List Nat} (hn : nd = if op = 1 then 16 else 0) : ((l.length : Int) != nd) = false ↔ mLen ⟨5, s, n, cn, ci, cs, cm, op, id', l⟩ := by
  subst hn
  rw [bne_eq_false_iff_eq, mLen]
  by_cases e : op = 1
  · simp [e]; omega
  · simp [e]
theorem form1 {s n cn ci cs cm op id' : Int} {l : List Nat} {t : Bool} (h : smQ ⟨1, s, n, 0, 0, 0, 0, 0, 0, []⟩ ⟨1, s, n, cn, ci, cs, cm, op, id', l⟩ t) : t = true ↔ mForm ⟨1, s, n, cn, ci, cs, cm, op, id', l⟩ := by
  constructor
  · intro ht
    rcases h with ⟨-, h1, h2, h3, h4, h5, h6, h7, h8, e⟩ | ⟨-, e⟩
    · exact .inl ⟨.inl rfl, h3.symm, h4.symm, h5.symm, h6.symm, h7.symm, h8.symm, sam_nil.1 (e.symm.trans ht)⟩
    · exact absurd (ht.symm.trans e) (by decide)
  · intro hf
    have hz : cn = 0 ∧ ci = 0 ∧ cs = 0 ∧ cm = 0 ∧ op = 0 ∧ id' = 0 ∧ l = [] := by
      rcases hf with ⟨q | q, r⟩ | ⟨q, r⟩ | ⟨q, r⟩ | ⟨q, r⟩ <;> first | exact r | (exact absurd (show (1 : Int) = _ from q) (by decide))
    obtain ⟨rfl, rfl, rfl, rfl, rfl, rfl, rfl⟩ := hz
    rcases h with ⟨-, -, -, -, -, -, -, -, -, e⟩ | ⟨hn, -⟩
    · rw [e]; exact sam_nil.2 rfl
    · exact absurd ⟨rfl, rfl, rfl, rfl, rfl, rfl, rfl, rfl, rfl⟩ hn
theorem fits1 {s n cn ci cs cm op id' : Int} {l : List Nat} {g : Nat} : fitB [⟨g, 0, 4, 0, 1000000⟩, ⟨g, 1, 1, 0, 3⟩] [s, n] = true ↔ mFit ⟨1, s, n, cn, ci, cs, cm, op, id', l⟩ := by
  simp [fitB, List.range_succ, mFit]
theorem form2 {s n cn ci cs cm op id' : Int} {l : List Nat} {t : Bool} (h : smQ ⟨2, s, 0, 0, 0, 0, 0, 0, 0, []⟩ ⟨2, s, n, cn, ci, cs, cm, op, id', l⟩ t) : t = true ↔ mForm ⟨2, s, n, cn, ci, cs, cm, op, id', l⟩ := by
  constructor
  · intro ht
    rcases h with ⟨-, h1, h2, h3, h4, h5, h6, h7, h8, e⟩ | ⟨-, e⟩
    · exact .inr (.inl ⟨rfl, h2.symm, h3.symm, h4.symm, h5.symm, h6.symm, h7.symm, h8.symm, sam_nil.1 (e.symm.trans ht)⟩)
    · exact absurd (ht.symm.trans e) (by decide)
  · intro hf
    have hz : n = 0 ∧ cn = 0 ∧ ci = 0 ∧ cs = 0 ∧ cm = 0 ∧ op = 0 ∧ id' = 0 ∧ l = [] := by
      rcases hf with ⟨q | q, r⟩ | ⟨q, r⟩ | ⟨q, r⟩ | ⟨q, r⟩ <;> first | exact r | (exact absurd (show (2 : Int) = _ from q) (by decide))
    obtain ⟨rfl, rfl, rfl, rfl, rfl, rfl, rfl, rfl⟩ := hz
    rcases h with ⟨-, -, -, -, -, -, -, -, -, e⟩ | ⟨hn, -⟩
    · rw [e]; exact sam_nil.2 rfl
    · exact absurd ⟨rfl, rfl, rfl, rfl, rfl, rfl, rfl, rfl, rfl⟩ hn
theorem fits2 {s n cn ci cs cm op id' : Int} {l : List Nat} {g : Nat} (h0 : n = 0) : fitB [⟨g, 0, 4, 0, 1000000⟩] [s] = true ↔ mFit ⟨2, s, n, cn, ci, cs, cm, op, id', l⟩ := by
  subst h0
  simp [fitB, List.range_succ, mFit, inB]
theorem form3 {s n cn ci cs cm op id' : Int} {l : List Nat} {t : Bool} (h : smQ ⟨3, s, n, 0, 0, 0, 0, 0, 0, []⟩ ⟨3, s, n, cn, ci, cs, cm, op, id', l⟩ t) : t = true ↔ mForm ⟨3, s, n, cn, ci, cs, cm, op, id', l⟩ := by
  constructor
  · intro ht
    rcases h with ⟨-, h1, h2, h3, h4, h5, h6, h7, h8, e⟩ | ⟨-, e⟩
    · exact .inl ⟨.inr rfl, h3.symm, h4.symm, h5.symm, h6.symm, h7.symm, h8.symm, sam_nil.1 (e.symm.trans ht)⟩
    · exact absurd (ht.symm.trans e) (by decide)
  · intro hf
    have hz : cn = 0 ∧ ci = 0 ∧ cs = 0 ∧ cm = 0 ∧ op = 0 ∧ id' = 0 ∧ l = [] := by
      rcases hf with ⟨q | q, r⟩ | ⟨q, r⟩ | ⟨q, r⟩ | ⟨q, r⟩ <;> first | exact r | (exact absurd (show (3 : Int) = _ from q) (by decide))
    obtain ⟨rfl, rfl, rfl, rfl, rfl, rfl, rfl⟩ := hz
    rcases h with ⟨-, -, -, -, -, -, -, -, -, e⟩ | ⟨hn, -⟩
    · rw [e]; exact sam_nil.2 rfl
    · exact absurd ⟨rfl, rfl, rfl, rfl, rfl, rfl, rfl, rfl, rfl⟩ hn
theorem fits3 {s n cn ci cs cm op id' : Int} {l : List Nat} {g : Nat} : fitB [⟨g, 0, 4, 0, 1000000⟩, ⟨g, 1, 1, 0, 3⟩] [s, n] = true ↔ mFit ⟨3, s, n, cn, ci, cs, cm, op, id', l⟩ := by
  simp [fitB, List.range_succ, mFit]
theorem form4 {s n cn ci cs cm op id' : Int} {l : List Nat} {t : Bool} (h : smQ ⟨4, 0, 0, cn, ci, cs, cm, 0, 0, []⟩ ⟨4, s, n, cn, ci, cs, cm, op, id', l⟩ t) : t = true ↔ mForm ⟨4, s, n, cn, ci, cs, cm, op, id', l⟩ := by
  constructor
  · intro ht
    rcases h with ⟨-, h1, h2, h3, h4, h5, h6, h7, h8, e⟩ | ⟨-, e⟩
    · exact .inr (.inr (.inl ⟨rfl, h1.symm, h2.symm, h7.symm, h8.symm, sam_nil.1 (e.symm.trans ht)⟩))
    · exact absurd (ht.symm.trans e) (by decide)
  · intro hf
    have hz : s = 0 ∧ n = 0 ∧ op = 0 ∧ id' = 0 ∧ l = [] := by
      rcases hf with ⟨q | q, r⟩ | ⟨q, r⟩ | ⟨q, r⟩ | ⟨q, r⟩ <;> first | exact r | (exact absurd (show (4 : Int) = _ from q) (by decide))
    obtain ⟨rfl, rfl, rfl, rfl, rfl⟩ := hz
    rcases h with ⟨-, -, -, -, -, -, -, -, -, e⟩ | ⟨hn, -⟩
    · rw [e]; exact sam_nil.2 rfl
    · exact absurd ⟨rfl, rfl, rfl, rfl, rfl, rfl, rfl, rfl, rfl⟩ hn
theorem fits4 {s n cn ci cs cm op id' : Int} {l : List Nat} {g : Nat} : fitB [⟨g, 0, 1, 0, 3⟩, ⟨g, 0 + 1, 4, 0, 1000000⟩, ⟨g, 0 + 2, 1, 0, 2⟩, ⟨g, 0 + 3, 4, 0, 9999999⟩] [cn, ci, cs, cm] = true ↔ mFit ⟨4, s, n, cn, ci, cs, cm, op, id', l⟩ := by
  simp [fitB, List.range_succ, mFit]
theorem form5 {s n cn ci cs cm op id' : Int} {l : List Nat} {t : Bool} (h : smQ ⟨5, 0, 0, 0, 0, 0, 0, op, id', l⟩ ⟨5, s, n, cn, ci, cs, cm, op, id', l⟩ t) : t = true ↔ mForm ⟨5, s, n, cn, ci, cs, cm, op, id', l⟩ := by
  constructor
  · intro ht
    rcases h with ⟨-, h1, h2, h3, h4, h5, h6, h7, h8, e⟩ | ⟨-, e⟩
    · exact .inr (.inr (.inr ⟨rfl, h1.symm, h2.symm, h3.symm, h4.symm, h5.symm, h6.symm⟩))
    · exact absurd (ht.symm.trans e) (by decide)
  · intro hf
    have hz : s = 0 ∧ n = 0 ∧ cn = 0 ∧ ci = 0 ∧ cs = 0 ∧ cm = 0 := by
      rcases hf with ⟨q | q, r⟩ | ⟨q, r⟩ | ⟨q, r⟩ | ⟨q, r⟩ <;> first | exact r | (exact absurd (show (5 : Int) = _ from q) (by decide))
    obtain ⟨rfl, rfl, rfl, rfl, rfl, rfl⟩ := hz
    rcases h with ⟨-, -, -, -, -, -, -, -, -, e⟩ | ⟨hn, -⟩
    · rw [e]; exact sam_id _
    · exact absurd ⟨rfl, rfl, rfl, rfl, rfl, rfl, rfl, rfl, rfl⟩ hn
theorem fits5 {s n cn ci cs cm op id' : Int} {l : List Nat} {g : Nat} : fitB [⟨g, 0, 1, 1, 3⟩, ⟨g, 1, 1, 1, 255⟩] [op, id'] = true ↔ mFit ⟨5, s, n, cn, ci, cs, cm, op, id', l⟩ := by
  simp [fitB, List.range_succ, mFit]
theorem nah1 (g : Nat) (w : World) : (nilAhead Try.prog.depth 119 (.pointer (some ⟨g, 0, none⟩)) "loop.example/g00725/impl.message").run Try.prog w = .ok (some false) w := by kernel_rfl
theorem met1 (g : Nat) (w : World) : (method Try.prog.depth 119 (.pointer (some ⟨g, 0, none⟩)) "loop.example/g00725/impl.message").run Try.prog w = .ok (97, .pointer (some ⟨g, 0, none⟩)) w := by kernel_rfl
set_option maxHeartbeats 2000000 in
set_option maxRecDepth 100000 in
theorem wof1 (s n cn ci cs cm op id' code : Int) (v : Value) (l : List Nat) (w : World) (h : Rd w v l) (hc : mF ⟨1, s, n, cn, ci, cs, cm, op, id', l⟩ code) :
    Calls Try.prog 53 #[.agg #[.int .i64 1, .int .i64 s, .int .i64 n, .int .i64 cn, .int .i64 ci, .int .i64 cs, .int .i64 cm, .int .i64 op, .int .i64 id', v]] w fun e w' => ∃ u, e = .returned (.tuple #[u, .int .i64 code]) ∧ (code = 0 → ∃ g, u = .iface 119 (.pointer (some ⟨g, 0, none⟩)) ∧ w'.heap[g]? = some (.cells #[.int .i64 s, .int .i64 n] 121)) ∧ Below w.heap.size w w' := by
  have H := hid h
  have HC := hid hc
  obtain ⟨a, c, rfl, -, -, -⟩ := h.parts
  clear h hc
  obtain ⟨t, ht⟩ : ∃ t, Hid (smQ ⟨1, s, n, 0, 0, 0, 0, 0, 0, []⟩ ⟨1, s, n, cn, ci, cs, cm, op, id', l⟩ t) := smQ_some _ _
  go_enter Try.func53, Try.ntmps53
  go_wp2_with fail
  have V := hid (heap_alloc_new w (.cells #[.int .i64 1, .int .i64 s, .int .i64 n, .int .i64 cn, .int .i64 ci, .int .i64 cs, .int .i64 cm, .int .i64 op, .int .i64 id', .slice a l.length c] 45))
  have BB := hid (below_alloc1 w (.cells #[.int .i64 1, .int .i64 s, .int .i64 n, .int .i64 cn, .int .i64 ci, .int .i64 cs, .int .i64 cm, .int .i64 op, .int .i64 id', .slice a l.length c] 45))
  replace H := hid (H.out.below BB.out)
  generalize w.alloc (.cells #[.int .i64 1, .int .i64 s, .int .i64 n, .int .i64 cn, .int .i64 ci, .int .i64 cs, .int .i64 cm, .int .i64 op, .int .i64 id', .slice a l.length c] 45) = w0 at *
  obtain ⟨g, hg⟩ : ∃ g, g = w.heap.size := ⟨_, rfl⟩
  rw [← hg] at V ⊢
  replace hg := hid hg
  refine (str1 _ _ _ _ _ _ _ _ _ _ _ _).mono ?_
  rintro e w1 ⟨gw, rfl, hW, hB⟩
  replace V := hid (var_below hB V.out)
  replace BB := hid (BB.out.trans (hB.mono BB.out.size))
  replace H := hid (H.out.below hB)
  have VW := hid hW
  clear hB hW
  have na := nah1 gw
  have me := met1 gw
  obtain ⟨⟨f0, f1, f2, f3, f4, f5, f6, f7, f8, f9⟩, -⟩ := v10_facts V.out
  go_wp2_with fail
  refine wp_region_held_drew (S := fun w' => Below w1.heap.size w1 w') (by kernel_rfl) (Below.refl _ _).drew (fun hH => ?_)
  replace VW := hid (show w1.drew.heap[gw]? = _ from VW.out)
  replace H := hid (show Rd w1.drew _ l from H.out.below (Below.refl _ _).drew)
  generalize w1.drew = x at *
  refine wpAnyH_take (i := 0) (v := .iface 119 (.pointer (some ⟨gw, 0, none⟩))) (by simp only [List.getElem?_toArray, List.getElem?_cons_zero]; rfl) (by kernel_rfl) (by kernel_rfl) (by kernel_rfl) (by intro _ _ _ h; exact h) (Or.inl ⟨by rfl, fun w hS => by go_simp⟩) hH ?_
  simp only [Act.put, List.setIfInBounds_toArray, List.set_cons_zero, List.set_cons_succ]
  refine wpAnyH_take (i := 1) (v := .bool false) (by simp only [List.getElem?_toArray, List.getElem?_cons_succ, List.getElem?_cons_zero]; rfl) (by kernel_rfl) (by kernel_rfl) (by kernel_rfl) (by intro _ _ _ h; exact h) (Or.inl ⟨by rfl, fun w hS => by go_simp⟩) hH ?_
  simp only [Act.put, List.setIfInBounds_toArray, List.set_cons_zero, List.set_cons_succ]
  refine wpAnyH_take (i := 2) (v := .bool false) (by simp only [List.getElem?_toArray, List.getElem?_cons_succ, List.getElem?_cons_zero]; rfl) (by kernel_rfl) (by kernel_rfl) (by kernel_rfl) (by intro _ _ _ h; exact h) (Or.inl ⟨by rfl, fun w hS => by go_simp⟩) hH ?_
  simp only [Act.put, List.setIfInBounds_toArray, List.set_cons_zero, List.set_cons_succ]
  refine wpAnyH_take (i := 3) (v := .iface 119 (.pointer (some ⟨gw, 0, none⟩))) (by simp only [List.getElem?_toArray, List.getElem?_cons_succ, List.getElem?_cons_zero]; rfl) (by kernel_rfl) (by kernel_rfl) (by kernel_rfl) (by intro _ _ _ h; exact h) (Or.inl ⟨by rfl, fun w hS => by go_simp⟩) hH ?_
  simp only [Act.put, List.setIfInBounds_toArray, List.set_cons_zero, List.set_cons_succ]
  refine wpAnyH_take (i := 5) (v := .agg #[.int .i64 1, .int .i64 s, .int .i64 n, .int .i64 cn, .int .i64 ci, .int .i64 cs, .int .i64 cm, .int .i64 op, .int .i64 id', .slice a l.length c]) (by simp only [List.getElem?_toArray, List.getElem?_cons_succ, List.getElem?_cons_zero]; rfl) (by kernel_rfl) (by kernel_rfl) (by kernel_rfl) (by intro _ _ _ h; exact h) (Or.inl ⟨by rfl, fun w hS => by (have y0 := cell_kept hS f0; have y1 := cell_kept hS f1; have y2 := cell_kept hS f2; have y3 := cell_kept hS f3; have y4 := cell_kept hS f4; have y5 := cell_kept hS f5; have y6 := cell_kept hS f6; have y7 := cell_kept hS f7; have y8 := cell_kept hS f8; have y9 := cell_kept hS f9; go_simp)⟩) hH ?_
  simp only [Act.put, List.setIfInBounds_toArray, List.set_cons_zero, List.set_cons_succ]
  refine wpAnyH_ready (rs := [4]) (by kernel_rfl) (by simp) ?_
  refine AllReadyH.cons (by simp only [List.getElem?_toArray, List.getElem?_cons_succ, List.getElem?_cons_zero]; rfl) (fun K hK => ?_) AllReadyH.nil
  go_simp
  refine (msg1 gw _ _ _ VW.out).mono ?_
  rintro e x4 ⟨rfl, hM⟩
  have SB := hid hH.size
  refine hK.out _ _ (hH.trans (hM.mono hH.size)) (fun hH => ?_)
  clear hK K
  replace H := hid (H.out.below hM)
  replace VW := hid (var_below hM VW.out)
  clear hM SB
  refine wpAnyH_ready (rs := [6]) (by kernel_rfl) (by simp) ?_
  refine AllReadyH.cons (by simp only [List.getElem?_toArray, List.getElem?_cons_succ, List.getElem?_cons_zero]; rfl) (fun K hK => ?_) AllReadyH.nil
  go_simp
  refine (smm _ _ _ _ _ _ _ _ _ _ _ _ _ _ _ _ _ _ _ _ [] l _ (Rd.nil _) H.out t ht.out).mono ?_
  rintro e x6 ⟨rfl, hM⟩
  have SB := hid hH.size
  refine hK.out _ _ (hH.trans (hM.mono hH.size)) (fun hH => ?_)
  clear hK K
  replace H := hid (H.out.below hM)
  replace VW := hid (var_below hM VW.out)
  clear hM SB
  refine wpAnyH_take (i := 7) (v := .bool (!t)) (by simp only [List.getElem?_toArray, List.getElem?_cons_succ, List.getElem?_cons_zero]; rfl) (by kernel_rfl) (by kernel_rfl) (by kernel_rfl) (by intro _ _ _ h; exact h) (Or.inl ⟨by rfl, fun w hS => by go_simp⟩) hH ?_
  simp only [Act.put, List.setIfInBounds_toArray, List.set_cons_zero, List.set_cons_succ]
  refine wpAnyH_take (i := 8) (v := .bool (!t)) (by simp only [List.getElem?_toArray, List.getElem?_cons_succ, List.getElem?_cons_zero]; rfl) (by kernel_rfl) (by kernel_rfl) (by kernel_rfl) (by intro _ _ _ h; exact h) (Or.inl ⟨by rfl, fun w hS => by go_simp⟩) hH ?_
  simp only [Act.put, List.setIfInBounds_toArray, List.set_cons_zero, List.set_cons_succ]
  refine wpAnyH_done (by kernel_rfl) ?_ _
  clear f0 f1 f2 f3 f4 f5 f6 f7 f8 f9 na me
  replace BB := hid (BB.out.trans (hH.mono BB.out.size))
  clear hH V
  have FO := hid (form1 ht.out)
  clear ht
  cases t
  case false =>
    obtain rfl := mF_form HC.out (fun q => by have := FO.out.2 q; cases this)
    clear FO HC
    go_wp2
    refine bodyPost_ret (two_res rfl _ _ _) rfl ?_
    exact ⟨_, rfl, fun q => absurd q (by decide), BB.out⟩
  replace FO := hid (FO.out.1 rfl)
  go_wp2_with fail
  refine (nums1 gw _).mono ?_
  rintro e w2 ⟨vn, rfl, hR, hB⟩
  replace BB := hid (BB.out.trans (hB.mono BB.out.size))
  replace H := hid (H.out.below hB)
  replace VW := hid (var_below hB VW.out)
  obtain ⟨gn, rfl, -, -⟩ := hR.parts
  have R := hid hR
  clear hB hR
  go_wp2_with fail
  refine (nfit _ _ _ _ R.out (kpw1 VW.out)).mono ?_
  rintro e w3 ⟨rfl, hB⟩
  replace BB := hid (BB.out.trans (hB.mono BB.out.size))
  replace VW := hid (var_below hB VW.out)
  clear hB R
  have FI := hid (fits1 (s := s) (n := n) (cn := cn) (ci := ci) (cs := cs) (cm := cm) (op := op) (id' := id') (l := l) (g := gw))
  generalize fitB _ _ = t at *
  cases t
  case false =>
    obtain rfl := mF_fit HC.out FO.out (fun q => by have := FI.out.2 q; cases this)
    clear FO HC FI
    go_wp2
    refine bodyPost_ret (two_res rfl _ _ _) rfl ?_
    exact ⟨_, rfl, fun q => absurd q (by decide), BB.out⟩
  replace FI := hid (FI.out.1 rfl)
  have ta : ∀ w : World, (Instr.typeAssert (.iface 119 (.pointer (some ⟨gw, 0, none⟩))) 85 107 true).run Try.prog w = .ok (.tuple #[.pointer none, .bool false]) w := fun _ => by kernel_rfl
  obtain rfl := mF_ok HC.out FO.out FI.out (fun q => absurd (show (1 : Int) = 5 from q) (by decide))
  clear FO HC FI
  go_wp2_with fail
  refine wp_region_held_drew (S := fun w' => Below w3.heap.size w3 w') (by kernel_rfl) (Below.refl _ _).drew (fun hH => ?_)
  generalize w3.drew = x at hH ⊢
  refine wpAnyH_take (i := 0) (v := .bool false) (by simp only [List.getElem?_toArray, List.getElem?_cons_zero]; rfl) (by kernel_rfl) (by kernel_rfl) (by kernel_rfl) (by intro _ _ _ h; exact h) (Or.inl ⟨by rfl, fun w hS => by go_simp⟩) hH ?_
  simp only [Act.put, List.setIfInBounds_toArray, List.set_cons_zero, List.set_cons_succ]
  refine wpAnyH_take (i := 1) (v := .bool false) (by simp only [List.getElem?_toArray, List.getElem?_cons_succ, List.getElem?_cons_zero]; rfl) (by kernel_rfl) (by kernel_rfl) (by kernel_rfl) (by intro _ _ _ h; exact h) (Or.inl ⟨by rfl, fun w hS => by go_simp⟩) hH ?_
  simp only [Act.put, List.setIfInBounds_toArray, List.set_cons_zero, List.set_cons_succ]
  refine wpAnyH_take (i := 2) (v := undef) (by simp only [List.getElem?_toArray, List.getElem?_cons_succ, List.getElem?_cons_zero]; rfl) (by kernel_rfl) (by kernel_rfl) (by kernel_rfl) (by intro _ _ _ h; exact h) (Or.inr ⟨by rfl, rfl⟩) hH ?_
  simp only [Act.put, List.setIfInBounds_toArray, List.set_cons_zero, List.set_cons_succ]
  refine wpAnyH_take (i := 3) (v := undef) (by simp only [List.getElem?_toArray, List.getElem?_cons_succ, List.getElem?_cons_zero]; rfl) (by kernel_rfl) (by kernel_rfl) (by kernel_rfl) (by intro _ _ _ h; exact h) (Or.inr ⟨by rfl, rfl⟩) hH ?_
  simp only [Act.put, List.setIfInBounds_toArray, List.set_cons_zero, List.set_cons_succ]
  refine wpAnyH_take (i := 4) (v := undef) (by simp only [List.getElem?_toArray, List.getElem?_cons_succ, List.getElem?_cons_zero]; rfl) (by kernel_rfl) (by kernel_rfl) (by kernel_rfl) (by intro _ _ _ h; exact h) (Or.inr ⟨by rfl, rfl⟩) hH ?_
  simp only [Act.put, List.setIfInBounds_toArray, List.set_cons_zero, List.set_cons_succ]
  refine wpAnyH_take (i := 5) (v := undef) (by simp only [List.getElem?_toArray, List.getElem?_cons_succ, List.getElem?_cons_zero]; rfl) (by kernel_rfl) (by kernel_rfl) (by kernel_rfl) (by intro _ _ _ h; exact h) (Or.inr ⟨by rfl, rfl⟩) hH ?_
  simp only [Act.put, List.setIfInBounds_toArray, List.set_cons_zero, List.set_cons_succ]
  refine wpAnyH_take (i := 6) (v := undef) (by simp only [List.getElem?_toArray, List.getElem?_cons_succ, List.getElem?_cons_zero]; rfl) (by kernel_rfl) (by kernel_rfl) (by kernel_rfl) (by intro _ _ _ h; exact h) (Or.inr ⟨by rfl, rfl⟩) hH ?_
  simp only [Act.put, List.setIfInBounds_toArray, List.set_cons_zero, List.set_cons_succ]
  refine wpAnyH_take (i := 7) (v := undef) (by simp only [List.getElem?_toArray, List.getElem?_cons_succ, List.getElem?_cons_zero]; rfl) (by kernel_rfl) (by kernel_rfl) (by kernel_rfl) (by intro _ _ _ h; exact h) (Or.inr ⟨by rfl, rfl⟩) hH ?_
  simp only [Act.put, List.setIfInBounds_toArray, List.set_cons_zero, List.set_cons_succ]
  refine wpAnyH_take (i := 8) (v := undef) (by simp only [List.getElem?_toArray, List.getElem?_cons_succ, List.getElem?_cons_zero]; rfl) (by kernel_rfl) (by kernel_rfl) (by kernel_rfl) (by intro _ _ _ h; exact h) (Or.inr ⟨by rfl, rfl⟩) hH ?_
  simp only [Act.put, List.setIfInBounds_toArray, List.set_cons_zero, List.set_cons_succ]
  refine wpAnyH_take (i := 9) (v := undef) (by simp only [List.getElem?_toArray, List.getElem?_cons_succ, List.getElem?_cons_zero]; rfl) (by kernel_rfl) (by kernel_rfl) (by kernel_rfl) (by intro _ _ _ h; exact h) (Or.inr ⟨by rfl, rfl⟩) hH ?_
  simp only [Act.put, List.setIfInBounds_toArray, List.set_cons_zero, List.set_cons_succ]
  refine wpAnyH_take (i := 10) (v := undef) (by simp only [List.getElem?_toArray, List.getElem?_cons_succ, List.getElem?_cons_zero]; rfl) (by kernel_rfl) (by kernel_rfl) (by kernel_rfl) (by intro _ _ _ h; exact h) (Or.inr ⟨by rfl, rfl⟩) hH ?_
  simp only [Act.put, List.setIfInBounds_toArray, List.set_cons_zero, List.set_cons_succ]
  refine wpAnyH_take (i := 11) (v := .bool false) (by simp only [List.getElem?_toArray, List.getElem?_cons_succ, List.getElem?_cons_zero]; rfl) (by kernel_rfl) (by kernel_rfl) (by kernel_rfl) (by intro _ _ _ h; exact h) (Or.inl ⟨by rfl, fun w hS => by go_simp⟩) hH ?_
  simp only [Act.put, List.setIfInBounds_toArray, List.set_cons_zero, List.set_cons_succ]
  refine wpAnyH_done (by kernel_rfl) ?_ _
  replace BB := hid (BB.out.trans (hH.mono BB.out.size))
  replace VW := hid (var_below hH VW.out)
  clear hH ta
  go_wp2
  try simp only [Exit.inBlock, Exit.then]
  refine bodyPost_ret (two_res rfl _ _ _) rfl ?_
  exact ⟨_, rfl, ⟨gw, rfl, VW.out⟩, BB.out⟩
theorem nah2 (g : Nat) (w : World) : (nilAhead Try.prog.depth 122 (.pointer (some ⟨g, 0, none⟩)) "loop.example/g00725/impl.message").run Try.prog w = .ok (some false) w := by kernel_rfl
theorem met2 (g : Nat) (w : World) : (method Try.prog.depth 122 (.pointer (some ⟨g, 0, none⟩)) "loop.example/g00725/impl.message").run Try.prog w = .ok (98, .pointer (some ⟨g, 0, none⟩)) w := by kernel_rfl
set_option maxHeartbeats 2000000 in
set_option maxRecDepth 100000 in
theorem wof2 (s n cn ci cs cm op id' code : Int) (v : Value) (l : List Nat) (w : World) (h : Rd w v l) (hc : mF ⟨2, s, n, cn, ci, cs, cm, op, id', l⟩ code) :
    Calls Try.prog 53 #[.agg #[.int .i64 2, .int .i64 s, .int .i64 n, .int .i64 cn, .int .i64 ci, .int .i64 cs, .int .i64 cm, .int .i64 op, .int .i64 id', v]] w fun e w' => ∃ u, e = .returned (.tuple #[u, .int .i64 code]) ∧ (code = 0 → ∃ g, u = .iface 122 (.pointer (some ⟨g, 0, none⟩)) ∧ w'.heap[g]? = some (.cells #[.int .i64 s] 124)) ∧ Below w.heap.size w w' := by
  have H := hid h
  have HC := hid hc
  obtain ⟨a, c, rfl, -, -, -⟩ := h.parts
  clear h hc
  obtain ⟨t, ht⟩ : ∃ t, Hid (smQ ⟨2, s, 0, 0, 0, 0, 0, 0, 0, []⟩ ⟨2, s, n, cn, ci, cs, cm, op, id', l⟩ t) := smQ_some _ _
  go_enter Try.func53, Try.ntmps53
  go_wp2_with fail
  have V := hid (heap_alloc_new w (.cells #[.int .i64 2, .int .i64 s, .int .i64 n, .int .i64 cn, .int .i64 ci, .int .i64 cs, .int .i64 cm, .int .i64 op, .int .i64 id', .slice a l.length c] 45))
  have BB := hid (below_alloc1 w (.cells #[.int .i64 2, .int .i64 s, .int .i64 n, .int .i64 cn, .int .i64 ci, .int .i64 cs, .int .i64 cm, .int .i64 op, .int .i64 id', .slice a l.length c] 45))
  replace H := hid (H.out.below BB.out)
  generalize w.alloc (.cells #[.int .i64 2, .int .i64 s, .int .i64 n, .int .i64 cn, .int .i64 ci, .int .i64 cs, .int .i64 cm, .int .i64 op, .int .i64 id', .slice a l.length c] 45) = w0 at *
  obtain ⟨g, hg⟩ : ∃ g, g = w.heap.size := ⟨_, rfl⟩
  rw [← hg] at V ⊢
  replace hg := hid hg
  refine (str2 _ _ _ _ _ _ _ _ _ _ _ _).mono ?_
  rintro e w1 ⟨gw, rfl, hW, hB⟩
  replace V := hid (var_below hB V.out)
  replace BB := hid (BB.out.trans (hB.mono BB.out.size))
  replace H := hid (H.out.below hB)
  have VW := hid hW
  clear hB hW
  have na := nah2 gw
  have me := met2 gw
  obtain ⟨⟨f0, f1, f2, f3, f4, f5, f6, f7, f8, f9⟩, -⟩ := v10_facts V.out
  go_wp2_with fail
  refine wp_region_held_drew (S := fun w' => Below w1.heap.size w1 w') (by kernel_rfl) (Below.refl _ _).drew (fun hH => ?_)
  replace VW := hid (show w1.drew.heap[gw]? = _ from VW.out)
  replace H := hid (show Rd w1.drew _ l from H.out.below (Below.refl _ _).drew)
  generalize w1.drew = x at *
  refine wpAnyH_take (i := 0) (v := .iface 122 (.pointer (some ⟨gw, 0, none⟩))) (by simp only [List.getElem?_toArray, List.getElem?_cons_zero]; rfl) (by kernel_rfl) (by kernel_rfl) (by kernel_rfl) (by intro _ _ _ h; exact h) (Or.inl ⟨by rfl, fun w hS => by go_simp⟩) hH ?_
  simp only [Act.put, List.setIfInBounds_toArray, List.set_cons_zero, List.set_cons_succ]
  refine wpAnyH_take (i := 1) (v := .bool false) (by simp only [List.getElem?_toArray, List.getElem?_cons_succ, List.getElem?_cons_zero]; rfl) (by kernel_rfl) (by kernel_rfl) (by kernel_rfl) (by intro _ _ _ h; exact h) (Or.inl ⟨by rfl, fun w hS => by go_simp⟩) hH ?_
  simp only [Act.put, List.setIfInBounds_toArray, List.set_cons_zero, List.set_cons_succ]
  refine wpAnyH_take (i := 2) (v := .bool false) (by simp only [List.getElem?_toArray, List.getElem?_cons_succ, List.getElem?_cons_zero]; rfl) (by kernel_rfl) (by kernel_rfl) (by kernel_rfl) (by intro _ _ _ h; exact h) (Or.inl ⟨by rfl, fun w hS => by go_simp⟩) hH ?_
  simp only [Act.put, List.setIfInBounds_toArray, List.set_cons_zero, List.set_cons_succ]
  refine wpAnyH_take (i := 3) (v := .iface 122 (.pointer (some ⟨gw, 0, none⟩))) (by simp only [List.getElem?_toArray, List.getElem?_cons_succ, List.getElem?_cons_zero]; rfl) (by kernel_rfl) (by kernel_rfl) (by kernel_rfl) (by intro _ _ _ h; exact h) (Or.inl ⟨by rfl, fun w hS => by go_simp⟩) hH ?_
  simp only [Act.put, List.setIfInBounds_toArray, List.set_cons_zero, List.set_cons_succ]
  refine wpAnyH_take (i := 5) (v := .agg #[.int .i64 2, .int .i64 s, .int .i64 n, .int .i64 cn, .int .i64 ci, .int .i64 cs, .int .i64 cm, .int .i64 op, .int .i64 id', .slice a l.length c]) (by simp only [List.getElem?_toArray, List.getElem?_cons_succ, List.getElem?_cons_zero]; rfl) (by kernel_rfl) (by kernel_rfl) (by kernel_rfl) (by intro _ _ _ h; exact h) (Or.inl ⟨by rfl, fun w hS => by (have y0 := cell_kept hS f0; have y1 := cell_kept hS f1; have y2 := cell_kept hS f2; have y3 := cell_kept hS f3; have y4 := cell_kept hS f4; have y5 := cell_kept hS f5; have y6 := cell_kept hS f6; have y7 := cell_kept hS f7; have y8 := cell_kept hS f8; have y9 := cell_kept hS f9; go_simp)⟩) hH ?_
  simp only [Act.put, List.setIfInBounds_toArray, List.set_cons_zero, List.set_cons_succ]
  refine wpAnyH_ready (rs := [4]) (by kernel_rfl) (by simp) ?_
  refine AllReadyH.cons (by simp only [List.getElem?_toArray, List.getElem?_cons_succ, List.getElem?_cons_zero]; rfl) (fun K hK => ?_) AllReadyH.nil
  go_simp
  refine (msg2 gw _ _ VW.out).mono ?_
  rintro e x4 ⟨rfl, hM⟩
  have SB := hid hH.size
  refine hK.out _ _ (hH.trans (hM.mono hH.size)) (fun hH => ?_)
  clear hK K
  replace H := hid (H.out.below hM)
  replace VW := hid (var_below hM VW.out)
  clear hM SB
  refine wpAnyH_ready (rs := [6]) (by kernel_rfl) (by simp) ?_
  refine AllReadyH.cons (by simp only [List.getElem?_toArray, List.getElem?_cons_succ, List.getElem?_cons_zero]; rfl) (fun K hK => ?_) AllReadyH.nil
  go_simp
  refine (smm _ _ _ _ _ _ _ _ _ _ _ _ _ _ _ _ _ _ _ _ [] l _ (Rd.nil _) H.out t ht.out).mono ?_
  rintro e x6 ⟨rfl, hM⟩
  have SB := hid hH.size
  refine hK.out _ _ (hH.trans (hM.mono hH.size)) (fun hH => ?_)
  clear hK K
  replace H := hid (H.out.below hM)
  replace VW := hid (var_below hM VW.out)
  clear hM SB
  refine wpAnyH_take (i := 7) (v := .bool (!t)) (by simp only [List.getElem?_toArray, List.getElem?_cons_succ, List.getElem?_cons_zero]; rfl) (by kernel_rfl) (by kernel_rfl) (by kernel_rfl) (by intro _ _ _ h; exact h) (Or.inl ⟨by rfl, fun w hS => by go_simp⟩) hH ?_
  simp only [Act.put, List.setIfInBounds_toArray, List.set_cons_zero, List.set_cons_succ]
  refine wpAnyH_take (i := 8) (v := .bool (!t)) (by simp only [List.getElem?_toArray, List.getElem?_cons_succ, List.getElem?_cons_zero]; rfl) (by kernel_rfl) (by kernel_rfl) (by kernel_rfl) (by intro _ _ _ h; exact h) (Or.inl ⟨by rfl, fun w hS => by go_simp⟩) hH ?_
  simp only [Act.put, List.setIfInBounds_toArray, List.set_cons_zero, List.set_cons_succ]
  refine wpAnyH_done (by kernel_rfl) ?_ _
  clear f0 f1 f2 f3 f4 f5 f6 f7 f8 f9 na me
  replace BB := hid (BB.out.trans (hH.mono BB.out.size))
  clear hH V
  have FO := hid (form2 ht.out)
  clear ht
  cases t
  case false =>
    obtain rfl := mF_form HC.out (fun q => by have := FO.out.2 q; cases this)
    clear FO HC
    go_wp2
    refine bodyPost_ret (two_res rfl _ _ _) rfl ?_
    exact ⟨_, rfl, fun q => absurd q (by decide), BB.out⟩
  replace FO := hid (FO.out.1 rfl)
  go_wp2_with fail
  refine (nums2 gw _).mono ?_
  rintro e w2 ⟨vn, rfl, hR, hB⟩
  replace BB := hid (BB.out.trans (hB.mono BB.out.size))
  replace H := hid (H.out.below hB)
  replace VW := hid (var_below hB VW.out)
  obtain ⟨gn, rfl, -, -⟩ := hR.parts
  have R := hid hR
  clear hB hR
  go_wp2_with fail
  refine (nfit _ _ _ _ R.out (kpw2 VW.out)).mono ?_
  rintro e w3 ⟨rfl, hB⟩
  replace BB := hid (BB.out.trans (hB.mono BB.out.size))
  replace VW := hid (var_below hB VW.out)
  clear hB R
  have FI := hid (fits2 (s := s) (n := n) (cn := cn) (ci := ci) (cs := cs) (cm := cm) (op := op) (id' := id') (l := l) (g := gw) (by rcases FO.out with ⟨q | q, r⟩ | ⟨q, r⟩ | ⟨q, r⟩ | ⟨q, r⟩ <;> first | exact r.1 | (exact absurd (show (2 : Int) = _ from q) (by decide))))
  generalize fitB _ _ = t at *
  cases t
  case false =>
    obtain rfl := mF_fit HC.out FO.out (fun q => by have := FI.out.2 q; cases this)
    clear FO HC FI
    go_wp2
    refine bodyPost_ret (two_res rfl _ _ _) rfl ?_
    exact ⟨_, rfl, fun q => absurd q (by decide), BB.out⟩
  replace FI := hid (FI.out.1 rfl)
  have ta : ∀ w : World, (Instr.typeAssert (.iface 122 (.pointer (some ⟨gw, 0, none⟩))) 85 107 true).run Try.prog w = .ok (.tuple #[.pointer none, .bool false]) w := fun _ => by kernel_rfl
  obtain rfl := mF_ok HC.out FO.out FI.out (fun q => absurd (show (2 : Int) = 5 from q) (by decide))
  clear FO HC FI
  go_wp2_with fail
  refine wp_region_held_drew (S := fun w' => Below w3.heap.size w3 w') (by kernel_rfl) (Below.refl _ _).drew (fun hH => ?_)
  generalize w3.drew = x at hH ⊢
  refine wpAnyH_take (i := 0) (v := .bool false) (by simp only [List.getElem?_toArray, List.getElem?_cons_zero]; rfl) (by kernel_rfl) (by kernel_rfl) (by kernel_rfl) (by intro _ _ _ h; exact h) (Or.inl ⟨by rfl, fun w hS => by go_simp⟩) hH ?_
  simp only [Act.put, List.setIfInBounds_toArray, List.set_cons_zero, List.set_cons_succ]
  refine wpAnyH_take (i := 1) (v := .bool false) (by simp only [List.getElem?_toArray, List.getElem?_cons_succ, List.getElem?_cons_zero]; rfl) (by kernel_rfl) (by kernel_rfl) (by kernel_rfl) (by intro _ _ _ h; exact h) (Or.inl ⟨by rfl, fun w hS => by go_simp⟩) hH ?_
  simp only [Act.put, List.setIfInBounds_toArray, List.set_cons_zero, List.set_cons_succ]
  refine wpAnyH_take (i := 2) (v := undef) (by simp only [List.getElem?_toArray, List.getElem?_cons_succ, List.getElem?_cons_zero]; rfl) (by kernel_rfl) (by kernel_rfl) (by kernel_rfl) (by intro _ _ _ h; exact h) (Or.inr ⟨by rfl, rfl⟩) hH ?_
  simp only [Act.put, List.setIfInBounds_toArray, List.set_cons_zero, List.set_cons_succ]
  refine wpAnyH_take (i := 3) (v := undef) (by simp only [List.getElem?_toArray, List.getElem?_cons_succ, List.getElem?_cons_zero]; rfl) (by kernel_rfl) (by kernel_rfl) (by kernel_rfl) (by intro _ _ _ h; exact h) (Or.inr ⟨by rfl, rfl⟩) hH ?_
  simp only [Act.put, List.setIfInBounds_toArray, List.set_cons_zero, List.set_cons_succ]
  refine wpAnyH_take (i := 4) (v := undef) (by simp only [List.getElem?_toArray, List.getElem?_cons_succ, List.getElem?_cons_zero]; rfl) (by kernel_rfl) (by kernel_rfl) (by kernel_rfl) (by intro _ _ _ h; exact h) (Or.inr ⟨by rfl, rfl⟩) hH ?_
  simp only [Act.put, List.setIfInBounds_toArray, List.set_cons_zero, List.set_cons_succ]
  refine wpAnyH_take (i := 5) (v := undef) (by simp only [List.getElem?_toArray, List.getElem?_cons_succ, List.getElem?_cons_zero]; rfl) (by kernel_rfl) (by kernel_rfl) (by kernel_rfl) (by intro _ _ _ h; exact h) (Or.inr ⟨by rfl, rfl⟩) hH ?_
  simp only [Act.put, List.setIfInBounds_toArray, List.set_cons_zero, List.set_cons_succ]
  refine wpAnyH_take (i := 6) (v := undef) (by simp only [List.getElem?_toArray, List.getElem?_cons_succ, List.getElem?_cons_zero]; rfl) (by kernel_rfl) (by kernel_rfl) (by kernel_rfl) (by intro _ _ _ h; exact h) (Or.inr ⟨by rfl, rfl⟩) hH ?_
  simp only [Act.put, List.setIfInBounds_toArray, List.set_cons_zero, List.set_cons_succ]
  refine wpAnyH_take (i := 7) (v := undef) (by simp only [List.getElem?_toArray, List.getElem?_cons_succ, List.getElem?_cons_zero]; rfl) (by kernel_rfl) (by kernel_rfl) (by kernel_rfl) (by intro _ _ _ h; exact h) (Or.inr ⟨by rfl, rfl⟩) hH ?_
  simp only [Act.put, List.setIfInBounds_toArray, List.set_cons_zero, List.set_cons_succ]
  refine wpAnyH_take (i := 8) (v := undef) (by simp only [List.getElem?_toArray, List.getElem?_cons_succ, List.getElem?_cons_zero]; rfl) (by kernel_rfl) (by kernel_rfl) (by kernel_rfl) (by intro _ _ _ h; exact h) (Or.inr ⟨by rfl, rfl⟩) hH ?_
  simp only [Act.put, List.setIfInBounds_toArray, List.set_cons_zero, List.set_cons_succ]
  refine wpAnyH_take (i := 9) (v := undef) (by simp only [List.getElem?_toArray, List.getElem?_cons_succ, List.getElem?_cons_zero]; rfl) (by kernel_rfl) (by kernel_rfl) (by kernel_rfl) (by intro _ _ _ h; exact h) (Or.inr ⟨by rfl, rfl⟩) hH ?_
  simp only [Act.put, List.setIfInBounds_toArray, List.set_cons_zero, List.set_cons_succ]
  refine wpAnyH_take (i := 10) (v := undef) (by simp only [List.getElem?_toArray, List.getElem?_cons_succ, List.getElem?_cons_zero]; rfl) (by kernel_rfl) (by kernel_rfl) (by kernel_rfl) (by intro _ _ _ h; exact h) (Or.inr ⟨by rfl, rfl⟩) hH ?_
  simp only [Act.put, List.setIfInBounds_toArray, List.set_cons_zero, List.set_cons_succ]
  refine wpAnyH_take (i := 11) (v := .bool false) (by simp only [List.getElem?_toArray, List.getElem?_cons_succ, List.getElem?_cons_zero]; rfl) (by kernel_rfl) (by kernel_rfl) (by kernel_rfl) (by intro _ _ _ h; exact h) (Or.inl ⟨by rfl, fun w hS => by go_simp⟩) hH ?_
  simp only [Act.put, List.setIfInBounds_toArray, List.set_cons_zero, List.set_cons_succ]
  refine wpAnyH_done (by kernel_rfl) ?_ _
  replace BB := hid (BB.out.trans (hH.mono BB.out.size))
  replace VW := hid (var_below hH VW.out)
  clear hH ta
  go_wp2
  try simp only [Exit.inBlock, Exit.then]
  refine bodyPost_ret (two_res rfl _ _ _) rfl ?_
  exact ⟨_, rfl, ⟨gw, rfl, VW.out⟩, BB.out⟩
theorem nah3 (g : Nat) (w : World) : (nilAhead Try.prog.depth 125 (.pointer (some ⟨g, 0, none⟩)) "loop.example/g00725/impl.message").run Try.prog w = .ok (some false) w := by kernel_rfl
theorem met3 (g : Nat) (w : World) : (method Try.prog.depth 125 (.pointer (some ⟨g, 0, none⟩)) "loop.example/g00725/impl.message").run Try.prog w = .ok (99, .pointer (some ⟨g, 0, none⟩)) w := by kernel_rfl
set_option maxHeartbeats 2000000 in
set_option maxRecDepth 100000 in
theorem wof3 (s n cn ci cs cm op id' code : Int) (v : Value) (l : List Nat) (w : World) (h : Rd w v l) (hc : mF ⟨3, s, n, cn, ci, cs, cm, op, id', l⟩ code) :
    Calls Try.prog 53 #[.agg #[.int .i64 3, .int .i64 s, .int .i64 n, .int .i64 cn, .int .i64 ci, .int .i64 cs, .int .i64 cm, .int .i64 op, .int .i64 id', v]] w fun e w' => ∃ u, e = .returned (.tuple #[u, .int .i64 code]) ∧ (code = 0 → ∃ g, u = .iface 125 (.pointer (some ⟨g, 0, none⟩)) ∧ w'.heap[g]? = some (.cells #[.int .i64 s, .int .i64 n] 126)) ∧ Below w.heap.size w w' := by
  have H := hid h
  have HC := hid hc
  obtain ⟨a, c, rfl, -, -, -⟩ := h.parts
  clear h hc
  obtain ⟨t, ht⟩ : ∃ t, Hid (smQ ⟨3, s, n, 0, 0, 0, 0, 0, 0, []⟩ ⟨3, s, n, cn, ci, cs, cm, op, id', l⟩ t) := smQ_some _ _
  go_enter Try.func53, Try.ntmps53
  go_wp2_with fail
  have V := hid (heap_alloc_new w (.cells #[.int .i64 3, .int .i64 s, .int .i64 n, .int .i64 cn, .int .i64 ci, .int .i64 cs, .int .i64 cm, .int .i64 op, .int .i64 id', .slice a l.length c] 45))
  have BB := hid (below_alloc1 w (.cells #[.int .i64 3, .int .i64 s, .int .i64 n, .int .i64 cn, .int .i64 ci, .int .i64 cs, .int .i64 cm, .int .i64 op, .int .i64 id', .slice a l.length c] 45))
  replace H := hid (H.out.below BB.out)
  generalize w.alloc (.cells #[.int .i64 3, .int .i64 s, .int .i64 n, .int .i64 cn, .int .i64 ci, .int .i64 cs, .int .i64 cm, .int .i64 op, .int .i64 id', .slice a l.length c] 45) = w0 at *
  obtain ⟨g, hg⟩ : ∃ g, g = w.heap.size := ⟨_, rfl⟩
  rw [← hg] at V ⊢
  replace hg := hid hg
  refine (str3 _ _ _ _ _ _ _ _ _ _ _ _).mono ?_
  rintro e w1 ⟨gw, rfl, hW, hB⟩
  replace V := hid (var_below hB V.out)
  replace BB := hid (BB.out.trans (hB.mono BB.out.size))
  replace H := hid (H.out.below hB)
  have VW := hid hW
  clear hB hW
  have na := nah3 gw
  have me := met3 gw
  obtain ⟨⟨f0, f1, f2, f3, f4, f5, f6, f7, f8, f9⟩, -⟩ := v10_facts V.out
  go_wp2_with fail
  refine wp_region_held_drew (S := fun w' => Below w1.heap.size w1 w') (by kernel_rfl) (Below.refl _ _).drew (fun hH => ?_)
  replace VW := hid (show w1.drew.heap[gw]? = _ from VW.out)
  replace H := hid (show Rd w1.drew _ l from H.out.below (Below.refl _ _).drew)
  generalize w1.drew = x at *
  refine wpAnyH_take (i := 0) (v := .iface 125 (.pointer (some ⟨gw, 0, none⟩))) (by simp only [List.getElem?_toArray, List.getElem?_cons_zero]; rfl) (by kernel_rfl) (by kernel_rfl) (by kernel_rfl) (by intro _ _ _ h; exact h) (Or.inl ⟨by rfl, fun w hS => by go_simp⟩) hH ?_
  simp only [Act.put, List.setIfInBounds_toArray, List.set_cons_zero, List.set_cons_succ]
  refine wpAnyH_take (i := 1) (v := .bool false) (by simp only [List.getElem?_toArray, List.getElem?_cons_succ, List.getElem?_cons_zero]; rfl) (by kernel_rfl) (by kernel_rfl) (by kernel_rfl) (by intro _ _ _ h; exact h) (Or.inl ⟨by rfl, fun w hS => by go_simp⟩) hH ?_
  simp only [Act.put, List.setIfInBounds_toArray, List.set_cons_zero, List.set_cons_succ]
  refine wpAnyH_take (i := 2) (v := .bool false) (by simp only [List.getElem?_toArray, List.getElem?_cons_succ, List.getElem?_cons_zero]; rfl) (by kernel_rfl) (by kernel_rfl) (by kernel_rfl) (by intro _ _ _ h; exact h) (Or.inl ⟨by rfl, fun w hS => by go_simp⟩) hH ?_
  simp only [Act.put, List.setIfInBounds_toArray, List.set_cons_zero, List.set_cons_succ]
  refine wpAnyH_take (i := 3) (v := .iface 125 (.pointer (some ⟨gw, 0, none⟩))) (by simp only [List.getElem?_toArray, List.getElem?_cons_succ, List.getElem?_cons_zero]; rfl) (by kernel_rfl) (by kernel_rfl) (by kernel_rfl) (by intro _ _ _ h; exact h) (Or.inl ⟨by rfl, fun w hS => by go_simp⟩) hH ?_
  simp only [Act.put, List.setIfInBounds_toArray, List.set_cons_zero, List.set_cons_succ]
  refine wpAnyH_take (i := 5) (v := .agg #[.int .i64 3, .int .i64 s, .int .i64 n, .int .i64 cn, .int .i64 ci, .int .i64 cs, .int .i64 cm, .int .i64 op, .int .i64 id', .slice a l.length c]) (by simp only [List.getElem?_toArray, List.getElem?_cons_succ, List.getElem?_cons_zero]; rfl) (by kernel_rfl) (by kernel_rfl) (by kernel_rfl) (by intro _ _ _ h; exact h) (Or.inl ⟨by rfl, fun w hS => by (have y0 := cell_kept hS f0; have y1 := cell_kept hS f1; have y2 := cell_kept hS f2; have y3 := cell_kept hS f3; have y4 := cell_kept hS f4; have y5 := cell_kept hS f5; have y6 := cell_kept hS f6; have y7 := cell_kept hS f7; have y8 := cell_kept hS f8; have y9 := cell_kept hS f9; go_simp)⟩) hH ?_
  simp only [Act.put, List.setIfInBounds_toArray, List.set_cons_zero, List.set_cons_succ]
  refine wpAnyH_ready (rs := [4]) (by kernel_rfl) (by simp) ?_
  refine AllReadyH.cons (by simp only [List.getElem?_toArray, List.getElem?_cons_succ, List.getElem?_cons_zero]; rfl) (fun K hK => ?_) AllReadyH.nil
  go_simp
  refine (msg3 gw _ _ _ VW.out).mono ?_
  rintro e x4 ⟨rfl, hM⟩
  have SB := hid hH.size
  refine hK.out _ _ (hH.trans (hM.mono hH.size)) (fun hH => ?_)
  clear hK K
  replace H := hid (H.out.below hM)
  replace VW := hid (var_below hM VW.out)
  clear hM SB
  refine wpAnyH_ready (rs := [6]) (by kernel_rfl) (by simp) ?_
  refine AllReadyH.cons (by simp only [List.getElem?_toArray, List.getElem?_cons_succ, List.getElem?_cons_zero]; rfl) (fun K hK => ?_) AllReadyH.nil
  go_simp
  refine (smm _ _ _ _ _ _ _ _ _ _ _ _ _ _ _ _ _ _ _ _ [] l _ (Rd.nil _) H.out t ht.out).mono ?_
  rintro e x6 ⟨rfl, hM⟩
  have SB := hid hH.size
  refine hK.out _ _ (hH.trans (hM.mono hH.size)) (fun hH => ?_)
  clear hK K
  replace H := hid (H.out.below hM)
  replace VW := hid (var_below hM VW.out)
  clear hM SB
  refine wpAnyH_take (i := 7) (v := .bool (!t)) (by simp only [List.getElem?_toArray, List.getElem?_cons_succ, List.getElem?_cons_zero]; rfl) (by kernel_rfl) (by kernel_rfl) (by kernel_rfl) (by intro _ _ _ h; exact h) (Or.inl ⟨by rfl, fun w hS => by go_simp⟩) hH ?_
  simp only [Act.put, List.setIfInBounds_toArray, List.set_cons_zero, List.set_cons_succ]
  refine wpAnyH_take (i := 8) (v := .bool (!t)) (by simp only [List.getElem?_toArray, List.getElem?_cons_succ, List.getElem?_cons_zero]; rfl) (by kernel_rfl) (by kernel_rfl) (by kernel_rfl) (by intro _ _ _ h; exact h) (Or.inl ⟨by rfl, fun w hS => by go_simp⟩) hH ?_
  simp only [Act.put, List.setIfInBounds_toArray, List.set_cons_zero, List.set_cons_succ]
  refine wpAnyH_done (by kernel_rfl) ?_ _
  clear f0 f1 f2 f3 f4 f5 f6 f7 f8 f9 na me
  replace BB := hid (BB.out.trans (hH.mono BB.out.size))
  clear hH V
  have FO := hid (form3 ht.out)
  clear ht
  cases t
  case false =>
    obtain rfl := mF_form HC.out (fun q => by have := FO.out.2 q; cases this)
    clear FO HC
    go_wp2
    refine bodyPost_ret (two_res rfl _ _ _) rfl ?_
    exact ⟨_, rfl, fun q => absurd q (by decide), BB.out⟩
  replace FO := hid (FO.out.1 rfl)
  go_wp2_with fail
  refine (nums3 gw _).mono ?_
  rintro e w2 ⟨vn, rfl, hR, hB⟩
  replace BB := hid (BB.out.trans (hB.mono BB.out.size))
  replace H := hid (H.out.below hB)
  replace VW := hid (var_below hB VW.out)
  obtain ⟨gn, rfl, -, -⟩ := hR.parts
  have R := hid hR
  clear hB hR
  go_wp2_with fail
  refine (nfit _ _ _ _ R.out (kpw3 VW.out)).mono ?_
  rintro e w3 ⟨rfl, hB⟩
  replace BB := hid (BB.out.trans (hB.mono BB.out.size))
  replace VW := hid (var_below hB VW.out)
  clear hB R
  have FI := hid (fits3 (s := s) (n := n) (cn := cn) (ci := ci) (cs := cs) (cm := cm) (op := op) (id' := id') (l := l) (g := gw))
  generalize fitB _ _ = t at *
  cases t
  case false =>
    obtain rfl := mF_fit HC.out FO.out (fun q => by have := FI.out.2 q; cases this)
    clear FO HC FI
    go_wp2
    refine bodyPost_ret (two_res rfl _ _ _) rfl ?_
    exact ⟨_, rfl, fun q => absurd q (by decide), BB.out⟩
  replace FI := hid (FI.out.1 rfl)
  have ta : ∀ w : World, (Instr.typeAssert (.iface 125 (.pointer (some ⟨gw, 0, none⟩))) 85 107 true).run Try.prog w = .ok (.tuple #[.pointer none, .bool false]) w := fun _ => by kernel_rfl
  obtain rfl := mF_ok HC.out FO.out FI.out (fun q => absurd (show (3 : Int) = 5 from q) (by decide))
  clear FO HC FI
  go_wp2_with fail
  refine wp_region_held_drew (S := fun w' => Below w3.heap.size w3 w') (by kernel_rfl) (Below.refl _ _).drew (fun hH => ?_)
  generalize w3.drew = x at hH ⊢
  refine wpAnyH_take (i := 0) (v := .bool false) (by simp only [List.getElem?_toArray, List.getElem?_cons_zero]; rfl) (by kernel_rfl) (by kernel_rfl) (by kernel_rfl) (by intro _ _ _ h; exact h) (Or.inl ⟨by rfl, fun w hS => by go_simp⟩) hH ?_
  simp only [Act.put, List.setIfInBounds_toArray, List.set_cons_zero, List.set_cons_succ]
  refine wpAnyH_take (i := 1) (v := .bool false) (by simp only [List.getElem?_toArray, List.getElem?_cons_succ, List.getElem?_cons_zero]; rfl) (by kernel_rfl) (by kernel_rfl) (by kernel_rfl) (by intro _ _ _ h; exact h) (Or.inl ⟨by rfl, fun w hS => by go_simp⟩) hH ?_
  simp only [Act.put, List.setIfInBounds_toArray, List.set_cons_zero, List.set_cons_succ]
  refine wpAnyH_take (i := 2) (v := undef) (by simp only [List.getElem?_toArray, List.getElem?_cons_succ, List.getElem?_cons_zero]; rfl) (by kernel_rfl) (by kernel_rfl) (by kernel_rfl) (by intro _ _ _ h; exact h) (Or.inr ⟨by rfl, rfl⟩) hH ?_
  simp only [Act.put, List.setIfInBounds_toArray, List.set_cons_zero, List.set_cons_succ]
  refine wpAnyH_take (i := 3) (v := undef) (by simp only [List.getElem?_toArray, List.getElem?_cons_succ, List.getElem?_cons_zero]; rfl) (by kernel_rfl) (by kernel_rfl) (by kernel_rfl) (by intro _ _ _ h; exact h) (Or.inr ⟨by rfl, rfl⟩) hH ?_
  simp only [Act.put, List.setIfInBounds_toArray, List.set_cons_zero, List.set_cons_succ]
  refine wpAnyH_take (i := 4) (v := undef) (by simp only [List.getElem?_toArray, List.getElem?_cons_succ, List.getElem?_cons_zero]; rfl) (by kernel_rfl) (by kernel_rfl) (by kernel_rfl) (by intro _ _ _ h; exact h) (Or.inr ⟨by rfl, rfl⟩) hH ?_
  simp only [Act.put, List.setIfInBounds_toArray, List.set_cons_zero, List.set_cons_succ]
  refine wpAnyH_take (i := 5) (v := undef) (by simp only [List.getElem?_toArray, List.getElem?_cons_succ, List.getElem?_cons_zero]; rfl) (by kernel_rfl) (by kernel_rfl) (by kernel_rfl) (by intro _ _ _ h; exact h) (Or.inr ⟨by rfl, rfl⟩) hH ?_
  simp only [Act.put, List.setIfInBounds_toArray, List.set_cons_zero, List.set_cons_succ]
  refine wpAnyH_take (i := 6) (v := undef) (by simp only [List.getElem?_toArray, List.getElem?_cons_succ, List.getElem?_cons_zero]; rfl) (by kernel_rfl) (by kernel_rfl) (by kernel_rfl) (by intro _ _ _ h; exact h) (Or.inr ⟨by rfl, rfl⟩) hH ?_
  simp only [Act.put, List.setIfInBounds_toArray, List.set_cons_zero, List.set_cons_succ]
  refine wpAnyH_take (i := 7) (v := undef) (by simp only [List.getElem?_toArray, List.getElem?_cons_succ, List.getElem?_cons_zero]; rfl) (by kernel_rfl) (by kernel_rfl) (by kernel_rfl) (by intro _ _ _ h; exact h) (Or.inr ⟨by rfl, rfl⟩) hH ?_
  simp only [Act.put, List.setIfInBounds_toArray, List.set_cons_zero, List.set_cons_succ]
  refine wpAnyH_take (i := 8) (v := undef) (by simp only [List.getElem?_toArray, List.getElem?_cons_succ, List.getElem?_cons_zero]; rfl) (by kernel_rfl) (by kernel_rfl) (by kernel_rfl) (by intro _ _ _ h; exact h) (Or.inr ⟨by rfl, rfl⟩) hH ?_
  simp only [Act.put, List.setIfInBounds_toArray, List.set_cons_zero, List.set_cons_succ]
  refine wpAnyH_take (i := 9) (v := undef) (by simp only [List.getElem?_toArray, List.getElem?_cons_succ, List.getElem?_cons_zero]; rfl) (by kernel_rfl) (by kernel_rfl) (by kernel_rfl) (by intro _ _ _ h; exact h) (Or.inr ⟨by rfl, rfl⟩) hH ?_
  simp only [Act.put, List.setIfInBounds_toArray, List.set_cons_zero, List.set_cons_succ]
  refine wpAnyH_take (i := 10) (v := undef) (by simp only [List.getElem?_toArray, List.getElem?_cons_succ, List.getElem?_cons_zero]; rfl) (by kernel_rfl) (by kernel_rfl) (by kernel_rfl) (by intro _ _ _ h; exact h) (Or.inr ⟨by rfl, rfl⟩) hH ?_
  simp only [Act.put, List.setIfInBounds_toArray, List.set_cons_zero, List.set_cons_succ]
  refine wpAnyH_take (i := 11) (v := .bool false) (by simp only [List.getElem?_toArray, List.getElem?_cons_succ, List.getElem?_cons_zero]; rfl) (by kernel_rfl) (by kernel_rfl) (by kernel_rfl) (by intro _ _ _ h; exact h) (Or.inl ⟨by rfl, fun w hS => by go_simp⟩) hH ?_
  simp only [Act.put, List.setIfInBounds_toArray, List.set_cons_zero, List.set_cons_succ]
  refine wpAnyH_done (by kernel_rfl) ?_ _
  replace BB := hid (BB.out.trans (hH.mono BB.out.size))
  replace VW := hid (var_below hH VW.out)
  clear hH ta
  go_wp2
  try simp only [Exit.inBlock, Exit.then]
  refine bodyPost_ret (two_res rfl _ _ _) rfl ?_
  exact ⟨_, rfl, ⟨gw, rfl, VW.out⟩, BB.out⟩
theorem nah4 (g : Nat) (w : World) : (nilAhead Try.prog.depth 127 (.pointer (some ⟨g, 0, none⟩)) "loop.example/g00725/impl.message").run Try.prog w = .ok (some false) w := by kernel_rfl
theorem met4 (g : Nat) (w : World) : (method Try.prog.depth 127 (.pointer (some ⟨g, 0, none⟩)) "loop.example/g00725/impl.message").run Try.prog w = .ok (100, .pointer (some ⟨g, 0, none⟩)) w := by kernel_rfl
set_option maxHeartbeats 2000000 in
set_option maxRecDepth 100000 in
theorem wof4 (s n cn ci cs cm op id' code : Int) (v : Value) (l : List Nat) (w : World) (h : Rd w v l) (hc : mF ⟨4, s, n, cn, ci, cs, cm, op, id', l⟩ code) :
    Calls Try.prog 53 #[.agg #[.int .i64 4, .int .i64 s, .int .i64 n, .int .i64 cn, .int .i64 ci, .int .i64 cs, .int .i64 cm, .int .i64 op, .int .i64 id', v]] w fun e w' => ∃ u, e = .returned (.tuple #[u, .int .i64 code]) ∧ (code = 0 → ∃ g, u = .iface 127 (.pointer (some ⟨g, 0, none⟩)) ∧ w'.heap[g]? = some (.cells #[.int .i64 cn, .int .i64 ci, .int .i64 cs, .int .i64 cm] 129)) ∧ Below w.heap.size w w' := by
  have H := hid h
  have HC := hid hc
  obtain ⟨a, c, rfl, -, -, -⟩ := h.parts
  clear h hc
  obtain ⟨t, ht⟩ : ∃ t, Hid (smQ ⟨4, 0, 0, cn, ci, cs, cm, 0, 0, []⟩ ⟨4, s, n, cn, ci, cs, cm, op, id', l⟩ t) := smQ_some _ _
  go_enter Try.func53, Try.ntmps53
  go_wp2_with fail
  have V := hid (heap_alloc_new w (.cells #[.int .i64 4, .int .i64 s, .int .i64 n, .int .i64 cn, .int .i64 ci, .int .i64 cs, .int .i64 cm, .int .i64 op, .int .i64 id', .slice a l.length c] 45))
  have BB := hid (below_alloc1 w (.cells #[.int .i64 4, .int .i64 s, .int .i64 n, .int .i64 cn, .int .i64 ci, .int .i64 cs, .int .i64 cm, .int .i64 op, .int .i64 id', .slice a l.length c] 45))
  replace H := hid (H.out.below BB.out)
  generalize w.alloc (.cells #[.int .i64 4, .int .i64 s, .int .i64 n, .int .i64 cn, .int .i64 ci, .int .i64 cs, .int .i64 cm, .int .i64 op, .int .i64 id', .slice a l.length c] 45) = w0 at *
  obtain ⟨g, hg⟩ : ∃ g, g = w.heap.size := ⟨_, rfl⟩
  rw [← hg] at V ⊢
  replace hg := hid hg
  refine (str4 _ _ _ _ _ _ _ _ _ _ _ _).mono ?_
  rintro e w1 ⟨gw, rfl, hW, hB⟩
  replace V := hid (var_below hB V.out)
  replace BB := hid (BB.out.trans (hB.mono BB.out.size))
  replace H := hid (H.out.below hB)
  have VW := hid hW
  clear hB hW
  have na := nah4 gw
  have me := met4 gw
  obtain ⟨⟨f0, f1, f2, f3, f4, f5, f6, f7, f8, f9⟩, -⟩ := v10_facts V.out
  go_wp2_with fail
  refine wp_region_held_drew (S := fun w' => Below w1.heap.size w1 w') (by kernel_rfl) (Below.refl _ _).drew (fun hH => ?_)
  replace VW := hid (show w1.drew.heap[gw]? = _ from VW.out)
  replace H := hid (show Rd w1.drew _ l from H.out.below (Below.refl _ _).drew)
  generalize w1.drew = x at *
  refine wpAnyH_take (i := 0) (v := .iface 127 (.pointer (some ⟨gw, 0, none⟩))) (by simp only [List.getElem?_toArray, List.getElem?_cons_zero]; rfl) (by kernel_rfl) (by kernel_rfl) (by kernel_rfl) (by intro _ _ _ h; exact h) (Or.inl ⟨by rfl, fun w hS => by go_simp⟩) hH ?_
  simp only [Act.put, List.setIfInBounds_toArray, List.set_cons_zero, List.set_cons_succ]
  refine wpAnyH_take (i := 1) (v := .bool false) (by simp only [List.getElem?_toArray, List.getElem?_cons_succ, List.getElem?_cons_zero]; rfl) (by kernel_rfl) (by kernel_rfl) (by kernel_rfl) (by intro _ _ _ h; exact h) (Or.inl ⟨by rfl, fun w hS => by go_simp⟩) hH ?_
  simp only [Act.put, List.setIfInBounds_toArray, List.set_cons_zero, List.set_cons_succ]
  refine wpAnyH_take (i := 2) (v := .bool false) (by simp only [List.getElem?_toArray, List.getElem?_cons_succ, List.getElem?_cons_zero]; rfl) (by kernel_rfl) (by kernel_rfl) (by kernel_rfl) (by intro _ _ _ h; exact h) (Or.inl ⟨by rfl, fun w hS => by go_simp⟩) hH ?_
  simp only [Act.put, List.setIfInBounds_toArray, List.set_cons_zero, List.set_cons_succ]
  refine wpAnyH_take (i := 3) (v := .iface 127 (.pointer (some ⟨gw, 0, none⟩))) (by simp only [List.getElem?_toArray, List.getElem?_cons_succ, List.getElem?_cons_zero]; rfl) (by kernel_rfl) (by kernel_rfl) (by kernel_rfl) (by intro _ _ _ h; exact h) (Or.inl ⟨by rfl, fun w hS => by go_simp⟩) hH ?_
  simp only [Act.put, List.setIfInBounds_toArray, List.set_cons_zero, List.set_cons_succ]
  refine wpAnyH_take (i := 5) (v := .agg #[.int .i64 4, .int .i64 s, .int .i64 n, .int .i64 cn, .int .i64 ci, .int .i64 cs, .int .i64 cm, .int .i64 op, .int .i64 id', .slice a l.length c]) (by simp only [List.getElem?_toArray, List.getElem?_cons_succ, List.getElem?_cons_zero]; rfl) (by kernel_rfl) (by kernel_rfl) (by kernel_rfl) (by intro _ _ _ h; exact h) (Or.inl ⟨by rfl, fun w hS => by (have y0 := cell_kept hS f0; have y1 := cell_kept hS f1; have y2 := cell_kept hS f2; have y3 := cell_kept hS f3; have y4 := cell_kept hS f4; have y5 := cell_kept hS f5; have y6 := cell_kept hS f6; have y7 := cell_kept hS f7; have y8 := cell_kept hS f8; have y9 := cell_kept hS f9; go_simp)⟩) hH ?_
  simp only [Act.put, List.setIfInBounds_toArray, List.set_cons_zero, List.set_cons_succ]
  refine wpAnyH_ready (rs := [4]) (by kernel_rfl) (by simp) ?_
  refine AllReadyH.cons (by simp only [List.getElem?_toArray, List.getElem?_cons_succ, List.getElem?_cons_zero]; rfl) (fun K hK => ?_) AllReadyH.nil
  go_simp
  refine (msg4 gw _ _ _ _ _ VW.out).mono ?_
  rintro e x4 ⟨rfl, hM⟩
  have SB := hid hH.size
  refine hK.out _ _ (hH.trans (hM.mono hH.size)) (fun hH => ?_)
  clear hK K
  replace H := hid (H.out.below hM)
  replace VW := hid (var_below hM VW.out)
  clear hM SB
  refine wpAnyH_ready (rs := [6]) (by kernel_rfl) (by simp) ?_
  refine AllReadyH.cons (by simp only [List.getElem?_toArray, List.getElem?_cons_succ, List.getElem?_cons_zero]; rfl) (fun K hK => ?_) AllReadyH.nil
  go_simp
  refine (smm _ _ _ _ _ _ _ _ _ _ _ _ _ _ _ _ _ _ _ _ [] l _ (Rd.nil _) H.out t ht.out).mono ?_
  rintro e x6 ⟨rfl, hM⟩
  have SB := hid hH.size
  refine hK.out _ _ (hH.trans (hM.mono hH.size)) (fun hH => ?_)
  clear hK K
  replace H := hid (H.out.below hM)
  replace VW := hid (var_below hM VW.out)
  clear hM SB
  refine wpAnyH_take (i := 7) (v := .bool (!t)) (by simp only [List.getElem?_toArray, List.getElem?_cons_succ, List.getElem?_cons_zero]; rfl) (by kernel_rfl) (by kernel_rfl) (by kernel_rfl) (by intro _ _ _ h; exact h) (Or.inl ⟨by rfl, fun w hS => by go_simp⟩) hH ?_
  simp only [Act.put, List.setIfInBounds_toArray, List.set_cons_zero, List.set_cons_succ]
  refine wpAnyH_take (i := 8) (v := .bool (!t)) (by simp only [List.getElem?_toArray, List.getElem?_cons_succ, List.getElem?_cons_zero]; rfl) (by kernel_rfl) (by kernel_rfl) (by kernel_rfl) (by intro _ _ _ h; exact h) (Or.inl ⟨by rfl, fun w hS => by go_simp⟩) hH ?_
  simp only [Act.put, List.setIfInBounds_toArray, List.set_cons_zero, List.set_cons_succ]
  refine wpAnyH_done (by kernel_rfl) ?_ _
  clear f0 f1 f2 f3 f4 f5 f6 f7 f8 f9 na me
  replace BB := hid (BB.out.trans (hH.mono BB.out.size))
  clear hH V
  have FO := hid (form4 ht.out)
  clear ht
  cases t
  case false =>
    obtain rfl := mF_form HC.out (fun q => by have := FO.out.2 q; cases this)
    clear FO HC
    go_wp2
    refine bodyPost_ret (two_res rfl _ _ _) rfl ?_
    exact ⟨_, rfl, fun q => absurd q (by decide), BB.out⟩
  replace FO := hid (FO.out.1 rfl)
  go_wp2_with fail
  refine (nums4 gw _).mono ?_
  rintro e w2 ⟨vn, rfl, hR, hB⟩
  replace BB := hid (BB.out.trans (hB.mono BB.out.size))
  replace H := hid (H.out.below hB)
  replace VW := hid (var_below hB VW.out)
  obtain ⟨gn, rfl, -, -⟩ := hR.parts
  have R := hid hR
  clear hB hR
  go_wp2_with fail
  refine (nfit _ _ _ _ R.out (kpw4 VW.out)).mono ?_
  rintro e w3 ⟨rfl, hB⟩
  replace BB := hid (BB.out.trans (hB.mono BB.out.size))
  replace VW := hid (var_below hB VW.out)
  clear hB R
  have FI := hid (fits4 (s := s) (n := n) (cn := cn) (ci := ci) (cs := cs) (cm := cm) (op := op) (id' := id') (l := l) (g := gw))
  generalize fitB _ _ = t at *
  cases t
  case false =>
    obtain rfl := mF_fit HC.out FO.out (fun q => by have := FI.out.2 q; cases this)
    clear FO HC FI
    go_wp2
    refine bodyPost_ret (two_res rfl _ _ _) rfl ?_
    exact ⟨_, rfl, fun q => absurd q (by decide), BB.out⟩
  replace FI := hid (FI.out.1 rfl)
  have ta : ∀ w : World, (Instr.typeAssert (.iface 127 (.pointer (some ⟨gw, 0, none⟩))) 85 107 true).run Try.prog w = .ok (.tuple #[.pointer none, .bool false]) w := fun _ => by kernel_rfl
  obtain rfl := mF_ok HC.out FO.out FI.out (fun q => absurd (show (4 : Int) = 5 from q) (by decide))
  clear FO HC FI
  go_wp2_with fail
  refine wp_region_held_drew (S := fun w' => Below w3.heap.size w3 w') (by kernel_rfl) (Below.refl _ _).drew (fun hH => ?_)
  generalize w3.drew = x at hH ⊢
  refine wpAnyH_take (i := 0) (v := .bool false) (by simp only [List.getElem?_toArray, List.getElem?_cons_zero]; rfl) (by kernel_rfl) (by kernel_rfl) (by kernel_rfl) (by intro _ _ _ h; exact h) (Or.inl ⟨by rfl, fun w hS => by go_simp⟩) hH ?_
  simp only [Act.put, List.setIfInBounds_toArray, List.set_cons_zero, List.set_cons_succ]
  refine wpAnyH_take (i := 1) (v := .bool false) (by simp only [List.getElem?_toArray, List.getElem?_cons_succ, List.getElem?_cons_zero]; rfl) (by kernel_rfl) (by kernel_rfl) (by kernel_rfl) (by intro _ _ _ h; exact h) (Or.inl ⟨by rfl, fun w hS => by go_simp⟩) hH ?_
  simp only [Act.put, List.setIfInBounds_toArray, List.set_cons_zero, List.set_cons_succ]
  refine wpAnyH_take (i := 2) (v := undef) (by simp only [List.getElem?_toArray, List.getElem?_cons_succ, List.getElem?_cons_zero]; rfl) (by kernel_rfl) (by kernel_rfl) (by kernel_rfl) (by intro _ _ _ h; exact h) (Or.inr ⟨by rfl, rfl⟩) hH ?_
  simp only [Act.put, List.setIfInBounds_toArray, List.set_cons_zero, List.set_cons_succ]
  refine wpAnyH_take (i := 3) (v := undef) (by simp only [List.getElem?_toArray, List.getElem?_cons_succ, List.getElem?_cons_zero]; rfl) (by kernel_rfl) (by kernel_rfl) (by kernel_rfl) (by intro _ _ _ h; exact h) (Or.inr ⟨by rfl, rfl⟩) hH ?_
  simp only [Act.put, List.setIfInBounds_toArray, List.set_cons_zero, List.set_cons_succ]
  refine wpAnyH_take (i := 4) (v := undef) (by simp only [List.getElem?_toArray, List.getElem?_cons_succ, List.getElem?_cons_zero]; rfl) (by kernel_rfl) (by kernel_rfl) (by kernel_rfl) (by intro _ _ _ h; exact h) (Or.inr ⟨by rfl, rfl⟩) hH ?_
  simp only [Act.put, List.setIfInBounds_toArray, List.set_cons_zero, List.set_cons_succ]
  refine wpAnyH_take (i := 5) (v := undef) (by simp only [List.getElem?_toArray, List.getElem?_cons_succ, List.getElem?_cons_zero]; rfl) (by kernel_rfl) (by kernel_rfl) (by kernel_rfl) (by intro _ _ _ h; exact h) (Or.inr ⟨by rfl, rfl⟩) hH ?_
  simp only [Act.put, List.setIfInBounds_toArray, List.set_cons_zero, List.set_cons_succ]
  refine wpAnyH_take (i := 6) (v := undef) (by simp only [List.getElem?_toArray, List.getElem?_cons_succ, List.getElem?_cons_zero]; rfl) (by kernel_rfl) (by kernel_rfl) (by kernel_rfl) (by intro _ _ _ h; exact h) (Or.inr ⟨by rfl, rfl⟩) hH ?_
  simp only [Act.put, List.setIfInBounds_toArray, List.set_cons_zero, List.set_cons_succ]
  refine wpAnyH_take (i := 7) (v := undef) (by simp only [List.getElem?_toArray, List.getElem?_cons_succ, List.getElem?_cons_zero]; rfl) (by kernel_rfl) (by kernel_rfl) (by kernel_rfl) (by intro _ _ _ h; exact h) (Or.inr ⟨by rfl, rfl⟩) hH ?_
  simp only [Act.put, List.setIfInBounds_toArray, List.set_cons_zero, List.set_cons_succ]
  refine wpAnyH_take (i := 8) (v := undef) (by simp only [List.getElem?_toArray, List.getElem?_cons_succ, List.getElem?_cons_zero]; rfl) (by kernel_rfl) (by kernel_rfl) (by kernel_rfl) (by intro _ _ _ h; exact h) (Or.inr ⟨by rfl, rfl⟩) hH ?_
  simp only [Act.put, List.setIfInBounds_toArray, List.set_cons_zero, List.set_cons_succ]
  refine wpAnyH_take (i := 9) (v := undef) (by simp only [List.getElem?_toArray, List.getElem?_cons_succ, List.getElem?_cons_zero]; rfl) (by kernel_rfl) (by kernel_rfl) (by kernel_rfl) (by intro _ _ _ h; exact h) (Or.inr ⟨by rfl, rfl⟩) hH ?_
  simp only [Act.put, List.setIfInBounds_toArray, List.set_cons_zero, List.set_cons_succ]
  refine wpAnyH_take (i := 10) (v := undef) (by simp only [List.getElem?_toArray, List.getElem?_cons_succ, List.getElem?_cons_zero]; rfl) (by kernel_rfl) (by kernel_rfl) (by kernel_rfl) (by intro _ _ _ h; exact h) (Or.inr ⟨by rfl, rfl⟩) hH ?_
  simp only [Act.put, List.setIfInBounds_toArray, List.set_cons_zero, List.set_cons_succ]
  refine wpAnyH_take (i := 11) (v := .bool false) (by simp only [List.getElem?_toArray, List.getElem?_cons_succ, List.getElem?_cons_zero]; rfl) (by kernel_rfl) (by kernel_rfl) (by kernel_rfl) (by intro _ _ _ h; exact h) (Or.inl ⟨by rfl, fun w hS => by go_simp⟩) hH ?_
  simp only [Act.put, List.setIfInBounds_toArray, List.set_cons_zero, List.set_cons_succ]
  refine wpAnyH_done (by kernel_rfl) ?_ _
  replace BB := hid (BB.out.trans (hH.mono BB.out.size))
  replace VW := hid (var_below hH VW.out)
  clear hH ta
  go_wp2
  try simp only [Exit.inBlock, Exit.then]
  refine bodyPost_ret (two_res rfl _ _ _) rfl ?_
  exact ⟨_, rfl, ⟨gw, rfl, VW.out⟩, BB.out⟩
theorem nah5 (g : Nat) (w : World) : (nilAhead Try.prog.depth 107 (.pointer (some ⟨g, 0, none⟩)) "loop.example/g00725/impl.message").run Try.prog w = .ok (some false) w := by kernel_rfl
theorem met5 (g : Nat) (w : World) : (method Try.prog.depth 107 (.pointer (some ⟨g, 0, none⟩)) "loop.example/g00725/impl.message").run Try.prog w = .ok (96, .pointer (some ⟨g, 0, none⟩)) w := by kernel_rfl
set_option maxHeartbeats 2000000 in
set_option maxRecDepth 100000 in
theorem wof5 (s n cn ci cs cm op id' code : Int) (v : Value) (l : List Nat) (w : World) (h : Rd w v l) (hc : mF ⟨5, s, n, cn, ci, cs, cm, op, id', l⟩ code) :
    Calls Try.prog 53 #[.agg #[.int .i64 5, .int .i64 s, .int .i64 n, .int .i64 cn, .int .i64 ci, .int .i64 cs, .int .i64 cm, .int .i64 op, .int .i64 id', v]] w fun e w' => ∃ u, e = .returned (.tuple #[u, .int .i64 code]) ∧ (code = 0 → ∃ g, u = .iface 107 (.pointer (some ⟨g, 0, none⟩)) ∧ w'.heap[g]? = some (.cells #[.int .i64 op, .int .i64 id', v] 110)) ∧ Below w.heap.size w w' := by
  have H := hid h
  have HC := hid hc
  obtain ⟨a, c, rfl, -, -, -⟩ := h.parts
  clear h hc
  obtain ⟨t, ht⟩ : ∃ t, Hid (smQ ⟨5, 0, 0, 0, 0, 0, 0, op, id', l⟩ ⟨5, s, n, cn, ci, cs, cm, op, id', l⟩ t) := smQ_some _ _
  go_enter Try.func53, Try.ntmps53
  go_wp2_with fail
  have V := hid (heap_alloc_new w (.cells #[.int .i64 5, .int .i64 s, .int .i64 n, .int .i64 cn, .int .i64 ci, .int .i64 cs, .int .i64 cm, .int .i64 op, .int .i64 id', .slice a l.length c] 45))
  have BB := hid (below_alloc1 w (.cells #[.int .i64 5, .int .i64 s, .int .i64 n, .int .i64 cn, .int .i64 ci, .int .i64 cs, .int .i64 cm, .int .i64 op, .int .i64 id', .slice a l.length c] 45))
  replace H := hid (H.out.below BB.out)
  generalize w.alloc (.cells #[.int .i64 5, .int .i64 s, .int .i64 n, .int .i64 cn, .int .i64 ci, .int .i64 cs, .int .i64 cm, .int .i64 op, .int .i64 id', .slice a l.length c] 45) = w0 at *
  obtain ⟨g, hg⟩ : ∃ g, g = w.heap.size := ⟨_, rfl⟩
  rw [← hg] at V ⊢
  replace hg := hid hg
  refine (str5 _ _ _ _ _ _ _ _ _ _ _ _).mono ?_
  rintro e w1 ⟨gw, rfl, hW, hB⟩
  replace V := hid (var_below hB V.out)
  replace BB := hid (BB.out.trans (hB.mono BB.out.size))
  replace H := hid (H.out.below hB)
  have VW := hid hW
  clear hB hW
  have na := nah5 gw
  have me := met5 gw
  obtain ⟨⟨f0, f1, f2, f3, f4, f5, f6, f7, f8, f9⟩, -⟩ := v10_facts V.out
  go_wp2_with fail
  refine wp_region_held_drew (S := fun w' => Below w1.heap.size w1 w') (by kernel_rfl) (Below.refl _ _).drew (fun hH => ?_)
  replace VW := hid (show w1.drew.heap[gw]? = _ from VW.out)
  replace H := hid (show Rd w1.drew _ l from H.out.below (Below.refl _ _).drew)
  generalize w1.drew = x at *
  refine wpAnyH_take (i := 0) (v := .iface 107 (.pointer (some ⟨gw, 0, none⟩))) (by simp only [List.getElem?_toArray, List.getElem?_cons_zero]; rfl) (by kernel_rfl) (by kernel_rfl) (by kernel_rfl) (by intro _ _ _ h; exact h) (Or.inl ⟨by rfl, fun w hS => by go_simp⟩) hH ?_
  simp only [Act.put, List.setIfInBounds_toArray, List.set_cons_zero, List.set_cons_succ]
  refine wpAnyH_take (i := 1) (v := .bool false) (by simp only [List.getElem?_toArray, List.getElem?_cons_succ, List.getElem?_cons_zero]; rfl) (by kernel_rfl) (by kernel_rfl) (by kernel_rfl) (by intro _ _ _ h; exact h) (Or.inl ⟨by rfl, fun w hS => by go_simp⟩) hH ?_
  simp only [Act.put, List.setIfInBounds_toArray, List.set_cons_zero, List.set_cons_succ]
  refine wpAnyH_take (i := 2) (v := .bool false) (by simp only [List.getElem?_toArray, List.getElem?_cons_succ, List.getElem?_cons_zero]; rfl) (by kernel_rfl) (by kernel_rfl) (by kernel_rfl) (by intro _ _ _ h; exact h) (Or.inl ⟨by rfl, fun w hS => by go_simp⟩) hH ?_
  simp only [Act.put, List.setIfInBounds_toArray, List.set_cons_zero, List.set_cons_succ]
  refine wpAnyH_take (i := 3) (v := .iface 107 (.pointer (some ⟨gw, 0, none⟩))) (by simp only [List.getElem?_toArray, List.getElem?_cons_succ, List.getElem?_cons_zero]; rfl) (by kernel_rfl) (by kernel_rfl) (by kernel_rfl) (by intro _ _ _ h; exact h) (Or.inl ⟨by rfl, fun w hS => by go_simp⟩) hH ?_
  simp only [Act.put, List.setIfInBounds_toArray, List.set_cons_zero, List.set_cons_succ]
  refine wpAnyH_take (i := 5) (v := .agg #[.int .i64 5, .int .i64 s, .int .i64 n, .int .i64 cn, .int .i64 ci, .int .i64 cs, .int .i64 cm, .int .i64 op, .int .i64 id', .slice a l.length c]) (by simp only [List.getElem?_toArray, List.getElem?_cons_succ, List.getElem?_cons_zero]; rfl) (by kernel_rfl) (by kernel_rfl) (by kernel_rfl) (by intro _ _ _ h; exact h) (Or.inl ⟨by rfl, fun w hS => by (have y0 := cell_kept hS f0; have y1 := cell_kept hS f1; have y2 := cell_kept hS f2; have y3 := cell_kept hS f3; have y4 := cell_kept hS f4; have y5 := cell_kept hS f5; have y6 := cell_kept hS f6; have y7 := cell_kept hS f7; have y8 := cell_kept hS f8; have y9 := cell_kept hS f9; go_simp)⟩) hH ?_
  simp only [Act.put, List.setIfInBounds_toArray, List.set_cons_zero, List.set_cons_succ]
  refine wpAnyH_ready (rs := [4]) (by kernel_rfl) (by simp) ?_
  refine AllReadyH.cons (by simp only [List.getElem?_toArray, List.getElem?_cons_succ, List.getElem?_cons_zero]; rfl) (fun K hK => ?_) AllReadyH.nil
  go_simp
  refine (msg5 gw _ _ _ _ _ _ VW.out).mono ?_
  rintro e x4 ⟨rfl, hM⟩
  have SB := hid hH.size
  refine hK.out _ _ (hH.trans (hM.mono hH.size)) (fun hH => ?_)
  clear hK K
  replace H := hid (H.out.below hM)
  replace VW := hid (var_below hM VW.out)
  clear hM SB
  refine wpAnyH_ready (rs := [6]) (by kernel_rfl) (by simp) ?_
  refine AllReadyH.cons (by simp only [List.getElem?_toArray, List.getElem?_cons_succ, List.getElem?_cons_zero]; rfl) (fun K hK => ?_) AllReadyH.nil
  go_simp
  refine (smm _ _ _ _ _ _ _ _ _ _ _ _ _ _ _ _ _ _ _ _ l l _ H.out H.out t ht.out).mono ?_
  rintro e x6 ⟨rfl, hM⟩
  have SB := hid hH.size
  refine hK.out _ _ (hH.trans (hM.mono hH.size)) (fun hH => ?_)
  clear hK K
  replace H := hid (H.out.below hM)
  replace VW := hid (var_below hM VW.out)
  clear hM SB
  refine wpAnyH_take (i := 7) (v := .bool (!t)) (by simp only [List.getElem?_toArray, List.getElem?_cons_succ, List.getElem?_cons_zero]; rfl) (by kernel_rfl) (by kernel_rfl) (by kernel_rfl) (by intro _ _ _ h; exact h) (Or.inl ⟨by rfl, fun w hS => by go_simp⟩) hH ?_
  simp only [Act.put, List.setIfInBounds_toArray, List.set_cons_zero, List.set_cons_succ]
  refine wpAnyH_take (i := 8) (v := .bool (!t)) (by simp only [List.getElem?_toArray, List.getElem?_cons_succ, List.getElem?_cons_zero]; rfl) (by kernel_rfl) (by kernel_rfl) (by kernel_rfl) (by intro _ _ _ h; exact h) (Or.inl ⟨by rfl, fun w hS => by go_simp⟩) hH ?_
  simp only [Act.put, List.setIfInBounds_toArray, List.set_cons_zero, List.set_cons_succ]
  refine wpAnyH_done (by kernel_rfl) ?_ _
  clear f0 f1 f2 f3 f4 f5 f6 f7 f8 f9 na me
  replace BB := hid (BB.out.trans (hH.mono BB.out.size))
  clear hH V
  have FO := hid (form5 ht.out)
  clear ht
  cases t
  case false =>
    obtain rfl := mF_form HC.out (fun q => by have := FO.out.2 q; cases this)
    clear FO HC
    go_wp2
    refine bodyPost_ret (two_res rfl _ _ _) rfl ?_
    exact ⟨_, rfl, fun q => absurd q (by decide), BB.out⟩
  replace FO := hid (FO.out.1 rfl)
  go_wp2_with fail
  refine (nums5 gw _).mono ?_
  rintro e w2 ⟨vn, rfl, hR, hB⟩
  replace BB := hid (BB.out.trans (hB.mono BB.out.size))
  replace H := hid (H.out.below hB)
  replace VW := hid (var_below hB VW.out)
  obtain ⟨gn, rfl, -, -⟩ := hR.parts
  have R := hid hR
  clear hB hR
  go_wp2_with fail
  refine (nfit _ _ _ _ R.out (kpw5 VW.out)).mono ?_
  rintro e w3 ⟨rfl, hB⟩
  replace BB := hid (BB.out.trans (hB.mono BB.out.size))
  replace VW := hid (var_below hB VW.out)
  clear hB R
  have FI := hid (fits5 (s := s) (n := n) (cn := cn) (ci := ci) (cs := cs) (cm := cm) (op := op) (id' := id') (l := l) (g := gw))
  generalize fitB _ _ = t at *
  cases t
  case false =>
    obtain rfl := mF_fit HC.out FO.out (fun q => by have := FI.out.2 q; cases this)
    clear FO HC FI
    go_wp2
    refine bodyPost_ret (two_res rfl _ _ _) rfl ?_
    exact ⟨_, rfl, fun q => absurd q (by decide), BB.out⟩
  replace FI := hid (FI.out.1 rfl)
  have ta : ∀ w : World, (Instr.typeAssert (.iface 107 (.pointer (some ⟨gw, 0, none⟩))) 85 107 true).run Try.prog w = .ok (.tuple #[.pointer (some ⟨gw, 0, none⟩), .bool true]) w := fun _ => by kernel_rfl
  obtain ⟨⟨r0, r1, r2⟩, -⟩ := var3_facts VW.out
  obtain ⟨nd, hnd⟩ : ∃ x : Int, Hid (x = if op = 1 then 16 else 0) := ⟨_, rfl⟩
  go_wp2_with fail
  refine wp_region_held_drew (S := fun w' => Below w3.heap.size w3 w') (by kernel_rfl) (Below.refl _ _).drew (fun hH => ?_)
  generalize w3.drew = x at hH ⊢
  refine wpAnyH_take (i := 0) (v := .bool true) (by simp only [List.getElem?_toArray, List.getElem?_cons_zero]; rfl) (by kernel_rfl) (by kernel_rfl) (by kernel_rfl) (by intro _ _ _ h; exact h) (Or.inl ⟨by rfl, fun w hS => by go_simp⟩) hH ?_
  simp only [Act.put, List.setIfInBounds_toArray, List.set_cons_zero, List.set_cons_succ]
  refine wpAnyH_take (i := 1) (v := .bool true) (by simp only [List.getElem?_toArray, List.getElem?_cons_succ, List.getElem?_cons_zero]; rfl) (by kernel_rfl) (by kernel_rfl) (by kernel_rfl) (by intro _ _ _ h; exact h) (Or.inl ⟨by rfl, fun w hS => by go_simp⟩) hH ?_
  simp only [Act.put, List.setIfInBounds_toArray, List.set_cons_zero, List.set_cons_succ]
  refine wpAnyH_take (i := 2) (v := .pointer (some ⟨gw, 0, none⟩)) (by simp only [List.getElem?_toArray, List.getElem?_cons_succ, List.getElem?_cons_zero]; rfl) (by kernel_rfl) (by kernel_rfl) (by kernel_rfl) (by intro _ _ _ h; exact h) (Or.inl ⟨by rfl, fun w hS => by go_simp⟩) hH ?_
  simp only [Act.put, List.setIfInBounds_toArray, List.set_cons_zero, List.set_cons_succ]
  refine wpAnyH_take (i := 3) (v := .pointer (some ⟨gw, 0, none⟩)) (by simp only [List.getElem?_toArray, List.getElem?_cons_succ, List.getElem?_cons_zero]; rfl) (by kernel_rfl) (by kernel_rfl) (by kernel_rfl) (by intro _ _ _ h; exact h) (Or.inl ⟨by rfl, fun w hS => by go_simp⟩) hH ?_
  simp only [Act.put, List.setIfInBounds_toArray, List.set_cons_zero, List.set_cons_succ]
  refine wpAnyH_take (i := 4) (v := .pointer (some ⟨gw, 1, none⟩)) (by simp only [List.getElem?_toArray, List.getElem?_cons_succ, List.getElem?_cons_zero]; rfl) (by kernel_rfl) (by kernel_rfl) (by kernel_rfl) (by intro _ _ _ h; exact h) (Or.inl ⟨by rfl, fun w hS => by go_simp⟩) hH ?_
  simp only [Act.put, List.setIfInBounds_toArray, List.set_cons_zero, List.set_cons_succ]
  refine wpAnyH_take (i := 5) (v := .pointer (some ⟨gw, 2, none⟩)) (by simp only [List.getElem?_toArray, List.getElem?_cons_succ, List.getElem?_cons_zero]; rfl) (by kernel_rfl) (by kernel_rfl) (by kernel_rfl) (by intro _ _ _ h; exact h) (Or.inl ⟨by rfl, fun w hS => by go_simp⟩) hH ?_
  simp only [Act.put, List.setIfInBounds_toArray, List.set_cons_zero, List.set_cons_succ]
  refine wpAnyH_take (i := 6) (v := .slice a l.length c) (by simp only [List.getElem?_toArray, List.getElem?_cons_succ, List.getElem?_cons_zero]; rfl) (by kernel_rfl) (by kernel_rfl) (by kernel_rfl) (by intro _ _ _ h; exact h) (Or.inl ⟨by rfl, fun w hS => by (have y0 := cell_kept hS r2; go_simp)⟩) hH ?_
  simp only [Act.put, List.setIfInBounds_toArray, List.set_cons_zero, List.set_cons_succ]
  refine wpAnyH_take (i := 7) (v := .int .i64 (l.length : Int)) (by simp only [List.getElem?_toArray, List.getElem?_cons_succ, List.getElem?_cons_zero]; rfl) (by kernel_rfl) (by kernel_rfl) (by kernel_rfl) (by intro _ _ _ h; exact h) (Or.inl ⟨by rfl, fun w hS => by go_simp⟩) hH ?_
  simp only [Act.put, List.setIfInBounds_toArray, List.set_cons_zero, List.set_cons_succ]
  refine wpAnyH_take (i := 8) (v := .pointer (some ⟨gw, 0, none⟩)) (by simp only [List.getElem?_toArray, List.getElem?_cons_succ, List.getElem?_cons_zero]; rfl) (by kernel_rfl) (by kernel_rfl) (by kernel_rfl) (by intro _ _ _ h; exact h) (Or.inl ⟨by rfl, fun w hS => by go_simp⟩) hH ?_
  simp only [Act.put, List.setIfInBounds_toArray, List.set_cons_zero, List.set_cons_succ]
  refine wpAnyH_ready (rs := [9]) (by kernel_rfl) (by simp) ?_
  refine AllReadyH.cons (by simp only [List.getElem?_toArray, List.getElem?_cons_succ, List.getElem?_cons_zero]; rfl) (fun K hK => ?_) AllReadyH.nil
  go_simp
  refine (bneed gw op nd _ (cell_kept hH r0) hnd.out).mono ?_
  rintro e x9 ⟨rfl, hM⟩
  have SB := hid hH.size
  refine hK.out _ _ (hH.trans (hM.mono hH.size)) (fun hH => ?_)
  clear hK K
  clear hM SB
  refine wpAnyH_take (i := 10) (v := .bool ((l.length : Int) != nd)) (by simp only [List.getElem?_toArray, List.getElem?_cons_succ, List.getElem?_cons_zero]; rfl) (by kernel_rfl) (by kernel_rfl) (by kernel_rfl) (by intro _ _ _ h; exact h) (Or.inl ⟨by rfl, fun w hS => by go_simp⟩) hH ?_
  simp only [Act.put, List.setIfInBounds_toArray, List.set_cons_zero, List.set_cons_succ]
  refine wpAnyH_take (i := 11) (v := .bool ((l.length : Int) != nd)) (by simp only [List.getElem?_toArray, List.getElem?_cons_succ, List.getElem?_cons_zero]; rfl) (by kernel_rfl) (by kernel_rfl) (by kernel_rfl) (by intro _ _ _ h; exact h) (Or.inl ⟨by rfl, fun w hS => by go_simp⟩) hH ?_
  simp only [Act.put, List.setIfInBounds_toArray, List.set_cons_zero, List.set_cons_succ]
  refine wpAnyH_done (by kernel_rfl) ?_ _
  replace BB := hid (BB.out.trans (hH.mono BB.out.size))
  replace VW := hid (var_below hH VW.out)
  clear hH r0 r1 r2 ta
  have FL := hid (len_iff (s := s) (n := n) (cn := cn) (ci := ci) (cs := cs) (cm := cm) (op := op) (id' := id') (l := l) hnd.out)
  obtain ⟨t, ht⟩ : ∃ t, t = ((l.length : Int) != nd) := ⟨_, rfl⟩
  rw [← ht] at FL ⊢
  clear ht
  cases t
  case true =>
    obtain rfl := mF_len HC.out FO.out FI.out (fun q => by have := FL.out.2 q; cases this)
    clear FO HC FI FL
    go_wp2
    try simp only [Exit.inBlock, Exit.then]
    refine bodyPost_ret (two_res rfl _ _ _) rfl ?_
    exact ⟨_, rfl, fun q => absurd q (by decide), BB.out⟩
  obtain rfl := mF_ok HC.out FO.out FI.out (FL.out.1 rfl)
  clear FO HC FI FL
  go_wp2
  try simp only [Exit.inBlock, Exit.then]
  refine bodyPost_ret (two_res rfl _ _ _) rfl ?_
  exact ⟨_, rfl, ⟨gw, rfl, VW.out⟩, BB.out⟩
end Go.Proofs.Ytifgcffifffdnam.W
