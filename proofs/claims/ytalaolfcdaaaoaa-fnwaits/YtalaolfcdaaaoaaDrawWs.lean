/-
  How waits are drawn for SameWaits. Generated text.
-/
import Derived.Test.YtalaolfcdaaaoaaAppJg
import Derived.Test.YtalaolfcdaaaoaaDrawWb
namespace Go.Proofs.Ytalaolfcdaaaoaa.W
open Go.ChangeShapes Go.WideShapes Go.ChangeAt Go.RowKit
open Go.Proofs.Ytalaolfcdaaaoaa.M

theorem ne_own {v u : Value} {n : Nat} (h1 : ∀ b, v.ownBlock = some b → b < n) (h2 : ∀ b, u.ownBlock = some b → n ≤ b) : v.ownBlock = none ∨ v.ownBlock ≠ u.ownBlock := by
  cases e : v.ownBlock with
  | none => exact .inl rfl
  | some b => exact .inr (fun q => by have := h1 b e; have := h2 b q.symm; omega)
theorem rowJ_setE : ∀ (cs : List Wai) (j : Nat) (hj : j < cs.length) (x : Int), (rowJ cs).set (j * 7 + 4) (.int .i64 x) = rowJ (cs.set j ⟨cs[j].a, cs[j].b, cs[j].c, cs[j].d, x, cs[j].f, cs[j].g⟩)
  | [], j, hj, _ => by simp at hj
  | c :: cs, 0, _, x => rfl
  | c :: cs, j + 1, hj, x => by
    rw [rowJ, setJ_right, rowJ_setE cs j (by simpa using hj) x]
    rfl
theorem OwJ.setEj {w : World} {base g cap n : Nat} {cs : List Wai} (hn : cs.length = n) (h : OwJ w base (.slice (some ⟨g, 0, none⟩) n cap) cs) (j : Nat) (hj : j < cs.length) (x : Int) :
    RdJ (w.setCell ⟨g, j * 7 + 4, none⟩ (.int .i64 x)) (.slice (some ⟨g, 0, none⟩) n cap) (cs.set j ⟨cs[j].a, cs[j].b, cs[j].c, cs[j].d, x, cs[j].f, cs[j].g⟩) := by
  subst hn
  have h1 := (World.ownsRow.stored h (j * 7 + 4) (.int .i64 x)).1
  rw [rowJ_setE cs j hj x] at h1
  have h2 : OwJ (w.setCell ⟨g, j * 7 + 4, none⟩ (.int .i64 x)) base (.slice (some ⟨g, 0, none⟩) cs.length cap) (cs.set j ⟨cs[j].a, cs[j].b, cs[j].c, cs[j].d, x, cs[j].f, cs[j].g⟩) := by
    unfold OwJ
    rw [List.length_set]
    exact h1
  exact h2.rd
set_option maxHeartbeats 8000000 in
set_option maxRecDepth 100000 in
theorem drSw (v : Value) (l : List Nat) (w : World) (h : Rd w v l) (y : Byt l) (hl : l.length ≤ 1048576) :
    Calls Try.prog 22 #[v] w fun e w' => ∃ (u u' : Value) (cs ds : List Wai), e = .returned (.tuple #[u, u']) ∧ RdJ w' u cs ∧ RdJ w' u' ds ∧ Below w.heap.size w w' := by
  have RC := hid h
  obtain ⟨q, cap, rfl, -, -, -⟩ := h.parts
  clear h
  go_enter Try.func22, Try.ntmps22
  go_wp2_with fail
  refine (source _ l w RC.out y).mono ?_
  rintro e w1 ⟨rfl, hS⟩
  have S := hid hS
  clear hS
  obtain ⟨gs, hgs⟩ : ∃ q, q = w.heap.size := ⟨_, rfl⟩
  rw [← hgs] at S ⊢
  clear hgs
  go_wp2_with fail
  refine (l9b w w1 gs _ l 0 S.out (by omega) hl).mono ?_
  rintro e w2 ⟨u, cs, t', rfl, hO, hc, htt, hS, hG⟩
  obtain ⟨pu, cu, rfl, -, -, -⟩ := hO.rd.parts
  have GS := hid (show gs < w1.heap.size from var_lt S.out.cells)
  have OL := hid hO
  replace S := hid hS
  clear hO hS hG
  have GW2 := hid (show gs < w2.heap.size ∧ w.heap.size ≤ w2.heap.size from ⟨var_lt S.out.cells, S.out.bel.size⟩)
  have B3 := below_alloc1 w2 (.cells #[] 63)
  have O3 := hid (owJ_lit (base := w2.heap.size) (heap_alloc_new w2 (.cells #[] 63)) (Nat.le_refl _))
  have LB := hid (OL.out.lt)
  replace OL := hid (OL.out.below B3)
  replace S := hid (S.out.later B3)
  have Z3 := hid (show w2.heap.size ≤ (w2.alloc (.cells #[] 63)).heap.size by simp)
  clear B3
  have hc48 := hc.2
  go_wp2_with (at_builtin; refine list_appJg rfl _ _ rfl _ _ [] cs w2.heap.size rfl rfl O3.out OL.out.rd (by simp; omega) Z3.out ?_; intro v4 w4 hO hG; rw [List.nil_append] at hO; obtain ⟨pq, cq, rfl, -, -, -⟩ := hO.rd.parts; have O4 := hid hO; have OL4 := hid (OL.out.kept hG (ne_own (fun b e => (LB.out b e).2) (fun b e => (O3.out.lt b e).1))); have S4 := hid (S.out.grown hG (fun e => by have := (O3.out.lt gs e.symm).1; have := GW2.out; omega) (fun b e => by have := (O3.out.lt b e).1; have := GW2.out; omega)))
  clear hO hG O3 Z3 OL S
  refine (chance w w4 gs _ l _ 2 S4.out (by omega) (by omega) hl).mono ?_
  rintro e w5 ⟨r, rfl, hS, hG⟩
  replace OL := hid (OL4.out.keepG hG GS.out)
  have O5 := hid (O4.out.keepG hG GW2.out.1)
  have S := hid hS
  clear hS hG S4 O4 OL4
  cases r
  · go_wp2
    go_ret2
    exact ⟨.slice pu cs.length cu, .slice pq cs.length cq, cs, cs, rfl, OL.out.rd, O5.out.rd, S.out.bel⟩
  · go_wp2_with fail
    refine (next w w5 gs _ l _ cs.length S.out (by omega) (by omega) hl).mono ?_
    rintro e w6 ⟨r, rfl, hr, hS, hG⟩
    obtain ⟨k, rfl, hk⟩ : ∃ k : Nat, r = (k : Int) ∧ k < cs.length := ⟨r.toNat, by have := hr (by omega); omega, by have := hr (by omega); omega⟩
    clear hr
    replace OL := hid (OL.out.keepG hG GS.out)
    replace O5 := hid (O5.out.keepG hG GW2.out.1)
    replace S := hid hS
    clear hS hG
    have VL := hid (show Lst (w6.alloc (.cells #[.int .i64 1, .int .i64 7] 2)) w6.heap.size [1, 7] from heap_alloc_new w6 (.cells #[.int .i64 1, .int .i64 7] 2))
    have BA := below_alloc1 w6 (.cells #[.int .i64 1, .int .i64 7] 2)
    have NG := hid (show w6.heap.size ≠ gs by have := var_lt S.out.cells; omega)
    replace S := hid (S.out.later BA)
    replace OL := hid (OL.out.below BA)
    replace O5 := hid (O5.out.below BA)
    clear BA
    go_wp2_with fail
    refine (pick' w _ gs w6.heap.size 2 _ l _ [1, 7] S.out (by omega) hl VL.out NG.out rfl (by omega) (by omega)).mono ?_
    rintro e w7 ⟨x, -, rfl, hS, hG⟩
    replace OL := hid (OL.out.keepG hG GS.out)
    replace O5 := hid (O5.out.keepG hG GW2.out.1)
    replace S := hid hS
    clear hS hG VL NG
    obtain ⟨gu, eu⟩ : ∃ q, Value.slice pq cs.length cq = .slice (some ⟨q, 0, none⟩) cs.length cq := by
      rcases O5.out.2 with ⟨-, e0⟩ | ⟨q, cp, cur, e0, -⟩
      · omega
      · cases e0; exact ⟨q, rfl⟩
    cases eu
    have GU := hid (O5.out.lt gu rfl)
    obtain ⟨dd, fz⟩ := O5.out.open rfl k hk
    have d4 := dd 4 _ rfl
    have z4 := fz (k * 7 + 4)
    have I2 := idx_ji gu 0 cs.length cq k hk
    simp only [Nat.zero_add] at I2
    have N5 := hid (O5.out.setEj rfl k hk x)
    have NL := hid (OL.out.setNj (g := gu) (i := k * 7 + 4) (x := .int .i64 x) (fun b e => by have := (LB.out b e).2; have := GU.out.1; omega))
    have NS := hid (src_set (i := k * 7 + 4) (V := gu) S.out (by have := GU.out; have := GW2.out; omega) (by have := GU.out; have := GW2.out; omega) (.int .i64 x))
    clear dd fz OL S O5
    go_wp2
    go_ret2
    exact ⟨.slice pu cs.length cu, _, cs, _, rfl, NL.out.rd, N5.out, NS.out.bel⟩
end Go.Proofs.Ytalaolfcdaaaoaa.W
