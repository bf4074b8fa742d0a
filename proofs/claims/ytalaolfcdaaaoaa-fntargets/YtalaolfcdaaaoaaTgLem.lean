/-
  What the law of targets asks of NextTarget: whoever asks one after the other asks all others, each one once a turn. Lists alone.
-/
import Derived.Test.YtalaolfcdaaaoaaNxF
import Derived.Test.YtalaolfcdaaaoaaHpF
namespace Go.Proofs.Ytalaolfcdaaaoaa.W
open Go.Proofs.Ytalaolfcdaaaoaa.M

/-- The nodes of a view but self. -/
def oN (self : Int) (cs : List Clm) : List Int := (cs.filter (fun c => decide (c.n ≠ self))).map (·.n)
def abL (last : Int) : List Int → Int
  | [] => -1
  | x :: r => if last < x then x else abL last r
def hdL : List Int → Int
  | [] => -1
  | x :: _ => x
def nxL (ns : List Int) (last : Int) : Int := if 0 ≤ abL last ns then abL last ns else hdL ns
def itL (ns : List Int) (last : Int) : Nat → Int
  | 0 => last
  | k + 1 => nxL ns (itL ns last k)
def seenL (ns : List Int) (last : Int) (i : Nat) : List Int := (List.range i).map fun k => itL ns last (k + 1)
theorem oN_no {self : Int} {c : Clm} {r : List Clm} (h : c.n = self) : oN self (c :: r) = oN self r := by simp [oN, h]
theorem oN_yes {self : Int} {c : Clm} {r : List Clm} (h : c.n ≠ self) : oN self (c :: r) = c.n :: oN self r := by simp [oN, h]
theorem loN_oN (self : Int) : ∀ cs : List Clm, loN self cs = hdL (oN self cs)
  | [] => rfl
  | c :: r => by
    rw [loN]
    by_cases h : c.n = self
    · rw [if_pos h, oN_no h, loN_oN self r]
    · rw [if_neg h, oN_yes h]; rfl
theorem abN_oN (self last : Int) : ∀ cs : List Clm, abN self last cs = abL last (oN self cs)
  | [] => rfl
  | c :: r => by
    rw [abN]
    by_cases h : c.n = self
    · rw [if_pos h, oN_no h, abN_oN self last r]
    · rw [if_neg h, oN_yes h, abL, abN_oN self last r]
theorem nxN_oN (self last : Int) (cs : List Clm) : nxN self last cs = nxL (oN self cs) last := by
  unfold nxN nxL
  rw [abN_oN, loN_oN]
def okT (ns : List Int) (last : Int) : Bool :=
  ((List.range ns.length).all fun i => ns.contains (itL ns last (i + 1)) && (List.range i).all fun k => itL ns last (k + 1) != itL ns last (i + 1)) && (ns.length == 0 || itL ns last (ns.length + 1) == itL ns last 1)
theorem okT_all {ns : List Int} {last : Int} (hs : ns.Pairwise (· < ·)) (hr : ∀ x ∈ ns, 0 ≤ x ∧ x ≤ 3) (h0 : -1 ≤ last) (h1 : last ≤ 3) : okT ns last = true := by
  have hl : last = -1 ∨ last = 0 ∨ last = 1 ∨ last = 2 ∨ last = 3 := by omega
  clear h0 h1
  rcases ns with _ | ⟨a, _ | ⟨b, _ | ⟨c, _ | ⟨d, _ | ⟨e, r⟩⟩⟩⟩⟩ <;> simp only [List.pairwise_cons, List.mem_cons, List.not_mem_nil, or_false, forall_eq_or_imp, forall_eq, false_implies, implies_true, and_true, List.Pairwise.nil] at hs hr
  · rcases hl with rfl | rfl | rfl | rfl | rfl <;> decide
  · have q : a = 0 ∨ a = 1 ∨ a = 2 ∨ a = 3 := by omega
    clear hs hr
    rcases q with rfl | rfl | rfl | rfl <;> rcases hl with rfl | rfl | rfl | rfl | rfl <;> decide
  · have q : (a = 0 ∧ b = 1) ∨ (a = 0 ∧ b = 2) ∨ (a = 0 ∧ b = 3) ∨ (a = 1 ∧ b = 2) ∨ (a = 1 ∧ b = 3) ∨ (a = 2 ∧ b = 3) := by omega
    clear hs hr
    rcases q with ⟨rfl, rfl⟩ | ⟨rfl, rfl⟩ | ⟨rfl, rfl⟩ | ⟨rfl, rfl⟩ | ⟨rfl, rfl⟩ | ⟨rfl, rfl⟩ <;> rcases hl with rfl | rfl | rfl | rfl | rfl <;> decide
  · have q : (a = 0 ∧ b = 1 ∧ c = 2) ∨ (a = 0 ∧ b = 1 ∧ c = 3) ∨ (a = 0 ∧ b = 2 ∧ c = 3) ∨ (a = 1 ∧ b = 2 ∧ c = 3) := by omega
    clear hs hr
    rcases q with ⟨rfl, rfl, rfl⟩ | ⟨rfl, rfl, rfl⟩ | ⟨rfl, rfl, rfl⟩ | ⟨rfl, rfl, rfl⟩ <;> rcases hl with rfl | rfl | rfl | rfl | rfl <;> decide
  · have q : a = 0 ∧ b = 1 ∧ c = 2 ∧ d = 3 := by omega
    clear hs hr
    obtain ⟨rfl, rfl, rfl, rfl⟩ := q
    rcases hl with rfl | rfl | rfl | rfl | rfl <;> decide
  · exfalso
    omega
theorem clC_n {c : Clm} (h : clC c = 0) : 0 ≤ c.n ∧ c.n ≤ 3 := by
  unfold clC clF at h
  split at h
  · rename_i q
    simp only [inB, decide_eq_true_eq] at q
    exact q.1
  · cases h
theorem oN_mem {self : Int} {cs : List Clm} {x : Int} (h : x ∈ oN self cs) : ∃ c ∈ cs, c.n = x ∧ x ≠ self := by
  unfold oN at h
  obtain ⟨c, hc, e⟩ := List.mem_map.1 h
  obtain ⟨h1, h2⟩ := List.mem_filter.1 hc
  refine ⟨c, h1, e, ?_⟩
  rw [← e]
  simpa using h2
theorem oN_sort {self : Int} {cs : List Clm} (h : cs.Pairwise (fun a b => a.n < b.n)) : (oN self cs).Pairwise (· < ·) := by
  unfold oN
  rw [List.pairwise_map]
  exact h.filter _
theorem oN_len (self : Int) (cs : List Clm) : (oN self cs).length ≤ cs.length := by
  unfold oN
  rw [List.length_map]
  exact List.length_filter_le _ _
theorem oN_next {self : Int} {cs : List Clm} {k : Nat} (hk : k < cs.length) :
    (cs[k].n ≠ self → (oN self (cs.take (k + 1))).length = (oN self (cs.take k)).length + 1) ∧ (cs[k].n = self → (oN self (cs.take (k + 1))).length = (oN self (cs.take k)).length) := by
  unfold oN
  rw [List.take_succ_eq_append_getElem hk, List.filter_append, List.map_append]
  constructor <;> intro h <;> simp [h]
theorem fc_mem {cs : List Clm} {n : Int} (h : vF cs = 0) (hm : ∃ c ∈ cs, c.n = n) : fcC cs n = 0 := by
  have hh : hasN cs n = true := by
    obtain ⟨c, hc, rfl⟩ := hm
    cases e : hasN cs c.n with
    | true => rfl
    | false =>
      exfalso
      obtain ⟨i, hi, rfl⟩ := List.mem_iff_getElem.1 hc
      have h1 : lb cs cs[i].n ≤ i := by
        rcases Nat.lt_or_ge i (lb cs cs[i].n) with q | q
        · have := lb_low q; omega
        · exact q
      have h2 := hasN_no e (Nat.lt_of_le_of_lt h1 hi)
      rcases Nat.lt_or_ge (lb cs cs[i].n) i with q | q
      · have := List.pairwise_iff_getElem.1 (vF_ok h).2.2 _ _ (Nat.lt_of_le_of_lt h1 hi) hi q
        omega
      · have q2 : lb cs cs[i].n = i := by omega
        simp only [q2] at h2
        omega
  rw [fcC, if_neg (by simp [h]), if_pos hh]
/-- Of a first answer: all that is asked behind it. -/
theorem tg_law {cs : List Clm} {self last : Int} (h : (ntA cs self last).1 = 0) :
    cs.length ≤ 4 ∧ 0 < (oN self cs).length ∧ (∀ i, i < (oN self cs).length → ntA cs self (itL (oN self cs) last i) = (0, itL (oN self cs) last (i + 1)) ∧ itL (oN self cs) last (i + 1) ≠ self ∧ fcC cs (itL (oN self cs) last (i + 1)) = 0 ∧ ∀ k, k < i → itL (oN self cs) last (k + 1) ≠ itL (oN self cs) last (i + 1)) ∧
      ntA cs self (itL (oN self cs) last (oN self cs).length) = (0, itL (oN self cs) last 1) := by
  have hv : vF cs = 0 := by
    by_cases q : vF cs = 0
    · exact q
    · rw [nt_fault q] at h; exact absurd h q
  have hb : (inB self 0 3 && inB last (-1) 3) = true := by
    cases q : (inB self 0 3 && inB last (-1) 3) with
    | true => rfl
    | false => rw [nt_range hv q] at h; exact absurd h (by decide)
  have hn : nxN self last cs ≠ -1 := fun q => by rw [nt_none hv hb q] at h; exact absurd h (by decide)
  have bs : inB self 0 3 = true := by simp only [Bool.and_eq_true] at hb; exact hb.1
  have bl : -1 ≤ last ∧ last ≤ 3 := by simp only [Bool.and_eq_true, inB, decide_eq_true_eq] at hb; exact hb.2
  have hr : ∀ x ∈ oN self cs, 0 ≤ x ∧ x ≤ 3 := fun x hx => by
    obtain ⟨c, hc, rfl, -⟩ := oN_mem hx
    exact clC_n ((vF_ok hv).2.1 c hc)
  have ok := okT_all (oN_sort (vF_ok hv).2.2) hr bl.1 bl.2
  have h0 : 0 < (oN self cs).length := by
    rcases Nat.eq_zero_or_pos (oN self cs).length with q | q
    · rw [nxN_oN, List.eq_nil_of_length_eq_zero q] at hn
      exact absurd rfl hn
    · exact q
  obtain ⟨ns, hns⟩ : ∃ ns, ns = oN self cs := ⟨_, rfl⟩
  have hN : ∀ t, nxN self t cs = nxL ns t := fun t => by rw [hns]; exact nxN_oN self t cs
  have hM : ∀ x ∈ ns, ∃ c ∈ cs, c.n = x ∧ x ≠ self := fun x hx => oN_mem (by rw [← hns]; exact hx)
  rw [← hns] at ok h0 hr ⊢
  unfold okT at ok
  simp only [Bool.and_eq_true, List.all_eq_true, List.mem_range, List.contains_eq_mem, decide_eq_true_eq, bne_iff_ne, ne_eq, Bool.or_eq_true, beq_iff_eq] at ok
  obtain ⟨ok1, ok2⟩ := ok
  have step : ∀ t, -1 ≤ t ∧ t ≤ 3 → 0 ≤ nxL ns t → ntA cs self t = (0, nxL ns t) := fun t ht hp => by
    rw [nt_some hv (by rw [bs, Bool.true_and]; simp only [inB, decide_eq_true_eq]; exact ht) (by rw [hN]; omega), hN]
  have inR : ∀ i, i ≤ ns.length → -1 ≤ itL ns last i ∧ itL ns last i ≤ 3 := fun i hi => by
    cases i with
    | zero => exact bl
    | succ k => have := hr _ (ok1 k (by omega)).1; omega
  refine ⟨(vF_ok hv).1, h0, fun i hi => ?_, ?_⟩
  · have m := (ok1 i hi).1
    obtain ⟨c, hc, e, hs⟩ := hM _ m
    have p := hr _ m
    exact ⟨step _ (inR i (by omega)) p.1, hs, fc_mem hv ⟨c, hc, e⟩, fun k hk => (ok1 i hi).2 k hk⟩
  · have e : itL ns last (ns.length + 1) = itL ns last 1 := by
      rcases ok2 with q | q
      · omega
      · exact q
    have p := hr _ (ok1 0 h0).1
    have e2 : nxL ns (itL ns last ns.length) = itL ns last 1 := e
    rw [step _ (inR _ (Nat.le_refl _)) (by rw [e2]; exact p.1), e2]
theorem seen_len (ns : List Int) (last : Int) (i : Nat) : (seenL ns last i).length = i := by simp [seenL]
theorem seen_succ (ns : List Int) (last : Int) (i : Nat) : seenL ns last (i + 1) = seenL ns last i ++ [itL ns last (i + 1)] := by simp [seenL, List.range_succ]
theorem seen_at (ns : List Int) (last : Int) (i k : Nat) (h : k < (seenL ns last i).length) : (seenL ns last i)[k] = itL ns last (k + 1) := by simp [seenL]
theorem seen_ne {ns : List Int} {last X : Int} {i : Nat} (h : ∀ k, k < i → itL ns last (k + 1) ≠ X) : ∀ j (hj : j < (seenL ns last i).length), ((seenL ns last i)[j] == X) = false := fun j hj => by
  rw [seen_at, beq_eq_false_iff_ne]
  exact h j (by rw [seen_len] at hj; exact hj)
theorem hp_most {cs : List Clm} {self target most : Int} (h : hpC cs self target most = 0) : ((hpR cs self target most).length : Int) ≤ most := by
  have hm : 0 ≤ most := by
    unfold hpC at h
    by_cases q : vF cs = 0
    · rw [if_pos q] at h
      by_cases r : (inB self 0 3 && (inB target 0 3 && inB most 0 4)) = true
      · simp only [Bool.and_eq_true, inB, decide_eq_true_eq] at r
        exact r.2.2.1
      · rw [if_neg r] at h; exact absurd h (by decide)
    · rw [if_neg q] at h; exact absurd h q
  rw [hpR, if_pos h, List.length_take]
  omega
end Go.Proofs.Ytalaolfcdaaaoaa.W
