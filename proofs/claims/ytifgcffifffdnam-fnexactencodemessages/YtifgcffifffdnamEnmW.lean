/-
  Messages as bytes: what EncodeMessage of the model and of the program answers.
-/
import Derived.Test.YtifgcffifffdnamPkwW
import Derived.Test.YtifgcffifffdnamSmfW
namespace Go.Proofs.Ytifgcffifffdnam.W
open Go.ChangeShapes Go.WideShapes Go.ChangeAt Go.RowKit
open Go.Proofs.Ytifgcffifffdnam.M

theorem nat_of {x lo hi : Int} (h : inB x lo hi = true) (h0 : 0 ≤ lo) : ∃ n : Nat, x = (n : Int) ∧ lo ≤ (n : Int) ∧ (n : Int) ≤ hi := by
  unfold inB at h
  have h := of_decide_eq_true h
  exact ⟨x.toNat, by omega, by omega, by omega⟩
/-- What a message without a fault is. -/
theorem ok_cases {m : Msg} (hc : mF m 0) :
    (∃ s n : Nat, m = ⟨1, s, n, 0, 0, 0, 0, 0, 0, []⟩ ∧ s ≤ 1000000 ∧ n ≤ 3 ∧ eB m = eP 1 s n) ∨
    (∃ s : Nat, m = ⟨2, s, 0, 0, 0, 0, 0, 0, 0, []⟩ ∧ s ≤ 1000000 ∧ eB m = eA s) ∨
    (∃ s n : Nat, m = ⟨3, s, n, 0, 0, 0, 0, 0, 0, []⟩ ∧ s ≤ 1000000 ∧ n ≤ 3 ∧ eB m = eP 3 s n) ∨
    (∃ cn ci cs cm : Nat, m = ⟨4, 0, 0, cn, ci, cs, cm, 0, 0, []⟩ ∧ cn ≤ 3 ∧ ci ≤ 1000000 ∧ cs ≤ 2 ∧ cm ≤ 9999999 ∧ eB m = eC cn ci cs cm) ∨
    (∃ op id' : Nat, m = ⟨5, 0, 0, 0, 0, 0, 0, op, id', m.l⟩ ∧ 1 ≤ op ∧ op ≤ 3 ∧ 1 ≤ id' ∧ id' ≤ 255 ∧ m.l.length ≤ 16 ∧ eB m = eK op id' m.l) := by
  obtain ⟨hf, hi, hl⟩ : mForm m ∧ mFit m ∧ mLen m := by
    rcases hc with ⟨-, e⟩ | ⟨-, -, e⟩ | ⟨-, -, -, e⟩ | ⟨a, b, c, -⟩
    · cases e
    · cases e
    · cases e
    · exact ⟨a, b, c⟩
  obtain ⟨k, s, n, cn, ci, cs, cm, op, id', l⟩ := m
  rcases hf with ⟨q | q, h1, h2, h3, h4, h5, h6, h7⟩ | ⟨q, h0, h1, h2, h3, h4, h5, h6, h7⟩ | ⟨q, h1, h2, h3, h4, h5⟩ | ⟨q, h1, h2, h3, h4, h5, h6⟩ <;> simp only at q <;> subst q
  · simp only at h1 h2 h3 h4 h5 h6 h7
    subst h1 h2 h3 h4 h5 h6 h7
    obtain ⟨a, b⟩ := hi.2.2 (show (1 : Int) ≠ 4 by decide) (show (1 : Int) ≠ 5 by decide)
    obtain ⟨s, rfl, -, a⟩ := nat_of a (by decide)
    obtain ⟨n, rfl, -, b⟩ := nat_of b (by decide)
    exact .inl ⟨s, n, rfl, by omega, by omega, by simp [eB]⟩
  · simp only at h1 h2 h3 h4 h5 h6 h7
    subst h1 h2 h3 h4 h5 h6 h7
    obtain ⟨a, b⟩ := hi.2.2 (show (3 : Int) ≠ 4 by decide) (show (3 : Int) ≠ 5 by decide)
    obtain ⟨s, rfl, -, a⟩ := nat_of a (by decide)
    obtain ⟨n, rfl, -, b⟩ := nat_of b (by decide)
    exact .inr (.inr (.inl ⟨s, n, rfl, by omega, by omega, by simp [eB]⟩))
  · simp only at h0 h1 h2 h3 h4 h5 h6 h7
    subst h0 h1 h2 h3 h4 h5 h6 h7
    obtain ⟨a, -⟩ := hi.2.2 (show (2 : Int) ≠ 4 by decide) (show (2 : Int) ≠ 5 by decide)
    obtain ⟨s, rfl, -, a⟩ := nat_of a (by decide)
    exact .inr (.inl ⟨s, rfl, by omega, by simp [eB]⟩)
  · simp only at h1 h2 h3 h4 h5
    subst h1 h2 h3 h4 h5
    obtain ⟨a, b, c, d⟩ := hi.1 rfl
    obtain ⟨cn, rfl, -, a⟩ := nat_of a (by decide)
    obtain ⟨ci, rfl, -, b⟩ := nat_of b (by decide)
    obtain ⟨cs, rfl, -, c⟩ := nat_of c (by decide)
    obtain ⟨cm, rfl, -, d⟩ := nat_of d (by decide)
    exact .inr (.inr (.inr (.inl ⟨cn, ci, cs, cm, rfl, by omega, by omega, by omega, by omega, by simp [eB]⟩)))
  · simp only at h1 h2 h3 h4 h5 h6
    subst h1 h2 h3 h4 h5 h6
    obtain ⟨a, b⟩ := hi.2.1 rfl
    have hl := hl rfl
    simp only at hl
    obtain ⟨op, rfl, a0, a⟩ := nat_of a (by decide)
    obtain ⟨id', rfl, b0, b⟩ := nat_of b (by decide)
    exact .inr (.inr (.inr (.inr ⟨op, id', rfl, by omega, by omega, by omega, by omega, by rw [hl]; split <;> omega, by simp [eB]⟩)))
set_option maxRecDepth 100000 in
theorem senc (g o : Nat) (m : Msg) (v : Value) (w : World) (hL : Rd w v m.l) (hc : mF m 0) (hV : w.cell? ⟨g, o, none⟩ = some (.int .i64 m.k) ∧ w.cell? ⟨g, o + 1, none⟩ = some (.int .i64 m.s) ∧ w.cell? ⟨g, o + 2, none⟩ = some (.int .i64 m.n) ∧ w.cell? ⟨g, o + 3, none⟩ = some (.int .i64 m.cn) ∧ w.cell? ⟨g, o + 4, none⟩ = some (.int .i64 m.ci) ∧ w.cell? ⟨g, o + 5, none⟩ = some (.int .i64 m.cs) ∧ w.cell? ⟨g, o + 6, none⟩ = some (.int .i64 m.cm) ∧ w.cell? ⟨g, o + 7, none⟩ = some (.int .i64 m.op) ∧ w.cell? ⟨g, o + 8, none⟩ = some (.int .i64 m.id) ∧ w.cell? ⟨g, o + 9, none⟩ = some v) :
    Calls Try.prog 56 #[.pointer (some ⟨g, o, none⟩)] w fun e w' => ∃ v, e = .returned v ∧ Own w' w.heap.size v (eB m) ∧ Below w.heap.size w w' := by
  obtain ⟨a, c, rfl, -, -, -⟩ := hL.parts
  rcases ok_cases hc with ⟨s, n, e, h1, h2, h3⟩ | ⟨s, e, h1, h3⟩ | ⟨s, n, e, h1, h2, h3⟩ | ⟨cn, ci, cs, cm, e, h1, h2, h4, h5, h3⟩ | ⟨op, id', e, h0, h1, h2, h4, h5, h3⟩
  · rw [h3]; rw [e] at hV; exact sen1 g o s n _ _ _ w h1 h2 hV
  · rw [h3]; rw [e] at hV; exact sen2 g o s _ _ _ w h1 hV
  · rw [h3]; rw [e] at hV; exact sen3 g o s n _ _ _ w h1 h2 hV
  · rw [h3]; rw [e] at hV; exact sen4 g o cn ci cs cm _ _ _ w h1 h2 h4 h5 hV
  · rw [h3]; rw [e] at hV; exact sen5 g o op id' _ m.l w h1 h4 hL (by omega) hV
set_option maxHeartbeats 1000000 in
set_option maxRecDepth 100000 in
theorem ienc (u v : Value) (m : Msg) (w : World) (hL : Rd w v m.l) (hc : mF m 0) (hW : Wire w u m v) :
    Calls Try.prog 57 #[u] w fun e w' => ∃ v, e = .returned v ∧ Own w' w.heap.size v (eB m) ∧ Below w.heap.size w w' := by
  obtain ⟨a, c, rfl, -, -, -⟩ := hL.parts
  obtain ⟨g, hW⟩ := hW
  rcases ok_cases hc with ⟨s, n, e, h1, h2, h3⟩ | ⟨s, e, h1, h3⟩ | ⟨s, n, e, h1, h2, h3⟩ | ⟨cn, ci, cs, cm, e, h1, h2, h4, h5, h3⟩ | ⟨op, id', e, h0, h1, h2, h4, h5, h3⟩
  · have hk : m.k = 1 := by rw [e]
    rcases hW with ⟨-, rfl, hV⟩ | ⟨q, -⟩ | ⟨q, -⟩ | ⟨q, -⟩ | ⟨q, -⟩
    · rw [h3]; rw [e] at hV
      refine (pkw1 _ [s, n] [(s, 4), (n, 1)] w g s n hV (hid fun w' _ => nums1 g w') (kpw1 hV) ⟨rfl, fun j h h' => ?_⟩).mono fun e' w' ⟨v, q1, q2, q3⟩ => ⟨v, q1, ?_, q3⟩
      · match j, h with
        | 0, _ => exact ⟨rfl, rfl, by simp, by simp, by simp; omega, by simp; omega⟩
        | 1, _ => exact ⟨rfl, rfl, by simp, by simp, by simp; omega, by simp; omega⟩
      · have q : [1] ++ pkL [(s, 4), (n, 1)] 2 = eP 1 s n := by simp [pkL, eP, packL_one n (by omega)]
        rw [← q]; exact q2
    all_goals (rw [hk] at q; exact absurd q (by decide))
  · have hk : m.k = 2 := by rw [e]
    rcases hW with ⟨q, -⟩ | ⟨-, rfl, hV⟩ | ⟨q, -⟩ | ⟨q, -⟩ | ⟨q, -⟩
    · rw [hk] at q; exact absurd q (by decide)
    · rw [h3]; rw [e] at hV
      refine (pkw2 _ [s] [(s, 4)] w g s hV (hid fun w' _ => nums2 g w') (kpw2 hV) ⟨rfl, fun j h h' => ?_⟩).mono fun e' w' ⟨v, q1, q2, q3⟩ => ⟨v, q1, ?_, q3⟩
      · match j, h with
        | 0, _ => exact ⟨rfl, rfl, by simp, by simp, by simp; omega, by simp; omega⟩
      · have q : [2] ++ pkL [(s, 4)] 1 = eA s := by simp [pkL, eA]
        rw [← q]; exact q2
    all_goals (rw [hk] at q; exact absurd q (by decide))
  · have hk : m.k = 3 := by rw [e]
    rcases hW with ⟨q, -⟩ | ⟨q, -⟩ | ⟨-, rfl, hV⟩ | ⟨q, -⟩ | ⟨q, -⟩
    · rw [hk] at q; exact absurd q (by decide)
    · rw [hk] at q; exact absurd q (by decide)
    · rw [h3]; rw [e] at hV
      refine (pkw3 _ [s, n] [(s, 4), (n, 1)] w g s n hV (hid fun w' _ => nums3 g w') (kpw3 hV) ⟨rfl, fun j h h' => ?_⟩).mono fun e' w' ⟨v, q1, q2, q3⟩ => ⟨v, q1, ?_, q3⟩
      · match j, h with
        | 0, _ => exact ⟨rfl, rfl, by simp, by simp, by simp; omega, by simp; omega⟩
        | 1, _ => exact ⟨rfl, rfl, by simp, by simp, by simp; omega, by simp; omega⟩
      · have q : [3] ++ pkL [(s, 4), (n, 1)] 2 = eP 3 s n := by simp [pkL, eP, packL_one n (by omega)]
        rw [← q]; exact q2
    all_goals (rw [hk] at q; exact absurd q (by decide))
  · have hk : m.k = 4 := by rw [e]
    rcases hW with ⟨q, -⟩ | ⟨q, -⟩ | ⟨q, -⟩ | ⟨-, rfl, hV⟩ | ⟨q, -⟩
    · rw [hk] at q; exact absurd q (by decide)
    · rw [hk] at q; exact absurd q (by decide)
    · rw [hk] at q; exact absurd q (by decide)
    · rw [h3]; rw [e] at hV
      refine (pkw4 _ [cn, ci, cs, cm] [(cn, 1), (ci, 4), (cs, 1), (cm, 4)] w g cn ci cs cm hV (hid fun w' _ => nums4 g w') (kpw4 hV) ⟨rfl, fun j h h' => ?_⟩).mono fun e' w' ⟨v, q1, q2, q3⟩ => ⟨v, q1, ?_, q3⟩
      · match j, h with
        | 0, _ => exact ⟨rfl, rfl, by simp, by simp, by simp; omega, by simp; omega⟩
        | 1, _ => exact ⟨rfl, rfl, by simp, by simp, by simp; omega, by simp; omega⟩
        | 2, _ => exact ⟨rfl, rfl, by simp, by simp, by simp; omega, by simp; omega⟩
        | 3, _ => exact ⟨rfl, rfl, by simp, by simp, by simp; omega, by simp; omega⟩
      · have q : [4] ++ pkL [(cn, 1), (ci, 4), (cs, 1), (cm, 4)] 4 = eC cn ci cs cm := by simp [pkL, eC, packL_one cn (by omega), packL_one cs (by omega)]
        rw [← q]; exact q2
    all_goals (rw [hk] at q; exact absurd q (by decide))
  · have hk : m.k = 5 := by rw [e]
    rcases hW with ⟨q, -⟩ | ⟨q, -⟩ | ⟨q, -⟩ | ⟨q, -⟩ | ⟨-, rfl, hV⟩
    · rw [hk] at q; exact absurd q (by decide)
    · rw [hk] at q; exact absurd q (by decide)
    · rw [hk] at q; exact absurd q (by decide)
    · rw [hk] at q; exact absurd q (by decide)
    · rw [h3]; rw [e] at hV
      refine (pkw5 _ [op, id'] [(op, 1), (id', 1)] w g op id' a c m.l hL (by omega) hV (hid fun w' _ => nums5 g w') (kpw5 hV) ⟨rfl, fun j h h' => ?_⟩).mono fun e' w' ⟨v, q1, q2, q3⟩ => ⟨v, q1, ?_, q3⟩
      · match j, h with
        | 0, _ => exact ⟨rfl, rfl, by simp, by simp, by simp; omega, by simp; omega⟩
        | 1, _ => exact ⟨rfl, rfl, by simp, by simp, by simp; omega, by simp; omega⟩
      · have q : ([5] ++ pkL [(op, 1), (id', 1)] 2) ++ m.l = eK op id' m.l := by simp [pkL, eK, packL_one op (by omega), packL_one id' (by omega)]
        rw [← q]; exact q2
end Go.Proofs.Ytifgcffifffdnam.W
