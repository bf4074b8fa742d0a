/-
  What turning a ring tells, part by part. Plain mathematics.
-/
import Derived.Test.YtbfdbicddmffnabItnW
import Derived.Test.YtbfdbicddmffnabRkF
import Derived.Test.YtbfdbicddmffnabUkF
import Derived.Test.YtbfdbicddmffnabIkF
namespace Go.Proofs.Ytbfdbicddmffnab.W
open Go.RowKit
open Go.Proofs.Ytbfdbicddmffnab.M

theorem tr_bad {p op id' c rk : Int} {ks t : List (Int × List Nat)} {l : List Nat} (h : trIs p op ks id' l c rk t) (h0 : rF p ks ≠ 0) : c = rF p ks ∧ rk = 0 ∧ t = [] := by
  rcases h with ⟨-, q⟩ | ⟨q, -⟩
  · exact q
  · exact absurd q h0
theorem tr_form {p op id' c rk : Int} {ks t : List (Int × List Nat)} {l : List Nat} (h : trIs p op ks id' l c rk t) (h0 : rF p ks = 0) (h1 : op ≠ 1) (h2 : (op ≠ 2 ∧ op ≠ 3) ∨ l ≠ []) : c = 1 ∧ rk = 0 ∧ t = [] := by
  rcases h with ⟨q, -⟩ | ⟨-, p', ks', q, q2⟩
  · exact absurd h0 q
  · have hc : c = 1 := by
      rcases q with ⟨e, -⟩ | ⟨e, e2, -⟩ | ⟨e, e2, -⟩ | ⟨-, -, e⟩
      · exact absurd e h1
      · rcases h2 with ⟨f, -⟩ | f
        · exact absurd e f
        · exact absurd e2 f
      · rcases h2 with ⟨-, f⟩ | f
        · exact absurd e f
        · exact absurd e2 f
      · exact e
    rcases q2 with ⟨-, q3, q4⟩ | ⟨q3, -⟩
    · exact ⟨hc, q3, q4⟩
    · rw [hc] at q3; cases q3
theorem tr_ik {p id' c rk : Int} {ks t : List (Int × List Nat)} {l : List Nat} (h : trIs p 1 ks id' l c rk t) (h0 : rF p ks = 0) : ikIs p ks (id', l) c rk t := by
  rcases h with ⟨q, -⟩ | ⟨-, p', ks', q, q2⟩
  · exact absurd h0 q
  · rcases q with ⟨-, rfl, rfl, q⟩ | ⟨e, -⟩ | ⟨e, -⟩ | ⟨e, -⟩
    · rcases q with ⟨a, rfl⟩ | ⟨a, b, rfl⟩ | ⟨a, b, d, rfl⟩ | ⟨a, b, d, rfl⟩
      · rcases q2 with ⟨-, e1, e2⟩ | ⟨e, -⟩
        · exact .inr (.inl ⟨h0, a, rfl, e1, e2⟩)
        · exact absurd e a
      · rcases q2 with ⟨-, e1, e2⟩ | ⟨e, -⟩
        · exact .inr (.inr (.inl ⟨h0, a, b, rfl, e1, e2⟩))
        · cases e
      · rcases q2 with ⟨-, e1, e2⟩ | ⟨e, -⟩
        · exact .inr (.inr (.inr (.inl ⟨h0, a, b, d, rfl, e1, e2⟩)))
        · cases e
      · rcases q2 with ⟨e, -⟩ | ⟨-, e1, e2⟩
        · exact absurd rfl e
        · exact .inr (.inr (.inr (.inr ⟨h0, a, b, d, rfl, e1, e2⟩)))
    · exact absurd e (by decide)
    · exact absurd e (by decide)
    · exact absurd rfl e
theorem tr_uk {p id' c rk : Int} {ks t : List (Int × List Nat)} (h : trIs p 2 ks id' [] c rk t) (h0 : rF p ks = 0) : ukIs p ks id' c rk t := by
  rcases h with ⟨q, -⟩ | ⟨-, p', ks', q, q2⟩
  · exact absurd h0 q
  · rcases q with ⟨e, -⟩ | ⟨-, -, rfl, rfl, q⟩ | ⟨e, -⟩ | ⟨-, ⟨e, -⟩ | e, -⟩
    · exact absurd e (by decide)
    · rcases q with ⟨a, rfl⟩ | ⟨a, rfl⟩
      · rcases q2 with ⟨e, -⟩ | ⟨-, e1, e2⟩
        · exact absurd rfl e
        · exact .inr (.inr ⟨h0, a, rfl, e1, e2⟩)
      · rcases q2 with ⟨-, e1, e2⟩ | ⟨e, -⟩
        · exact .inr (.inl ⟨h0, a, rfl, e1, e2⟩)
        · cases e
    · exact absurd e (by decide)
    · exact absurd rfl e
    · exact absurd rfl e
theorem tr_rm {p id' c rk : Int} {ks t : List (Int × List Nat)} (h : trIs p 3 ks id' [] c rk t) (h0 : rF p ks = 0) : rmIs p ks id' c rk t := by
  rcases h with ⟨q, -⟩ | ⟨-, p', ks', q, q2⟩
  · exact absurd h0 q
  · rcases q with ⟨e, -⟩ | ⟨e, -⟩ | ⟨-, -, rfl, rfl, q⟩ | ⟨-, ⟨-, e⟩ | e, -⟩
    · exact absurd e (by decide)
    · exact absurd e (by decide)
    · rcases q with ⟨a, b, rfl⟩ | ⟨a, b, rfl⟩ | ⟨a, rfl⟩
      · rcases q2 with ⟨e, -⟩ | ⟨-, e1, e2⟩
        · exact absurd rfl e
        · exact .inr (.inr (.inr ⟨h0, a, b, rfl, e1, e2⟩))
      · rcases q2 with ⟨-, e1, e2⟩ | ⟨e, -⟩
        · exact .inr (.inr (.inl ⟨h0, a, b, rfl, e1, e2⟩))
        · cases e
      · rcases q2 with ⟨-, e1, e2⟩ | ⟨e, -⟩
        · exact .inr (.inl ⟨h0, a, rfl, e1, e2⟩)
        · cases e
    · exact absurd rfl e
    · exact absurd rfl e
theorem tn_fin {p op id' code p' : Int} {ks ks' : List (Int × List Nat)} {l : List Nat} (h0 : rF p ks = 0) (h : tnIs p op id' l ks code p' ks') : ∃ c rk t, trIs p op ks id' l c rk t := by
  by_cases e : code = 0
  · exact ⟨code, p', ks', .inr ⟨h0, p', ks', h, .inr ⟨e, rfl, rfl⟩⟩⟩
  · exact ⟨code, 0, [], .inr ⟨h0, p', ks', h, .inl ⟨e, rfl, rfl⟩⟩⟩
theorem tr_some (p op id' : Int) (ks : List (Int × List Nat)) (l : List Nat) : ∃ c rk t, trIs p op ks id' l c rk t := by
  by_cases h0 : rF p ks = 0
  case neg => exact ⟨_, _, _, .inl ⟨h0, rfl, rfl, rfl⟩⟩
  by_cases h1 : op = 1
  · by_cases a : kF (id', l) = 0
    · by_cases b : Has ks id'
      · exact tn_fin h0 (.inl ⟨h1, rfl, rfl, .inr (.inl ⟨a, b, rfl⟩)⟩)
      · by_cases d : 3 ≤ ks.length
        · exact tn_fin h0 (.inl ⟨h1, rfl, rfl, .inr (.inr (.inl ⟨a, b, d, rfl⟩))⟩)
        · exact tn_fin h0 (.inl ⟨h1, rfl, rfl, .inr (.inr (.inr ⟨a, b, by omega, rfl⟩))⟩)
    · exact tn_fin h0 (.inl ⟨h1, rfl, rfl, .inl ⟨a, rfl⟩⟩)
  by_cases h2 : op = 2 ∧ l = []
  · by_cases b : Has ks id'
    · exact tn_fin h0 (.inr (.inl ⟨h2.1, h2.2, rfl, rfl, .inl ⟨b, rfl⟩⟩))
    · exact tn_fin h0 (.inr (.inl ⟨h2.1, h2.2, rfl, rfl, .inr ⟨b, rfl⟩⟩))
  by_cases h3 : op = 3 ∧ l = []
  · by_cases b : Has ks id'
    · by_cases d : id' = p
      · exact tn_fin h0 (.inr (.inr (.inl ⟨h3.1, h3.2, rfl, rfl, .inr (.inl ⟨b, d, rfl⟩)⟩)))
      · exact tn_fin h0 (.inr (.inr (.inl ⟨h3.1, h3.2, rfl, rfl, .inl ⟨b, d, rfl⟩⟩)))
    · exact tn_fin h0 (.inr (.inr (.inl ⟨h3.1, h3.2, rfl, rfl, .inr (.inr ⟨b, rfl⟩)⟩)))
  refine tn_fin (code := 1) (p' := p) (ks' := ks) h0 (.inr (.inr (.inr ⟨h1, ?_, rfl⟩)))
  by_cases e : l = []
  · exact .inl ⟨fun q => h2 ⟨q, e⟩, fun q => h3 ⟨q, e⟩⟩
  · exact .inr e
end Go.Proofs.Ytbfdbicddmffnab.W
