/- Contract of package ratio's add: the sum of two valid ratios. Contracts of package ratio's Add, Sub and Cmp, for all arguments. -/
import Derived.Test.YtpiolhjiflohgaaYj
namespace Go.Proofs.Ytpiolhjiflohgaa
open Go.RowKit


end Go.Proofs.Ytpiolhjiflohgaa
namespace Go.Proofs.Ytpiolhjiflohgaa
open Go.RowKit

theorem both_cases (n d m c : Int) : (Rp.both n d m c = 0 ∧ Rp.Ok n d ∧ Rp.Ok m c) ∨ Rp.both n d m c = 8 := by
  unfold Rp.both Rp.chk
  by_cases h : Rp.Ok n d
  · by_cases k : Rp.Ok m c
    · left; rw [if_pos h, if_pos k]; exact ⟨rfl, h, k⟩
    · right; rw [if_pos h, if_neg k]
  · right; rw [if_neg h]

theorem Ok_neg {n d : Int} (h : Rp.Ok n d) : Rp.Ok (-n) d := by
  obtain ⟨h1, h2, h3, h4, h5⟩ := h
  exact ⟨h1, h2, by omega, by omega, by rw [Int.natAbs_neg]; exact h5⟩

theorem q_neg (n d : Int) : Rp.q (-n) d = -Rp.q n d := by unfold Rp.q; rw [Rat.neg_divInt]



theorem sign_cmp {n d m c : Int} (h : Rp.Ok n d) (k : Rp.Ok m c) (s : Bool) (M : Int) (M0 : 0 ≤ M) (e : sg s M = n * c + -m * d) :
    (if M = 0 then 0 else if s then -1 else 1 : Int) = Rp.cmpQ (Rp.q n d) (Rp.q m c) := by
  have l1 : (Rp.q n d < Rp.q m c) ↔ n * c < m * d := by rw [Rat.lt_iff, Rp.q_num h, Rp.q_num k, Rp.q_denI h, Rp.q_denI k]
  have l2 : (Rp.q m c < Rp.q n d) ↔ m * d < n * c := by rw [Rat.lt_iff, Rp.q_num h, Rp.q_num k, Rp.q_denI h, Rp.q_denI k]
  unfold Rp.cmpQ
  simp only [l1, l2]
  rw [Int.neg_mul] at e
  generalize n * c = X at *
  generalize m * d = Y at *
  cases s
  · have e : M = X + -Y := e
    simp only [Bool.false_eq_true, if_false]
    (repeat' split) <;> omega
  · have e : -M = X + -Y := e
    simp only [if_true]
    (repeat' split) <;> omega

end Go.Proofs.Ytpiolhjiflohgaa
