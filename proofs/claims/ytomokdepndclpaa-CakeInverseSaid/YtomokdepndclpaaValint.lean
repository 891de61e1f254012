/- What a cake is worth between two whole numbers: plain mathematics. -/
import Derived.Test.YtomokdepndclpaaVal
namespace Go.Proofs.Ytomokdepndclpaa
namespace Ck
theorem q_of (n : Int) : Rp.q n 1 = ((n : Int) : Rat) := Rp.q_one n
theorem ofQ_int {n : Int} (h0 : -1000000000000000000 ≤ n) (h1 : n ≤ 1000000000000000000) : Rp.ofQ ((n : Int) : Rat) = (n, 1, 0) := by
  rw [← Rp.q_one]
  exact Rp.ofQ_q (Rp.Ok_one h0 h1)
theorem mxS_int (a b : Int) : mxS a 1 b 1 = (max a b, 1) := by
  unfold mxS
  have hq : Rp.q a 1 < Rp.q b 1 ↔ a < b := by rw [q_of, q_of, Rat.intCast_lt_intCast]
  by_cases h : a < b
  · rw [if_pos (hq.2 h), Int.max_def, if_pos (by omega)]
  · rw [if_neg (fun g => h (hq.1 g)), Int.max_def]
    split
    · rw [show a = b by omega]
    · rfl
theorem mnS_int (a b : Int) : mnS a 1 b 1 = (min a b, 1) := by
  unfold mnS
  have hq : Rp.q b 1 < Rp.q a 1 ↔ b < a := by rw [q_of, q_of, Rat.intCast_lt_intCast]
  by_cases h : b < a
  · rw [if_pos (hq.2 h), Int.min_def, if_neg (by omega)]
  · rw [if_neg (fun g => h (hq.1 g)), Int.min_def, if_pos (by omega)]
theorem wthS_int {a b k : Int} (a0 : 0 ≤ a) (a1 : a ≤ 1000) (b0 : 0 ≤ b) (b1 : b ≤ 1000) (k0 : 0 ≤ k) (k1 : k ≤ 12) : wthS a 1 b 1 k = ((b - a) * k, 1, 0) := by
  have hm : -12000 ≤ (b - a) * k ∧ (b - a) * k ≤ 12000 := by
    obtain ⟨x, hx⟩ : ∃ x, b - a = x := ⟨_, rfl⟩
    rw [hx]
    have h1 : -1000 ≤ x := by omega
    have h2 : x ≤ 1000 := by omega
    rcases (show k = 0 ∨ k = 1 ∨ k = 2 ∨ k = 3 ∨ k = 4 ∨ k = 5 ∨ k = 6 ∨ k = 7 ∨ k = 8 ∨ k = 9 ∨ k = 10 ∨ k = 11 ∨ k = 12 by omega) with h | h | h | h | h | h | h | h | h | h | h | h | h <;> subst h <;> omega
  have hs : Rp.subS b 1 a 1 = (b - a, 1, 0) := by
    rw [Rp.subS_ok (Rp.Ok_one (by omega) (by omega)) (Rp.Ok_one (by omega) (by omega)), q_of, q_of, ← Rat.intCast_sub]
    exact ofQ_int (by omega) (by omega)
  unfold wthS
  rw [hs]
  show (if (0 : Int) = 0 then Rp.mulS (b - a) 1 k 1 else _) = _
  rw [if_pos rfl, Rp.mulS_ok (Rp.Ok_one (by omega) (by omega)) (Rp.Ok_one (by omega) (by omega)), q_of, q_of, ← Rat.intCast_mul]
  exact ofQ_int (by omega) (by omega)
/-- What the first intervals have between two whole numbers. -/
def vint (c d : List Int) (a b : Int) : Nat → Int
  | 0 => 0
  | k + 1 => vint c d a b k + (if max a (at_ c k) < min b (at_ c (k + 1)) then (min b (at_ c (k + 1)) - max a (at_ c k)) * at_ d k else 0)
theorem vint_bd {len : Int} {c d : List Int} (hG : Good len c d) {a b : Int} (h0 : 0 ≤ a) (h1 : a ≤ b) (h2 : b ≤ len) : ∀ k, k ≤ d.length → 0 ≤ vint c d a b k ∧ vint c d a b k ≤ 12000 * k
  | 0, _ => ⟨Int.le_refl _, Int.le_refl _⟩
  | k + 1, hk => by
    have ih := vint_bd hG h0 h1 h2 k (by omega)
    have hst := hG.step k (by omega)
    have r1 := hG.range k (by omega)
    have r2 := hG.range (k + 1) (by omega)
    unfold vint
    split
    · rename_i hlt
      have hx : 0 ≤ min b (at_ c (k + 1)) - max a (at_ c k) ∧ min b (at_ c (k + 1)) - max a (at_ c k) ≤ 1000 := by omega
      generalize min b (at_ c (k + 1)) - max a (at_ c k) = x at *
      generalize at_ d k = y at *
      have hy : 0 ≤ x * y ∧ x * y ≤ 12000 := by
        rcases (show y = 0 ∨ y = 1 ∨ y = 2 ∨ y = 3 ∨ y = 4 ∨ y = 5 ∨ y = 6 ∨ y = 7 ∨ y = 8 ∨ y = 9 ∨ y = 10 ∨ y = 11 ∨ y = 12 by omega) with h | h | h | h | h | h | h | h | h | h | h | h | h <;> subst h <;> omega
      omega
    · omega
/-- The sum between two whole numbers is a whole number, and there is a ratio of it. -/
theorem vgo_int {len : Int} {c d : List Int} (hG : Good len c d) {a b : Int} (h0 : 0 ≤ a) (h1 : a ≤ b) (h2 : b ≤ len) : ∀ k, k ≤ d.length → vgo c d a 1 b 1 k = (vint c d a b k, 1, 0)
  | 0, _ => rfl
  | k + 1, hk => by
    have ih := vgo_int hG h0 h1 h2 k (by omega)
    have bd := vint_bd hG h0 h1 h2 k (by omega)
    have bd' := vint_bd hG h0 h1 h2 (k + 1) hk
    have hst := hG.step k (by omega)
    have r1 := hG.range k (by omega)
    have r2 := hG.range (k + 1) (by omega)
    have hl1 := hG.len1
    have hsh := hG.shape
    unfold vgo vint
    rw [ih, mxS_int, mnS_int]
    dsimp only
    rw [if_neg (by simp)]
    have hq : Rp.q (max a (at_ c k)) 1 < Rp.q (min b (at_ c (k + 1))) 1 ↔ max a (at_ c k) < min b (at_ c (k + 1)) := by rw [q_of, q_of, Rat.intCast_lt_intCast]
    unfold vint at bd'
    by_cases hlt : max a (at_ c k) < min b (at_ c (k + 1))
    · rw [if_pos hlt] at bd' ⊢
      rw [wthS_int (by omega) (by omega) (by omega) (by omega) hst.2.1 hst.2.2]
      dsimp only
      by_cases hz : at_ d k = 0
      · rw [if_pos (.inl hz), hz]
        simp
      · rw [if_neg (by
          rintro (e | e)
          · exact hz e
          · exact e (hq.2 hlt)), if_neg (by simp), Rp.addS_ok (Rp.Ok_one (by omega) (by omega)) (Rp.Ok_one (by omega) (by omega)), q_of, q_of, ← Rat.intCast_add]
        exact ofQ_int (by omega) (by omega)
    · rw [if_neg hlt, if_pos (.inr (fun g => hlt (hq.1 g)))]
      simp
end Ck
end Go.Proofs.Ytomokdepndclpaa
