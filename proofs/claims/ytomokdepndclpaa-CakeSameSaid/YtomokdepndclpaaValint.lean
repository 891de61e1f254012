/- What a cake is worth between two whole numbers: plain mathematics. -/
import Derived.Test.YtomokdepndclpaaVal
import Derived.Test.YtomokdepndclpaaPartm
namespace Go.Proofs.Ytomokdepndclpaa
namespace Ck
theorem q_of (n : Int) : Rp.q n 1 = ((n : Int) : Rat) := Rp.q_one n
theorem ofQ_int {n : Int} (h0 : -1000000000000000000 ≤ n) (h1 : n ≤ 1000000000000000000) : Rp.ofQ ((n : Int) : Rat) = (n, 1, 0) := by
  rw [← Rp.q_one]
  exact Rp.ofQ_q (Rp.Ok_one h0 h1)
theorem mxS_int (a b : Int) : mxS a 1 b 1 = (max a b, 1) := by
  unfold mxS
  have hq : Rp.q a 1 < Rp.q b 1 ↔ a < b := by rw [q_of, q_of, Rat.intCast_lt_intCast]
  by_cases h : a < b
  · rw [if_pos (hq.2 h), Int.max_def, if_pos (by omega)]
  · rw [if_neg (fun g => h (hq.1 g)), Int.max_def]
    split
    · rw [show a = b by omega]
    · rfl
theorem mnS_int (a b : Int) : mnS a 1 b 1 = (min a b, 1) := by
  unfold mnS
  have hq : Rp.q b 1 < Rp.q a 1 ↔ b < a := by rw [q_of, q_of, Rat.intCast_lt_intCast]
  by_cases h : b < a
  · rw [if_pos (hq.2 h), Int.min_def, if_neg (by omega)]
  · rw [if_neg (fun g => h (hq.1 g)), Int.min_def, if_pos (by omega)]
theorem wthS_int {a b k : Int} (a0 : 0 ≤ a) (a1 : a ≤ 1000) (b0 : 0 ≤ b) (b1 : b ≤ 1000) (k0 : 0 ≤ k) (k1 : k ≤ 12) : wthS a 1 b 1 k = ((b - a) * k, 1, 0) := by
  have hm : -12000 ≤ (b - a) * k ∧ (b - a) * k ≤ 12000 := by
    obtain ⟨x, hx⟩ : ∃ x, b - a = x := ⟨_, rfl⟩
    rw [hx]
    have h1 : -1000 ≤ x := by omega
    have h2 : x ≤ 1000 := by omega
    rcases (show k = 0 ∨ k = 1 ∨ k = 2 ∨ k = 3 ∨ k = 4 ∨ k = 5 ∨ k = 6 ∨ k = 7 ∨ k = 8 ∨ k = 9 ∨ k = 10 ∨ k = 11 ∨ k = 12 by omega) with h | h | h | h | h | h | h | h | h | h | h | h | h <;> subst h <;> omega
  have hs : Rp.subS b 1 a 1 = (b - a, 1, 0) := by
    rw [Rp.subS_ok (Rp.Ok_one (by omega) (by omega)) (Rp.Ok_one (by omega) (by omega)), q_of, q_of, ← Rat.intCast_sub]
    exact ofQ_int (by omega) (by omega)
  unfold wthS
  rw [hs]
  show (if (0 : Int) = 0 then Rp.mulS (b - a) 1 k 1 else _) = _
  rw [if_pos rfl, Rp.mulS_ok (Rp.Ok_one (by omega) (by omega)) (Rp.Ok_one (by omega) (by omega)), q_of, q_of, ← Rat.intCast_mul]
  exact ofQ_int (by omega) (by omega)
/-- What the first intervals have between two whole numbers. -/
def vint (c d : List Int) (a b : Int) : Nat → Int
  | 0 => 0
  | k + 1 => vint c d a b k + (if max a (at_ c k) < min b (at_ c (k + 1)) then (min b (at_ c (k + 1)) - max a (at_ c k)) * at_ d k else 0)
theorem vint_bd {len : Int} {c d : List Int} (hG : Good len c d) {a b : Int} (h0 : 0 ≤ a) (h1 : a ≤ b) (h2 : b ≤ len) : ∀ k, k ≤ d.length → 0 ≤ vint c d a b k ∧ vint c d a b k ≤ 12000 * k
  | 0, _ => ⟨Int.le_refl _, Int.le_refl _⟩
  | k + 1, hk => by
    have ih := vint_bd hG h0 h1 h2 k (by omega)
    have hst := hG.step k (by omega)
    have r1 := hG.range k (by omega)
    have r2 := hG.range (k + 1) (by omega)
    unfold vint
    split
    · rename_i hlt
      have hx : 0 ≤ min b (at_ c (k + 1)) - max a (at_ c k) ∧ min b (at_ c (k + 1)) - max a (at_ c k) ≤ 1000 := by omega
      generalize min b (at_ c (k + 1)) - max a (at_ c k) = x at *
      generalize at_ d k = y at *
      have hy : 0 ≤ x * y ∧ x * y ≤ 12000 := by
        rcases (show y = 0 ∨ y = 1 ∨ y = 2 ∨ y = 3 ∨ y = 4 ∨ y = 5 ∨ y = 6 ∨ y = 7 ∨ y = 8 ∨ y = 9 ∨ y = 10 ∨ y = 11 ∨ y = 12 by omega) with h | h | h | h | h | h | h | h | h | h | h | h | h <;> subst h <;> omega
      omega
    · omega
/-- The sum between two whole numbers is a whole number, and there is a ratio of it. -/
theorem vgo_int {len : Int} {c d : List Int} (hG : Good len c d) {a b : Int} (h0 : 0 ≤ a) (h1 : a ≤ b) (h2 : b ≤ len) : ∀ k, k ≤ d.length → vgo c d a 1 b 1 k = (vint c d a b k, 1, 0)
  | 0, _ => rfl
  | k + 1, hk => by
    have ih := vgo_int hG h0 h1 h2 k (by omega)
    have bd := vint_bd hG h0 h1 h2 k (by omega)
    have bd' := vint_bd hG h0 h1 h2 (k + 1) hk
    have hst := hG.step k (by omega)
    have r1 := hG.range k (by omega)
    have r2 := hG.range (k + 1) (by omega)
    have hl1 := hG.len1
    have hsh := hG.shape
    unfold vgo vint
    rw [ih, mxS_int, mnS_int]
    dsimp only
    rw [if_neg (by simp)]
    have hq : Rp.q (max a (at_ c k)) 1 < Rp.q (min b (at_ c (k + 1))) 1 ↔ max a (at_ c k) < min b (at_ c (k + 1)) := by rw [q_of, q_of, Rat.intCast_lt_intCast]
    unfold vint at bd'
    by_cases hlt : max a (at_ c k) < min b (at_ c (k + 1))
    · rw [if_pos hlt] at bd' ⊢
      rw [wthS_int (by omega) (by omega) (by omega) (by omega) hst.2.1 hst.2.2]
      dsimp only
      by_cases hz : at_ d k = 0
      · rw [if_pos (.inl hz), hz]
        simp
      · rw [if_neg (by
          rintro (e | e)
          · exact hz e
          · exact e (hq.2 hlt)), if_neg (by simp), Rp.addS_ok (Rp.Ok_one (by omega) (by omega)) (Rp.Ok_one (by omega) (by omega)), q_of, q_of, ← Rat.intCast_add]
        exact ofQ_int (by omega) (by omega)
    · rw [if_neg hlt, if_pos (.inr (fun g => hlt (hq.1 g)))]
      simp
end Ck
end Go.Proofs.Ytomokdepndclpaa
/- The total of a cake: the value of all of it; at least 1. Plain mathematics. -/
namespace Go.Proofs.Ytomokdepndclpaa
namespace Ck
theorem vint_whole {len : Int} {c d : List Int} (hG : Good len c d) : ∀ k, k ≤ d.length → vint c d 0 len k = tot c d k
  | 0, _ => rfl
  | k + 1, hk => by
    have ih := vint_whole hG k (by omega)
    have hst := (hG.step k (by omega)).1
    have r1 := hG.range k (by omega)
    have r2 := hG.mono (k + 1) d.length (by omega) (Nat.le_refl _)
    have r3 := hG.last
    unfold vint tot
    rw [ih, if_pos (by omega), show min len (at_ c (k + 1)) = at_ c (k + 1) by omega, show max 0 (at_ c k) = at_ c k by omega, Int.mul_comm]
theorem tot_mono {len : Int} {c d : List Int} (hG : Good len c d) (k : Nat) : ∀ t, k + t ≤ d.length → tot c d k ≤ tot c d (k + t)
  | 0, _ => Int.le_refl _
  | t + 1, ht => by
    have ih := tot_mono hG k t (by omega)
    have hst := hG.step (k + t) (by omega)
    show _ ≤ tot c d (k + t) + at_ d (k + t) * (at_ c (k + t + 1) - at_ c (k + t))
    have := Int.mul_nonneg hst.2.1 (show 0 ≤ at_ c (k + t + 1) - at_ c (k + t) by omega)
    omega
theorem tot_pos {len : Int} {c d : List Int} (hG : Good len c d) : 1 ≤ tot c d d.length := by
  have hs := hG.some_
  unfold wanted at hs
  rw [List.any_eq_true] at hs
  obtain ⟨x, hx, hp⟩ := hs
  obtain ⟨j, hj, rfl⟩ := List.mem_iff_getElem.1 hx
  rw [decide_eq_true_iff] at hp
  have hst := hG.step j hj
  have h1 : 1 ≤ at_ d j := by rw [at_lt hj]; omega
  have h2 := tot_mono hG (j + 1) (d.length - (j + 1)) (by omega)
  rw [show j + 1 + (d.length - (j + 1)) = d.length by omega] at h2
  have h3 := (tot_bd hG j (by omega)).1
  have h4 : tot c d (j + 1) = tot c d j + at_ d j * (at_ c (j + 1) - at_ c j) := rfl
  have h5 := Int.mul_le_mul h1 (show 1 ≤ at_ c (j + 1) - at_ c j by omega) (by decide) (by omega)
  omega
end Ck
end Go.Proofs.Ytomokdepndclpaa
/- The total of a part is what the cake is worth there: plain mathematics. -/
namespace Go.Proofs.Ytomokdepndclpaa
namespace Ck
theorem tot_congr {c d c' d' : List Int} : ∀ k, (∀ j, j ≤ k → at_ c j = at_ c' j) → (∀ j, j < k → at_ d j = at_ d' j) → tot c d k = tot c' d' k
  | 0, _, _ => rfl
  | k + 1, h1, h2 => by
    unfold tot
    rw [tot_congr k (fun j hj => h1 j (by omega)) (fun j hj => h2 j (by omega)), h1 k (by omega), h1 (k + 1) (by omega), h2 k (by omega)]
theorem pCD_len (c d : List Int) (a b : Int) : ∀ k, (pC c a b k).length = (pD c d a b k).length + 1
  | 0 => rfl
  | k + 1 => by
    have ih := pCD_len c d a b k
    unfold pC pD
    split
    · rw [List.length_append, List.length_append, ih]
      rfl
    · exact ih
/-- The last cut of a part, of the first intervals. -/
theorem pC_last {len : Int} {c d : List Int} (hG : Good len c d) {a b : Int} (h0 : 0 ≤ a) (h1 : a < b) : ∀ k, k ≤ d.length → at_ (pC c a b k) (pD c d a b k).length = max 0 (min b (at_ c k) - a)
  | 0, _ => by
    show (0 : Int) = _
    rw [hG.first]
    omega
  | k + 1, hk => by
    have ih := pC_last hG h0 h1 k (by omega)
    have hl := pCD_len c d a b k
    have hst := (hG.step k (by omega)).1
    rcases h : inside c a b k with _ | _
    · rw [pC_no h, pD_no h, ih]
      unfold inside at h
      rw [Bool.and_eq_false_iff, decide_eq_false_iff_not, decide_eq_false_iff_not] at h
      omega
    · rw [pC_yes h, pD_yes h, List.length_append]
      unfold inside at h
      rw [Bool.and_eq_true_iff, decide_eq_true_iff, decide_eq_true_iff] at h
      have e := at_end (l := pC c a b k) (x := min b (at_ c (k + 1)) - a)
      rw [hl] at e
      show at_ (pC c a b k ++ [min b (at_ c (k + 1)) - a]) ((pD c d a b k).length + 1) = _
      rw [e]
      omega
theorem tot_part {len : Int} {c d : List Int} (hG : Good len c d) {a b : Int} (h0 : 0 ≤ a) (h1 : a < b) : ∀ k, k ≤ d.length → tot (pC c a b k) (pD c d a b k) (pD c d a b k).length = vint c d a b k
  | 0, _ => rfl
  | k + 1, hk => by
    have ih := tot_part hG h0 h1 k (by omega)
    have hl := pCD_len c d a b k
    have hp := pC_last hG h0 h1 k (by omega)
    have hst := (hG.step k (by omega)).1
    unfold vint
    rcases h : inside c a b k with _ | _
    · rw [pC_no h, pD_no h, ih]
      unfold inside at h
      rw [Bool.and_eq_false_iff, decide_eq_false_iff_not, decide_eq_false_iff_not] at h
      rw [if_neg (by omega)]
      omega
    · rw [pC_yes h, pD_yes h, List.length_append]
      unfold inside at h
      rw [Bool.and_eq_true_iff, decide_eq_true_iff, decide_eq_true_iff] at h
      rw [if_pos (by omega)]
      show tot (pC c a b k ++ [min b (at_ c (k + 1)) - a]) (pD c d a b k ++ [at_ d k]) (pD c d a b k).length + at_ (pD c d a b k ++ [at_ d k]) (pD c d a b k).length * (at_ (pC c a b k ++ [min b (at_ c (k + 1)) - a]) ((pD c d a b k).length + 1) - at_ (pC c a b k ++ [min b (at_ c (k + 1)) - a]) (pD c d a b k).length) = _
      have e := at_end (l := pC c a b k) (x := min b (at_ c (k + 1)) - a)
      rw [hl] at e
      have e2 : at_ (pD c d a b k ++ [at_ d k]) (pD c d a b k).length = at_ d k := at_end
      have e3 : at_ (pC c a b k ++ [min b (at_ c (k + 1)) - a]) (pD c d a b k).length = at_ (pC c a b k) (pD c d a b k).length := at_app (by omega)
      have e4 := tot_congr (c := pC c a b k ++ [min b (at_ c (k + 1)) - a]) (c' := pC c a b k) (d := pD c d a b k ++ [at_ d k]) (d' := pD c d a b k) (pD c d a b k).length (fun j hj => at_app (by omega)) (fun j hj => at_app hj)
      rw [e4, ih, e, e2, e3, hp, Int.mul_comm]
      congr 2
      omega
end Ck
end Go.Proofs.Ytomokdepndclpaa
