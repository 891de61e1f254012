/- The laws of the functions that say what ratios return: plain mathematics. -/
import Derived.Test.YtaaamcleilpnhaaNum
import Derived.Test.YtaaamcleilpnhaaTxt
namespace Go.Proofs.Ytaaamcleilpnhaa
namespace Rp
theorem ofQ_cases (r : Rat) : ((ofQ r).2.2 = 0 ∧ Ok (ofQ r).1 (ofQ r).2.1 ∧ q (ofQ r).1 (ofQ r).2.1 = r) ∨ ofQ r = (0, 0, 16) := by
  unfold ofQ low
  have hd : 0 < r.den := r.den_pos
  split
  · rename_i h
    refine .inl ⟨rfl, ⟨show (1 : Int) ≤ (r.den : Int) by omega, show (r.den : Int) ≤ 1000000000000000000 by omega, show -1000000000000000000 ≤ r.num by omega, show r.num ≤ 1000000000000000000 by omega, ?_⟩, q_self r⟩
    have := r.reduced
    simpa [Nat.Coprime] using this
  · exact .inr rfl
theorem ofQ_ok {r : Rat} {a b c : Int} (h : ofQ r = (a, b, c)) (hc : c = 0) : Ok a b ∧ q a b = r := by
  rcases ofQ_cases r with ⟨_, h1, h2⟩ | h1
  · rw [h] at h1 h2; exact ⟨h1, h2⟩
  · rw [h] at h1; cases h1; cases hc
theorem ofQ_err {r : Rat} {a b c : Int} (h : ofQ r = (a, b, c)) : c = 0 ∨ (a = 0 ∧ b = 0 ∧ c = 16) := by
  rcases ofQ_cases r with ⟨h1, _, _⟩ | h1
  · rw [h] at h1; exact .inl h1
  · rw [h] at h1; cases h1; exact .inr ⟨rfl, rfl, rfl⟩
theorem ofQ_q {n d : Int} (h : Ok n d) : ofQ (q n d) = (n, d, 0) := by
  unfold ofQ low
  rw [q_num h, q_denI h]
  obtain ⟨h1, h2, h3, h4, _⟩ := h
  rw [if_pos (by omega)]
theorem q_inj {n d m c : Int} (h : Ok n d) (k : Ok m c) (e : q n d = q m c) : n = m ∧ d = c := by
  have h1 := ofQ_q h
  have h2 := ofQ_q k
  rw [e, h2] at h1
  cases h1
  exact ⟨rfl, rfl⟩
theorem both_ok {n d m c : Int} (h : Ok n d) (k : Ok m c) : both n d m c = 0 := by unfold both chk; rw [if_pos h, if_pos k]
theorem addS_ok {n d m c : Int} (h : Ok n d) (k : Ok m c) : addS n d m c = ofQ (q n d + q m c) := by unfold addS add; rw [if_pos (both_ok h k)]
theorem subS_ok {n d m c : Int} (h : Ok n d) (k : Ok m c) : subS n d m c = ofQ (q n d - q m c) := by unfold subS; rw [if_pos (both_ok h k)]
theorem mulS_ok {n d m c : Int} (h : Ok n d) (k : Ok m c) : mulS n d m c = ofQ (q n d * q m c) := by unfold mulS mul; rw [if_pos (both_ok h k)]
theorem divS_ok {n d m c : Int} (h : Ok n d) (k : Ok m c) (hm : ¬ m = 0) : divS n d m c = ofQ (q n d / q m c) := by unfold divS; rw [if_pos (both_ok h k), if_neg hm]
theorem divS_zero {n d m c : Int} (h : Ok n d) (k : Ok m c) (hm : m = 0) : divS n d m c = (0, 0, 18) := by unfold divS; rw [if_pos (both_ok h k), if_pos hm]
theorem cmpS_ok {n d m c : Int} (h : Ok n d) (k : Ok m c) : cmpS n d m c = (cmpQ (q n d) (q m c), 0) := by unfold cmpS; rw [if_pos (both_ok h k)]
theorem floorS_ok {n d : Int} (h : Ok n d) : floorS n d = (n / d, 0) := by
  unfold floorS
  rw [if_pos h, Rat.floor_def, q_num h, q_denI h]
theorem q_ne {m c : Int} (k : Ok m c) (hm : ¬ m = 0) : q m c ≠ 0 := by
  intro e
  have := q_num k
  rw [e] at this
  exact hm this.symm

theorem cmp_cases (x y : Rat) : (cmpQ x y = -1 ∧ x < y) ∨ (cmpQ x y = 0 ∧ x = y) ∨ (cmpQ x y = 1 ∧ y < x) := by
  unfold cmpQ
  by_cases h : x < y
  · rw [if_pos h]; exact .inl ⟨rfl, h⟩
  · rw [if_neg h]
    by_cases k : y < x
    · rw [if_pos k]; exact .inr (.inr ⟨rfl, k⟩)
    · rw [if_neg k]; exact .inr (.inl ⟨rfl, Rat.le_antisymm (Rat.not_lt.1 k) (Rat.not_lt.1 h)⟩)
theorem cmp_neg (x y : Rat) : cmpQ y x = -cmpQ x y := by
  rcases cmp_cases x y with ⟨e, h⟩ | ⟨e, h⟩ | ⟨e, h⟩ <;> rcases cmp_cases y x with ⟨f, k⟩ | ⟨f, k⟩ | ⟨f, k⟩ <;> rw [e, f] <;> first | rfl | (exfalso; grind)
theorem cmp_trans (x y z : Rat) (h : cmpQ x y ≤ 0) (k : cmpQ y z ≤ 0) : cmpQ x z ≤ 0 := by
  rcases cmp_cases x y with ⟨e, h1⟩ | ⟨e, h1⟩ | ⟨e, h1⟩ <;> rcases cmp_cases y z with ⟨f, k1⟩ | ⟨f, k1⟩ | ⟨f, k1⟩ <;> rcases cmp_cases x z with ⟨g, l1⟩ | ⟨g, l1⟩ | ⟨g, l1⟩ <;> first | omega | (exfalso; grind)
theorem cmp_add (x y z : Rat) : cmpQ (x + z) (y + z) = cmpQ x y := by
  rcases cmp_cases (x + z) (y + z) with ⟨e, h⟩ | ⟨e, h⟩ | ⟨e, h⟩ <;> rcases cmp_cases x y with ⟨f, k⟩ | ⟨f, k⟩ | ⟨f, k⟩ <;> rw [e, f] <;> (exfalso; grind)
theorem Ok_one {F : Int} (h0 : -1000000000000000000 ≤ F) (h1 : F ≤ 1000000000000000000) : Ok F 1 := ⟨by omega, by omega, h0, h1, by simp⟩
theorem floor_bounds {n d : Int} (h : Ok n d) : -1000000000000000000 ≤ n / d ∧ n / d ≤ 1000000000000000000 := by
  obtain ⟨h1, h2, h3, h4, _⟩ := h
  have e := Int.mul_ediv_add_emod n d
  have m0 := Int.emod_nonneg n (show d ≠ 0 by omega)
  have m1 := Int.emod_lt_of_pos n (show 0 < d by omega)
  constructor
  · rw [Int.le_ediv_iff_mul_le (by omega)]
    have : (1000000000000000000 : Int) * 1 ≤ 1000000000000000000 * d := Int.mul_le_mul_of_nonneg_left h1 (by omega)
    omega
  · have : n / d ≤ 1000000000000000000 / 1 ∨ True := .inr trivial
    apply Int.ediv_le_of_le_mul (by omega)
    have : (1000000000000000000 : Int) * 1 ≤ 1000000000000000000 * d := Int.mul_le_mul_of_nonneg_left h1 (by omega)
    omega
/-- The floor is less, or it is the ratio. -/
theorem floor_low {n d : Int} (h : Ok n d) : cmpQ (q (n / d) 1) (q n d) = -1 ∨ (cmpQ (q (n / d) 1) (q n d) = 0 ∧ d = 1) := by
  obtain ⟨b0, b1⟩ := floor_bounds h
  have k := Ok_one b0 b1
  have h' := h
  obtain ⟨h1, h2, h3, h4, h5⟩ := h'
  have e := Int.mul_ediv_add_emod n d
  have m0 := Int.emod_nonneg n (show d ≠ 0 by omega)
  rcases cmp_cases (q (n / d) 1) (q n d) with ⟨c, _⟩ | ⟨c, l⟩ | ⟨c, l⟩
  · exact .inl c
  · exact .inr ⟨c, (q_inj k h l).2.symm⟩
  · rw [Rat.lt_iff, q_num h, q_num k, q_denI h, q_denI k] at l
    rw [Int.mul_comm d (n / d)] at e
    omega
theorem floor_high {n d : Int} (h : Ok n d) (hF : ¬ n / d = 1000000000000000000) : cmpQ (q n d) (q (n / d + 1) 1) = -1 := by
  obtain ⟨b0, b1⟩ := floor_bounds h
  have k := Ok_one (F := n / d + 1) (by omega) (by omega)
  have h' := h
  obtain ⟨h1, h2, h3, h4, h5⟩ := h'
  have e := Int.mul_ediv_add_emod n d
  have m1 := Int.emod_lt_of_pos n (show 0 < d by omega)
  have l : q n d < q (n / d + 1) 1 := by
    rw [Rat.lt_iff, q_num h, q_num k, q_denI h, q_denI k, Int.add_mul, Int.mul_comm (n / d) d]
    omega
  unfold cmpQ
  rw [if_pos l]
theorem floor_great {n d : Int} (h : Ok n d) (hF : n / d = 1000000000000000000) : d = 1 := by
  obtain ⟨h1, h2, h3, h4, h5⟩ := h
  have e := Int.mul_ediv_add_emod n d
  have m0 := Int.emod_nonneg n (show d ≠ 0 by omega)
  rw [hF] at e
  omega
end Rp
end Go.Proofs.Ytaaamcleilpnhaa
