/- The plain mathematics of a division of 128 bits by 64 bits, two digits of 32 bits at a time. -/
namespace Go.Proofs.Ytncmffhoodfhjaa
namespace Kn
/-! One digit of a long division: v = v1 * 2^32 + v0 with v1 at least 2^31; r less than v; d a digit. -/
def qt (v r d : Int) : Int := (r * 4294967296 + d) / v

theorem le_of_mul {a b c : Int} (hc : 0 < c) (h : a * c ≤ b * c) : a ≤ b := Int.le_of_mul_le_mul_right h hc

theorem exact {v1 v0 v r d Q R : Int} (hv : v = v1 * 4294967296 + v0) (hv1 : 0 < v) (hr : Q * v1 + R = r) (hge : qt v r d ≤ Q) (hle : Q * v0 ≤ 4294967296 * R + d) : Q = qt v r d := by
  have h : Q ≤ qt v r d := by
    unfold qt
    refine Int.le_ediv_of_mul_le hv1 ?_
    have e : Q * v = (Q * v1) * 4294967296 + Q * v0 := by rw [hv]; grind
    rw [e]
    generalize Q * v1 = A at *
    generalize Q * v0 = C at *
    omega
  omega

theorem lt_base {v r d : Int} (hr : r < v) (h0 : 0 ≤ r) (hd : d < 4294967296) : qt v r d < 4294967296 := by
  unfold qt
  refine Int.ediv_lt_of_lt_mul (by omega) ?_
  rw [Int.mul_comm]
  omega

theorem nonneg {v r d : Int} (hr : r < v) (h0 : 0 ≤ r) (hd : 0 ≤ d) : 0 ≤ qt v r d := by
  unfold qt; exact Int.ediv_nonneg (by omega) (by omega)

theorem less {v1 v0 v r d Q R : Int} (hv : v = v1 * 4294967296 + v0) (hv1 : 0 < v) (hr : Q * v1 + R = r) (hlt : r < v) (h0 : 0 ≤ r) (hd : d < 4294967296)
    (h : 4294967296 ≤ Q ∨ 4294967296 * R + d < Q * v0) : qt v r d ≤ Q - 1 := by
  rcases h with h | h
  · have := lt_base hlt h0 hd; omega
  · have : qt v r d < Q := by
      unfold qt
      refine Int.ediv_lt_of_lt_mul hv1 ?_
      have e : Q * v = (Q * v1) * 4294967296 + Q * v0 := by rw [hv]; grind
      rw [e]
      generalize Q * v1 = A at *
      generalize Q * v0 = C at *
      omega
    omega

theorem broke {v1 v0 v r d Q R : Int} (hv : v = v1 * 4294967296 + v0) (hv1 : 0 < v) (hr : Q * v1 + R = r) (hge : qt v r d ≤ Q) (hQ : Q ≤ 4294967296) (hR : 4294967296 ≤ R) (hv0 : 0 ≤ v0) (hv0' : v0 < 4294967296) (hd : 0 ≤ d) : Q = qt v r d := by
  refine exact hv hv1 hr hge ?_
  have : Q * v0 ≤ 4294967296 * 4294967295 := Int.mul_le_mul hQ (by omega) hv0 (by omega)
  omega

theorem first {v1 v0 v r d : Int} (hv : v = v1 * 4294967296 + v0) (hlt : r < v) (h0 : 0 ≤ r) (hd : d < 4294967296) (hd0 : 0 ≤ d) (hv0 : 0 ≤ v0) (hv0' : v0 < 4294967296) (h1 : 2147483648 ≤ v1) :
    qt v r d ≤ r / v1 ∧ r / v1 ≤ 4294967297 ∧ 0 ≤ r / v1 := by
  refine ⟨?_, ?_, Int.ediv_nonneg h0 (by omega)⟩
  · refine Int.le_ediv_of_mul_le (by omega) ?_
    have h2 : qt v r d * v ≤ r * 4294967296 + d := by unfold qt; exact Int.ediv_mul_le _ (by omega)
    have h3 := nonneg hlt h0 hd0 (d := d)
    have e : qt v r d * v = (qt v r d * v1) * 4294967296 + qt v r d * v0 := by rw [hv]; grind
    have h4 : 0 ≤ qt v r d * v0 := Int.mul_nonneg h3 hv0
    rw [e] at h2
    generalize qt v r d * v1 = A at *
    generalize qt v r d * v0 = C at *
    omega
  · have : r / v1 < 4294967298 := Int.ediv_lt_of_lt_mul (by omega) (by omega)
    omega

theorem rest {v r d : Int} : r * 4294967296 + d - qt v r d * v = (r * 4294967296 + d) % v := by
  unfold qt
  have := Int.emod_def (r * 4294967296 + d) v
  rw [this, Int.mul_comm v]

/-- Two digits. -/
theorem two {v r d1 d0 : Int} (hv : 0 < v) :
    qt v r d1 * 4294967296 + qt v ((r * 4294967296 + d1) % v) d0 = ((r * 4294967296 + d1) * 4294967296 + d0) / v ∧
    (((r * 4294967296 + d1) % v) * 4294967296 + d0) % v = ((r * 4294967296 + d1) * 4294967296 + d0) % v := by
  unfold qt
  generalize hu : r * 4294967296 + d1 = u
  have e := Int.mul_ediv_add_emod u v
  have e2 : u * 4294967296 + d0 = (u % v * 4294967296 + d0) + v * (u / v * 4294967296) := by
    generalize hA : u / v = A at *
    generalize hR : u % v = R at *
    rw [← e]; grind
  rw [e2, Int.add_mul_ediv_left _ _ (by omega), Int.add_mul_emod_self_left]
  constructor
  · omega
  · rfl

/-- Both numbers times 2^s. -/
theorem scaled {u y s : Int} (hs : 0 < s) : (u * s) / (y * s) = u / y ∧ (u * s) % (y * s) = (u % y) * s := by
  exact ⟨Int.mul_ediv_mul_of_pos_left _ _ hs, by rw [Int.mul_comm u, Int.mul_comm y, Int.mul_emod_mul_of_pos _ _ hs, Int.mul_comm]⟩

/-- The shifted number's two halves. -/
theorem shifted {hi lo P T : Int} (hPT : P * T = 18446744073709551616) (hP : 0 < P) (hT : 0 < T) (h0 : 0 ≤ lo) (h1 : lo < 18446744073709551616) :
    (hi * 18446744073709551616 + lo) * P = (hi * P + lo / T) * 18446744073709551616 + lo * P % 18446744073709551616 ∧ 0 ≤ lo / T ∧ lo / T < P := by
  have a : lo * P % 18446744073709551616 = (lo % T) * P := by
    rw [← hPT, Int.mul_comm lo P, Int.mul_emod_mul_of_pos _ _ hP, Int.mul_comm]
  have e := Int.mul_ediv_add_emod lo T
  refine ⟨?_, Int.ediv_nonneg h0 (by omega), ?_⟩
  · rw [a]
    generalize hA : lo / T = A at *
    generalize hR : lo % T = R at *
    rw [← e, ← hPT]; grind
  · refine Int.ediv_lt_of_lt_mul hT ?_
    rw [hPT]; exact h1
theorem shifted_lt {hi lo y P X L : Int} (h : (hi * 18446744073709551616 + lo) * P = X * 18446744073709551616 + L) (hP : 0 < P) (hL : 0 ≤ L) (hy : hi < y) (h1 : lo < 18446744073709551616) : X < y * P := by
  have a : (hi * 18446744073709551616 + lo) * P < (y * 18446744073709551616) * P := Int.mul_lt_mul_of_pos_right (by omega) hP
  rw [h] at a
  have e : y * 18446744073709551616 * P = (y * P) * 18446744073709551616 := by grind
  rw [e] at a
  generalize y * P = Y at *
  omega
end Kn
end Go.Proofs.Ytncmffhoodfhjaa
