/- The plain mathematics of ratios: what the functions of layer 1 return, as functions on integers and rational numbers. The texts of ratios: what Text and Parse return, as functions on lists of bytes. The laws of the functions that say what ratios return: plain mathematics. The plain mathematics of a division of 128 bits by 64 bits, two digits of 32 bits at a time. -/
import Derived.Lib.ItoaNum
import Derived.Lib.ParseIntB
import Derived.Lib.ParseIntBCases
import Derived.Lib.IndexMore
namespace Go.Proofs.YtniagnldiegamaaGreat
namespace Rp
/-- A valid ratio. -/
def Ok (n d : Int) : Prop := 1 ≤ d ∧ d ≤ 1000000000000000000 ∧ -1000000000000000000 ≤ n ∧ n ≤ 1000000000000000000 ∧ Nat.gcd n.natAbs d.natAbs = 1
instance (n d : Int) : Decidable (Ok n d) := by unfold Ok; infer_instance
def chk (n d : Int) : Int := if Ok n d then 0 else 8
def both (n d m c : Int) : Int := if Ok n d then chk m c else 8
def q (n d : Int) : Rat := Rat.divInt n d
/-- Numerator, denominator, error. -/
def low (n d : Int) : Int × Int × Int := if n.natAbs ≤ 1000000000000000000 ∧ d.natAbs ≤ 1000000000000000000 then (n, d, 0) else (0, 0, 16)
def ofQ (r : Rat) : Int × Int × Int := low r.num r.den
def add (n d m c : Int) : Int × Int × Int := ofQ (q n d + q m c)
def mul (n d m c : Int) : Int × Int × Int := ofQ (q n d * q m c)
def addS (n d m c : Int) : Int × Int × Int := if both n d m c = 0 then add n d m c else (0, 0, 8)
def subS (n d m c : Int) : Int × Int × Int := if both n d m c = 0 then ofQ (q n d - q m c) else (0, 0, 8)
def mulS (n d m c : Int) : Int × Int × Int := if both n d m c = 0 then mul n d m c else (0, 0, 8)
def divS (n d m c : Int) : Int × Int × Int := if both n d m c = 0 then (if m = 0 then (0, 0, 18) else ofQ (q n d / q m c)) else (0, 0, 8)
def makeS (n d : Int) : Int × Int × Int := if d = 0 then (0, 0, 18) else ofQ (q n d)
def cmpQ (x y : Rat) : Int := if x < y then -1 else if y < x then 1 else 0
def cmpS (n d m c : Int) : Int × Int := if both n d m c = 0 then (cmpQ (q n d) (q m c), 0) else (0, 8)
theorem q_num {n d : Int} (h : Ok n d) : (q n d).num = n := by
  obtain ⟨h1, _, _, _, h5⟩ := h
  unfold q
  rw [Rat.num_divInt, Int.sign_eq_one_of_pos (by omega), Int.one_mul]
  have : Int.gcd d n = 1 := by rw [Int.gcd_comm]; exact h5
  rw [this]; simp
theorem q_den {n d : Int} (h : Ok n d) : (q n d).den = d.natAbs := by
  obtain ⟨h1, _, _, _, h5⟩ := h
  unfold q
  rw [Rat.den_divInt, if_neg (by omega)]
  have : Int.gcd d n = 1 := by rw [Int.gcd_comm]; exact h5
  rw [this]; simp
theorem q_denI {n d : Int} (h : Ok n d) : ((q n d).den : Int) = d := by
  rw [q_den h]; obtain ⟨h1, _⟩ := h; omega
theorem q_self (r : Rat) : q r.num r.den = r := by
  unfold q; exact Rat.num_divInt_den r

theorem gcd_mod_right (a b : Nat) : Nat.gcd a (b % a) = Nat.gcd a b := by
  rw [Nat.gcd_comm, ← Nat.gcd_rec]

/-- The sum, as it is reckoned. -/
theorem add_parts {n d m c : Int} (h : Ok n d) (k : Ok m c) (g : Nat) (hg : g = Nat.gcd d.natAbs c.natAbs) (N : Int) (hN : N = n * (c / (g : Int)) + m * (d / (g : Int))) (cn : Nat) (hc : cn = Nat.gcd g (N.natAbs % g)) :
    (q n d + q m c).num = N / (cn : Int) ∧ ((q n d + q m c).den : Int) = (d / (g : Int)) * (c / (cn : Int)) ∧ (cn : Int) ∣ N ∧ 1 ≤ g ∧ 1 ≤ cn ∧ cn ≤ g := by
  have hd1 : 0 < d := by have := h.1; omega
  have hc1 : 0 < c := by have := k.1; omega
  obtain ⟨D, rfl⟩ := Int.eq_ofNat_of_zero_le (Int.le_of_lt hd1); obtain ⟨C, rfl⟩ := Int.eq_ofNat_of_zero_le (Int.le_of_lt hc1)
  simp only [Int.natAbs_natCast] at hg
  have D1 : 0 < D := by omega
  have C1 : 0 < C := by omega
  have g1 : 0 < g := by rw [hg]; exact Nat.gcd_pos_of_pos_left _ D1
  have gD : g ∣ D := by rw [hg]; exact Nat.gcd_dvd_left ..
  have gC : g ∣ C := by rw [hg]; exact Nat.gcd_dvd_right ..
  have hcn : cn = N.natAbs.gcd g := by rw [hc, gcd_mod_right, Nat.gcd_comm]
  have hN' : N = n * ((C / g : Nat) : Int) + m * ((D / g : Nat) : Int) := by rw [hN]; simp
  have aux := Rat.add.aux (q n D) (q m C) (g := g) (by rw [q_den h, q_den k]; simpa using hg) rfl rfl
  simp only [q_num h, q_num k, q_den h, q_den k, Int.natAbs_natCast] at aux
  rw [← hN', ← hcn] at aux
  have hsum : q n D + q m C = mkRat N (D / g * C) := by
    show Rat.divInt n (D : Int) + Rat.divInt m (C : Int) = _
    rw [Rat.divInt_add_divInt _ _ (by omega) (by omega), ← Int.natCast_mul, Rat.divInt_ofNat]; rw [← Rat.mkRat_mul_left (a := g) (by omega) (n := N)]
    congr 1
    · rw [hN', Int.mul_add]
      congr 1
      · rw [← Int.mul_assoc, Int.mul_comm (g : Int) n, Int.mul_assoc, ← Int.natCast_mul, Nat.mul_div_cancel' gC]
      · rw [← Int.mul_assoc, Int.mul_comm (g : Int) m, Int.mul_assoc, ← Int.natCast_mul, Nat.mul_div_cancel' gD]
    · rw [← Nat.mul_assoc, Nat.mul_div_cancel' gD]
  have cg : cn ∣ g := by rw [hcn]; exact Nat.gcd_dvd_right ..
  have cnN : (cn : Int) ∣ N := by rw [hcn]; exact Int.ofNat_dvd_left.2 (Nat.gcd_dvd_left ..)
  have cn1 : 0 < cn := by rw [hcn]; exact Nat.gcd_pos_of_pos_right _ g1
  have hz : D / g * C ≠ 0 := by
    have : 0 < D / g := Nat.div_pos (Nat.le_of_dvd D1 gD) g1; exact Nat.ne_of_gt (Nat.mul_pos this C1)
  refine ⟨?_, ?_, cnN, g1, cn1, Nat.le_of_dvd g1 cg⟩
  · rw [hsum, Rat.num_mkRat, if_neg hz, Nat.gcd_comm, ← aux]
  · rw [hsum, Rat.den_mkRat, if_neg hz, Nat.gcd_comm, ← aux]
    rw [Nat.mul_div_assoc _ (Nat.dvd_trans cg gC)]
    simp

/-- The product, as it is reckoned. -/
theorem mul_parts {n d m c : Int} (h : Ok n d) (k : Ok m c) (a b : Nat) (ha : a = Nat.gcd n.natAbs c.natAbs) (hb : b = Nat.gcd m.natAbs d.natAbs) :
    (q n d * q m c).num = n.tdiv a * m.tdiv b ∧ ((q n d * q m c).den : Int) = (d / (b : Int)) * (c / (a : Int)) ∧ 1 ≤ a ∧ 1 ≤ b ∧ (a : Int) ∣ n ∧ (b : Int) ∣ m ∧ (a : Int) ≤ c ∧ (b : Int) ≤ d := by
  have hd1 : 0 < d := by have := h.1; omega
  have hc1 : 0 < c := by have := k.1; omega
  obtain ⟨D, rfl⟩ := Int.eq_ofNat_of_zero_le (Int.le_of_lt hd1); obtain ⟨C, rfl⟩ := Int.eq_ofNat_of_zero_le (Int.le_of_lt hc1)
  simp only [Int.natAbs_natCast] at ha hb
  have D1 : 0 < D := by omega
  have C1 : 0 < C := by omega
  have e : q n D * q m C = Rat.mul (q n D) (q m C) := rfl
  have a1 : 0 < a := by rw [ha]; exact Nat.gcd_pos_of_pos_right _ C1
  have b1 : 0 < b := by rw [hb]; exact Nat.gcd_pos_of_pos_right _ D1
  refine ⟨?_, ?_, a1, b1, ?_, ?_, ?_, ?_⟩
  · rw [e]; delta Rat.mul; dsimp only
    simp only [q_num h, q_num k, q_den h, q_den k, Int.natAbs_natCast, Int.divExact_eq_tdiv, ← ha, ← hb]
  · rw [e]; delta Rat.mul; dsimp only
    simp only [q_num h, q_num k, q_den h, q_den k, Int.natAbs_natCast, Nat.divExact_eq_div, ← ha, ← hb]
    simp
  · rw [ha]; exact Int.ofNat_dvd_left.2 (Nat.gcd_dvd_left ..)
  · rw [hb]; exact Int.ofNat_dvd_left.2 (Nat.gcd_dvd_left ..)
  · have : a ≤ C := Nat.le_of_dvd C1 (by rw [ha]; exact Nat.gcd_dvd_right ..)
    omega
  · have : b ≤ D := Nat.le_of_dvd D1 (by rw [hb]; exact Nat.gcd_dvd_right ..)
    omega
end Rp
end Go.Proofs.YtniagnldiegamaaGreat
namespace Go.Proofs.YtniagnldiegamaaGreat
namespace Rp
end Rp
end Go.Proofs.YtniagnldiegamaaGreat
namespace Go.Proofs.YtniagnldiegamaaGreat
namespace Rp
theorem ofQ_cases (r : Rat) : ((ofQ r).2.2 = 0 ∧ Ok (ofQ r).1 (ofQ r).2.1 ∧ q (ofQ r).1 (ofQ r).2.1 = r) ∨ ofQ r = (0, 0, 16) := by
  unfold ofQ low
  have hd : 0 < r.den := r.den_pos
  split
  · rename_i h
    refine .inl ⟨rfl, ⟨show (1 : Int) ≤ (r.den : Int) by omega, show (r.den : Int) ≤ 1000000000000000000 by omega, show -1000000000000000000 ≤ r.num by omega, show r.num ≤ 1000000000000000000 by omega, ?_⟩, q_self r⟩; have := r.reduced
    simpa [Nat.Coprime] using this
  · exact .inr rfl
theorem ofQ_q {n d : Int} (h : Ok n d) : ofQ (q n d) = (n, d, 0) := by
  unfold ofQ low
  rw [q_num h, q_denI h]; obtain ⟨h1, h2, h3, h4, _⟩ := h; rw [if_pos (by omega)]
theorem q_inj {n d m c : Int} (h : Ok n d) (k : Ok m c) (e : q n d = q m c) : n = m ∧ d = c := by
  have h1 := ofQ_q h; have h2 := ofQ_q k; rw [e, h2] at h1
  cases h1
  exact ⟨rfl, rfl⟩
theorem both_ok {n d m c : Int} (h : Ok n d) (k : Ok m c) : both n d m c = 0 := by unfold both chk; rw [if_pos h, if_pos k]
theorem addS_ok {n d m c : Int} (h : Ok n d) (k : Ok m c) : addS n d m c = ofQ (q n d + q m c) := by unfold addS add; rw [if_pos (both_ok h k)]
theorem subS_ok {n d m c : Int} (h : Ok n d) (k : Ok m c) : subS n d m c = ofQ (q n d - q m c) := by unfold subS; rw [if_pos (both_ok h k)]
theorem mulS_ok {n d m c : Int} (h : Ok n d) (k : Ok m c) : mulS n d m c = ofQ (q n d * q m c) := by unfold mulS mul; rw [if_pos (both_ok h k)]
theorem divS_ok {n d m c : Int} (h : Ok n d) (k : Ok m c) (hm : ¬ m = 0) : divS n d m c = ofQ (q n d / q m c) := by unfold divS; rw [if_pos (both_ok h k), if_neg hm]
theorem cmpS_ok {n d m c : Int} (h : Ok n d) (k : Ok m c) : cmpS n d m c = (cmpQ (q n d) (q m c), 0) := by unfold cmpS; rw [if_pos (both_ok h k)]
theorem Ok_one {F : Int} (h0 : -1000000000000000000 ≤ F) (h1 : F ≤ 1000000000000000000) : Ok F 1 := ⟨by omega, by omega, h0, h1, by simp⟩
end Rp
end Go.Proofs.YtniagnldiegamaaGreat
namespace Go.Proofs.YtniagnldiegamaaGreat
namespace Kn
/-! One digit of a long division: v = v1 * 2^32 + v0 with v1 at least 2^31; r less than v; d a digit. -/
def qt (v r d : Int) : Int := (r * 4294967296 + d) / v

theorem exact {v1 v0 v r d Q R : Int} (hv : v = v1 * 4294967296 + v0) (hv1 : 0 < v) (hr : Q * v1 + R = r) (hge : qt v r d ≤ Q) (hle : Q * v0 ≤ 4294967296 * R + d) : Q = qt v r d := by
  have h : Q ≤ qt v r d := by
    unfold qt
    refine Int.le_ediv_of_mul_le hv1 ?_
    have e : Q * v = (Q * v1) * 4294967296 + Q * v0 := by rw [hv]; grind
    rw [e]
    generalize Q * v1 = A at *
    generalize Q * v0 = C at *
    omega
  omega

theorem lt_base {v r d : Int} (hr : r < v) (h0 : 0 ≤ r) (hd : d < 4294967296) : qt v r d < 4294967296 := by
  unfold qt
  refine Int.ediv_lt_of_lt_mul (by omega) ?_; rw [Int.mul_comm]
  omega

theorem nonneg {v r d : Int} (hr : r < v) (h0 : 0 ≤ r) (hd : 0 ≤ d) : 0 ≤ qt v r d := by
  unfold qt; exact Int.ediv_nonneg (by omega) (by omega)

theorem less {v1 v0 v r d Q R : Int} (hv : v = v1 * 4294967296 + v0) (hv1 : 0 < v) (hr : Q * v1 + R = r) (hlt : r < v) (h0 : 0 ≤ r) (hd : d < 4294967296)
    (h : 4294967296 ≤ Q ∨ 4294967296 * R + d < Q * v0) : qt v r d ≤ Q - 1 := by
  rcases h with h | h
  · have := lt_base hlt h0 hd; omega
  · have : qt v r d < Q := by
      unfold qt
      refine Int.ediv_lt_of_lt_mul hv1 ?_
      have e : Q * v = (Q * v1) * 4294967296 + Q * v0 := by rw [hv]; grind
      rw [e]
      generalize Q * v1 = A at *
      generalize Q * v0 = C at *
      omega
    omega

theorem broke {v1 v0 v r d Q R : Int} (hv : v = v1 * 4294967296 + v0) (hv1 : 0 < v) (hr : Q * v1 + R = r) (hge : qt v r d ≤ Q) (hQ : Q ≤ 4294967296) (hR : 4294967296 ≤ R) (hv0 : 0 ≤ v0) (hv0' : v0 < 4294967296) (hd : 0 ≤ d) : Q = qt v r d := by
  refine exact hv hv1 hr hge ?_; have : Q * v0 ≤ 4294967296 * 4294967295 := Int.mul_le_mul hQ (by omega) hv0 (by omega)
  omega

theorem first {v1 v0 v r d : Int} (hv : v = v1 * 4294967296 + v0) (hlt : r < v) (h0 : 0 ≤ r) (hd : d < 4294967296) (hd0 : 0 ≤ d) (hv0 : 0 ≤ v0) (hv0' : v0 < 4294967296) (h1 : 2147483648 ≤ v1) :
    qt v r d ≤ r / v1 ∧ r / v1 ≤ 4294967297 ∧ 0 ≤ r / v1 := by
  refine ⟨?_, ?_, Int.ediv_nonneg h0 (by omega)⟩
  · refine Int.le_ediv_of_mul_le (by omega) ?_
    have h2 : qt v r d * v ≤ r * 4294967296 + d := by unfold qt; exact Int.ediv_mul_le _ (by omega)
    have h3 := nonneg hlt h0 hd0 (d := d)
    have e : qt v r d * v = (qt v r d * v1) * 4294967296 + qt v r d * v0 := by rw [hv]; grind
    have h4 : 0 ≤ qt v r d * v0 := Int.mul_nonneg h3 hv0; rw [e] at h2
    generalize qt v r d * v1 = A at *
    generalize qt v r d * v0 = C at *
    omega
  · have : r / v1 < 4294967298 := Int.ediv_lt_of_lt_mul (by omega) (by omega)
    omega

theorem rest {v r d : Int} : r * 4294967296 + d - qt v r d * v = (r * 4294967296 + d) % v := by
  unfold qt
  have := Int.emod_def (r * 4294967296 + d) v; rw [this, Int.mul_comm v]

/-- Two digits. -/
theorem two {v r d1 d0 : Int} (hv : 0 < v) :
    qt v r d1 * 4294967296 + qt v ((r * 4294967296 + d1) % v) d0 = ((r * 4294967296 + d1) * 4294967296 + d0) / v ∧
    (((r * 4294967296 + d1) % v) * 4294967296 + d0) % v = ((r * 4294967296 + d1) * 4294967296 + d0) % v := by
  unfold qt
  generalize hu : r * 4294967296 + d1 = u
  have e := Int.mul_ediv_add_emod u v
  have e2 : u * 4294967296 + d0 = (u % v * 4294967296 + d0) + v * (u / v * 4294967296) := by
    generalize hA : u / v = A at *
    generalize hR : u % v = R at *
    rw [← e]; grind
  rw [e2, Int.add_mul_ediv_left _ _ (by omega), Int.add_mul_emod_self_left]
  constructor
  · omega
  · rfl

/-- Both numbers times 2^s. -/
theorem scaled {u y s : Int} (hs : 0 < s) : (u * s) / (y * s) = u / y ∧ (u * s) % (y * s) = (u % y) * s := by
  exact ⟨Int.mul_ediv_mul_of_pos_left _ _ hs, by rw [Int.mul_comm u, Int.mul_comm y, Int.mul_emod_mul_of_pos _ _ hs, Int.mul_comm]⟩

/-- The shifted number's two halves. -/
theorem shifted {hi lo P T : Int} (hPT : P * T = 18446744073709551616) (hP : 0 < P) (hT : 0 < T) (h0 : 0 ≤ lo) (h1 : lo < 18446744073709551616) :
    (hi * 18446744073709551616 + lo) * P = (hi * P + lo / T) * 18446744073709551616 + lo * P % 18446744073709551616 ∧ 0 ≤ lo / T ∧ lo / T < P := by
  have a : lo * P % 18446744073709551616 = (lo % T) * P := by
    rw [← hPT, Int.mul_comm lo P, Int.mul_emod_mul_of_pos _ _ hP, Int.mul_comm]
  have e := Int.mul_ediv_add_emod lo T; refine ⟨?_, Int.ediv_nonneg h0 (by omega), ?_⟩
  · rw [a]
    generalize hA : lo / T = A at *
    generalize hR : lo % T = R at *
    rw [← e, ← hPT]; grind
  · refine Int.ediv_lt_of_lt_mul hT ?_
    rw [hPT]; exact h1
theorem shifted_lt {hi lo y P X L : Int} (h : (hi * 18446744073709551616 + lo) * P = X * 18446744073709551616 + L) (hP : 0 < P) (hL : 0 ≤ L) (hy : hi < y) (h1 : lo < 18446744073709551616) : X < y * P := by
  have a : (hi * 18446744073709551616 + lo) * P < (y * 18446744073709551616) * P := Int.mul_lt_mul_of_pos_right (by omega) hP; rw [h] at a
  have e : y * 18446744073709551616 * P = (y * P) * 18446744073709551616 := by grind
  rw [e] at a
  generalize y * P = Y at *
  omega
end Kn
end Go.Proofs.YtniagnldiegamaaGreat

