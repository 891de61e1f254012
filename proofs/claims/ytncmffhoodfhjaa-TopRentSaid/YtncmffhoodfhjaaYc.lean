/- The plain mathematics of ratios: what the functions of layer 1 return, as functions on integers and rational numbers. Ratios whose denominator is the number of rooms. -/
namespace Go.Proofs.Ytncmffhoodfhjaa
namespace Rp
/-- A valid ratio. -/
def Ok (n d : Int) : Prop := 1 ≤ d ∧ d ≤ 1000000000000000000 ∧ -1000000000000000000 ≤ n ∧ n ≤ 1000000000000000000 ∧ Nat.gcd n.natAbs d.natAbs = 1
instance (n d : Int) : Decidable (Ok n d) := by unfold Ok; infer_instance
def okB (n d : Int) : Bool := decide (Ok n d)
def chk (n d : Int) : Int := if Ok n d then 0 else 8
def both (n d m c : Int) : Int := if Ok n d then chk m c else 8
def q (n d : Int) : Rat := Rat.divInt n d
/-- Numerator, denominator, error. -/
def low (n d : Int) : Int × Int × Int := if n.natAbs ≤ 1000000000000000000 ∧ d.natAbs ≤ 1000000000000000000 then (n, d, 0) else (0, 0, 16)
def ofQ (r : Rat) : Int × Int × Int := low r.num r.den
def add (n d m c : Int) : Int × Int × Int := ofQ (q n d + q m c)
def mul (n d m c : Int) : Int × Int × Int := ofQ (q n d * q m c)
def addS (n d m c : Int) : Int × Int × Int := if both n d m c = 0 then add n d m c else (0, 0, 8)
def subS (n d m c : Int) : Int × Int × Int := if both n d m c = 0 then ofQ (q n d - q m c) else (0, 0, 8)
def mulS (n d m c : Int) : Int × Int × Int := if both n d m c = 0 then mul n d m c else (0, 0, 8)
def divS (n d m c : Int) : Int × Int × Int := if both n d m c = 0 then (if m = 0 then (0, 0, 18) else ofQ (q n d / q m c)) else (0, 0, 8)
def makeS (n d : Int) : Int × Int × Int := if d = 0 then (0, 0, 18) else ofQ (q n d)
def cmpQ (x y : Rat) : Int := if x < y then -1 else if y < x then 1 else 0
def cmpS (n d m c : Int) : Int × Int := if both n d m c = 0 then (cmpQ (q n d) (q m c), 0) else (0, 8)
def floorS (n d : Int) : Int × Int := if Ok n d then ((q n d).floor, 0) else (0, 8)

theorem q_num {n d : Int} (h : Ok n d) : (q n d).num = n := by
  obtain ⟨h1, _, _, _, h5⟩ := h
  unfold q
  rw [Rat.num_divInt, Int.sign_eq_one_of_pos (by omega), Int.one_mul]
  have : Int.gcd d n = 1 := by rw [Int.gcd_comm]; exact h5
  rw [this]; simp
theorem q_den {n d : Int} (h : Ok n d) : (q n d).den = d.natAbs := by
  obtain ⟨h1, _, _, _, h5⟩ := h
  unfold q
  rw [Rat.den_divInt, if_neg (by omega)]
  have : Int.gcd d n = 1 := by rw [Int.gcd_comm]; exact h5
  rw [this]; simp
theorem q_denI {n d : Int} (h : Ok n d) : ((q n d).den : Int) = d := by
  rw [q_den h]; obtain ⟨h1, _⟩ := h; omega
theorem q_self (r : Rat) : q r.num r.den = r := by
  unfold q; exact Rat.num_divInt_den r

theorem gcd_mod_right (a b : Nat) : Nat.gcd a (b % a) = Nat.gcd a b := by
  rw [Nat.gcd_comm, ← Nat.gcd_rec]

/-- The sum, as it is reckoned. -/
theorem add_parts {n d m c : Int} (h : Ok n d) (k : Ok m c) (g : Nat) (hg : g = Nat.gcd d.natAbs c.natAbs) (N : Int) (hN : N = n * (c / (g : Int)) + m * (d / (g : Int))) (cn : Nat) (hc : cn = Nat.gcd g (N.natAbs % g)) :
    (q n d + q m c).num = N / (cn : Int) ∧ ((q n d + q m c).den : Int) = (d / (g : Int)) * (c / (cn : Int)) ∧ (cn : Int) ∣ N ∧ 1 ≤ g ∧ 1 ≤ cn ∧ cn ≤ g := by
  have hd1 : 0 < d := by have := h.1; omega
  have hc1 : 0 < c := by have := k.1; omega
  obtain ⟨D, rfl⟩ := Int.eq_ofNat_of_zero_le (Int.le_of_lt hd1)
  obtain ⟨C, rfl⟩ := Int.eq_ofNat_of_zero_le (Int.le_of_lt hc1)
  simp only [Int.natAbs_natCast] at hg
  have D1 : 0 < D := by omega
  have C1 : 0 < C := by omega
  have g1 : 0 < g := by rw [hg]; exact Nat.gcd_pos_of_pos_left _ D1
  have gD : g ∣ D := by rw [hg]; exact Nat.gcd_dvd_left ..
  have gC : g ∣ C := by rw [hg]; exact Nat.gcd_dvd_right ..
  have hcn : cn = N.natAbs.gcd g := by rw [hc, gcd_mod_right, Nat.gcd_comm]
  have hN' : N = n * ((C / g : Nat) : Int) + m * ((D / g : Nat) : Int) := by rw [hN]; simp
  have aux := Rat.add.aux (q n D) (q m C) (g := g) (by rw [q_den h, q_den k]; simpa using hg) rfl rfl
  simp only [q_num h, q_num k, q_den h, q_den k, Int.natAbs_natCast] at aux
  rw [← hN', ← hcn] at aux
  have hsum : q n D + q m C = mkRat N (D / g * C) := by
    show Rat.divInt n (D : Int) + Rat.divInt m (C : Int) = _
    rw [Rat.divInt_add_divInt _ _ (by omega) (by omega), ← Int.natCast_mul, Rat.divInt_ofNat]
    rw [← Rat.mkRat_mul_left (a := g) (by omega) (n := N)]
    congr 1
    · rw [hN', Int.mul_add]
      congr 1
      · rw [← Int.mul_assoc, Int.mul_comm (g : Int) n, Int.mul_assoc, ← Int.natCast_mul, Nat.mul_div_cancel' gC]
      · rw [← Int.mul_assoc, Int.mul_comm (g : Int) m, Int.mul_assoc, ← Int.natCast_mul, Nat.mul_div_cancel' gD]
    · rw [← Nat.mul_assoc, Nat.mul_div_cancel' gD]
  have cg : cn ∣ g := by rw [hcn]; exact Nat.gcd_dvd_right ..
  have cnN : (cn : Int) ∣ N := by rw [hcn]; exact Int.ofNat_dvd_left.2 (Nat.gcd_dvd_left ..)
  have cn1 : 0 < cn := by rw [hcn]; exact Nat.gcd_pos_of_pos_right _ g1
  have hz : D / g * C ≠ 0 := by
    have : 0 < D / g := Nat.div_pos (Nat.le_of_dvd D1 gD) g1
    exact Nat.ne_of_gt (Nat.mul_pos this C1)
  refine ⟨?_, ?_, cnN, g1, cn1, Nat.le_of_dvd g1 cg⟩
  · rw [hsum, Rat.num_mkRat, if_neg hz, Nat.gcd_comm, ← aux]
  · rw [hsum, Rat.den_mkRat, if_neg hz, Nat.gcd_comm, ← aux]
    rw [Nat.mul_div_assoc _ (Nat.dvd_trans cg gC)]
    simp

/-- The product, as it is reckoned. -/
theorem mul_parts {n d m c : Int} (h : Ok n d) (k : Ok m c) (a b : Nat) (ha : a = Nat.gcd n.natAbs c.natAbs) (hb : b = Nat.gcd m.natAbs d.natAbs) :
    (q n d * q m c).num = n.tdiv a * m.tdiv b ∧ ((q n d * q m c).den : Int) = (d / (b : Int)) * (c / (a : Int)) ∧ 1 ≤ a ∧ 1 ≤ b ∧ (a : Int) ∣ n ∧ (b : Int) ∣ m ∧ (a : Int) ≤ c ∧ (b : Int) ≤ d := by
  have hd1 : 0 < d := by have := h.1; omega
  have hc1 : 0 < c := by have := k.1; omega
  obtain ⟨D, rfl⟩ := Int.eq_ofNat_of_zero_le (Int.le_of_lt hd1)
  obtain ⟨C, rfl⟩ := Int.eq_ofNat_of_zero_le (Int.le_of_lt hc1)
  simp only [Int.natAbs_natCast] at ha hb
  have D1 : 0 < D := by omega
  have C1 : 0 < C := by omega
  have e : q n D * q m C = Rat.mul (q n D) (q m C) := rfl
  have a1 : 0 < a := by rw [ha]; exact Nat.gcd_pos_of_pos_right _ C1
  have b1 : 0 < b := by rw [hb]; exact Nat.gcd_pos_of_pos_right _ D1
  refine ⟨?_, ?_, a1, b1, ?_, ?_, ?_, ?_⟩
  · rw [e]; delta Rat.mul; dsimp only
    simp only [q_num h, q_num k, q_den h, q_den k, Int.natAbs_natCast, Int.divExact_eq_tdiv, ← ha, ← hb]
  · rw [e]; delta Rat.mul; dsimp only
    simp only [q_num h, q_num k, q_den h, q_den k, Int.natAbs_natCast, Nat.divExact_eq_div, ← ha, ← hb]
    simp
  · rw [ha]; exact Int.ofNat_dvd_left.2 (Nat.gcd_dvd_left ..)
  · rw [hb]; exact Int.ofNat_dvd_left.2 (Nat.gcd_dvd_left ..)
  · have : a ≤ C := Nat.le_of_dvd C1 (by rw [ha]; exact Nat.gcd_dvd_right ..)
    omega
  · have : b ≤ D := Nat.le_of_dvd D1 (by rw [hb]; exact Nat.gcd_dvd_right ..)
    omega
end Rp
end Go.Proofs.Ytncmffhoodfhjaa
namespace Go.Proofs.Ytncmffhoodfhjaa
namespace Rp
theorem q_mul {a n : Int} (h : n ≠ 0) : q a n * (n : Rat) = (a : Rat) := by
  unfold q
  rw [Rat.divInt_eq_div]
  exact Rat.div_mul_cancel (by rw [← Rat.intCast_zero]; exact fun e => h (Rat.intCast_inj.1 e))
theorem q_of_mul {r : Rat} {a n : Int} (h : n ≠ 0) (e : r * (n : Rat) = (a : Rat)) : r = q a n := by
  have hn : (n : Rat) ≠ 0 := by rw [← Rat.intCast_zero]; exact fun e => h (Rat.intCast_inj.1 e)
  rw [← q_mul (a := a) h] at e
  have := congrArg (fun x : Rat => x * (n : Rat)⁻¹) e
  simpa only [Rat.mul_assoc, Rat.mul_inv_cancel _ hn, Rat.mul_one] using this
theorem q_add {a c n : Int} (h : n ≠ 0) : q a n + q c n = q (a + c) n := by
  refine q_of_mul h ?_
  rw [Rat.add_mul, q_mul h, q_mul h, Rat.intCast_add]
theorem q_scale {a n g : Int} (h : n ≠ 0) (hg : g ≠ 0) : q (g * a) (g * n) = q a n := by
  refine q_of_mul h ?_
  have e := q_mul (a := g * a) (n := g * n) (by intro e; rcases Int.mul_eq_zero.1 e with e | e <;> contradiction)
  have hg' : (g : Rat) ≠ 0 := by rw [← Rat.intCast_zero]; exact fun e => hg (Rat.intCast_inj.1 e)
  rw [Rat.intCast_mul, Rat.intCast_mul, Rat.mul_comm (g : Rat) (n : Rat), ← Rat.mul_assoc, Rat.mul_comm (g : Rat) (a : Rat)] at e
  have := congrArg (fun x : Rat => x * (g : Rat)⁻¹) e
  simpa only [Rat.mul_assoc, Rat.mul_inv_cancel _ hg', Rat.mul_one] using this
/-- The reduced ratio: its denominator divides n, and n of it are a. -/
theorem q_num_den {a n : Int} (h : 1 ≤ n) : 1 ≤ ((q a n).den : Int) ∧ n % ((q a n).den : Int) = 0 ∧ (q a n).num * (n / ((q a n).den : Int)) = a := by
  have hd : ((q a n).den : Int) = n / (Int.gcd n a : Int) := by
    unfold q
    rw [Rat.den_divInt, if_neg (by omega)]
    have : n.natAbs = n := Int.natAbs_of_nonneg (by omega)
    rw [Int.natCast_ediv, this]
  have hn : (q a n).num = a / (Int.gcd n a : Int) := by
    unfold q
    rw [Rat.num_divInt, Int.sign_eq_one_of_pos (by omega), Int.one_mul]
  have hg : (0 : Int) < Int.gcd n a := by have := Int.gcd_pos_of_ne_zero_left a (show n ≠ 0 by omega); omega
  obtain ⟨u, hu⟩ := Int.gcd_dvd_left n a
  obtain ⟨v, hv⟩ := Int.gcd_dvd_right n a
  generalize (Int.gcd n a : Int) = g at *
  have e1 : n / g = u := by rw [hu]; exact Int.mul_ediv_cancel_left _ (by omega)
  have e2 : a / g = v := by rw [hv]; exact Int.mul_ediv_cancel_left _ (by omega)
  rw [hd, hn, e1, e2]
  have hu0 : 1 ≤ u := by
    rcases Int.lt_or_le 0 u with h1 | h1
    · omega
    · have := Int.mul_nonpos_of_nonneg_of_nonpos (show 0 ≤ g by omega) h1
      omega
  have e3 : n / u = g := by rw [hu]; exact Int.mul_ediv_cancel _ (by omega)
  refine ⟨hu0, ?_, ?_⟩
  · rw [hu]; exact Int.mul_emod_left _ _
  · rw [e3, hv, Int.mul_comm]
theorem q_le {a n c d : Int} (h : 1 ≤ n) (k : 1 ≤ d) : q a n ≤ q c d ↔ a * d ≤ c * n := by
  have hn : (0 : Rat) < (n : Rat) := by rw [← Rat.intCast_zero]; exact Rat.intCast_lt_intCast.2 (by omega)
  have hd : (0 : Rat) < (d : Rat) := by rw [← Rat.intCast_zero]; exact Rat.intCast_lt_intCast.2 (by omega)
  have e1 : q a n * ((n : Rat) * (d : Rat)) = ((a * d : Int) : Rat) := by rw [← Rat.mul_assoc, q_mul (by omega), Rat.intCast_mul]
  have e2 : q c d * ((n : Rat) * (d : Rat)) = ((c * n : Int) : Rat) := by rw [Rat.mul_comm (n : Rat), ← Rat.mul_assoc, q_mul (by omega), Rat.intCast_mul]
  have hp : (0 : Rat) < (n : Rat) * (d : Rat) := Rat.mul_pos hn hd
  constructor
  · intro hle
    have := Rat.mul_le_mul_of_nonneg_right hle (Rat.le_of_lt hp)
    rw [e1, e2] at this
    exact Rat.intCast_le_intCast.1 this
  · intro hle
    refine Rat.not_lt.1 fun hlt => ?_
    have := Rat.mul_lt_mul_of_pos_right hlt hp
    rw [e1, e2] at this
    have := Rat.intCast_lt_intCast.1 this
    omega
theorem q_ok {a n : Int} (h1 : 1 ≤ n) (h2 : n ≤ 1000000000000000000) (a0 : -1000000000000000000 ≤ a) (a1 : a ≤ 1000000000000000000) : Ok (q a n).num ((q a n).den : Int) := by
  obtain ⟨k1, k2, k3⟩ := q_num_den (a := a) h1
  have hr := (q a n).reduced
  generalize (q a n).num = x at *
  generalize (q a n).den = y at *
  obtain ⟨t, ht⟩ := Int.dvd_of_emod_eq_zero k2
  have e1 : n / (y : Int) = t := by rw [ht]; exact Int.mul_ediv_cancel_left _ (by omega)
  rw [e1] at k3
  have t0 : 1 ≤ t := by
    rcases Int.lt_or_le 0 t with h | h
    · omega
    · have := Int.mul_nonpos_of_nonneg_of_nonpos (show 0 ≤ (y : Int) by omega) h
      omega
  have y1 : (y : Int) ≤ n := by
    have := Int.mul_le_mul_of_nonneg_left t0 (show 0 ≤ (y : Int) by omega)
    rw [Int.mul_one, ← ht] at this
    exact this
  have hx : x.natAbs ≤ a.natAbs := by
    rw [← k3, Int.natAbs_mul]
    exact Nat.le_mul_of_pos_right _ (by omega)
  exact ⟨k1, by omega, by omega, by omega, by simpa using hr⟩
theorem makeS_q {a n : Int} (h1 : 1 ≤ n) (h2 : n ≤ 1000000000000000000) (a0 : -1000000000000000000 ≤ a) (a1 : a ≤ 1000000000000000000) : makeS a n = ((q a n).num, ((q a n).den : Int), 0) := by
  have ok := q_ok h1 h2 a0 a1
  obtain ⟨k1, k2, k3, k4, _⟩ := ok
  unfold makeS ofQ low
  rw [if_neg (by omega), if_pos ⟨by omega, by omega⟩]
theorem addS_q {x y : Rat} (hx : Ok x.num x.den) (hy : Ok y.num y.den) : addS x.num x.den y.num y.den = ofQ (x + y) := by
  have e : both x.num x.den y.num y.den = 0 := by unfold both chk; rw [if_pos hx, if_pos hy]
  unfold addS add
  rw [if_pos e, q_self, q_self]
theorem ofQ_q {a n : Int} (h1 : 1 ≤ n) (h2 : n ≤ 1000000000000000000) (a0 : -1000000000000000000 ≤ a) (a1 : a ≤ 1000000000000000000) : ofQ (q a n) = ((q a n).num, ((q a n).den : Int), 0) := by
  have h := makeS_q h1 h2 a0 a1
  unfold makeS at h
  rwa [if_neg (by omega)] at h
/-- The sum of two ratios with the same denominator. -/
theorem add_same {a c n : Int} (h1 : 1 ≤ n) (h2 : n ≤ 1000000000000000000) (a0 : -400000000000000000 ≤ a) (a1 : a ≤ 400000000000000000) (c0 : -400000000000000000 ≤ c) (c1 : c ≤ 400000000000000000) :
    addS (q a n).num (q a n).den (q c n).num (q c n).den = ((q (a + c) n).num, ((q (a + c) n).den : Int), 0) := by
  rw [addS_q (q_ok h1 h2 (by omega) (by omega)) (q_ok h1 h2 (by omega) (by omega)), q_add (by omega)]
  exact ofQ_q h1 h2 (by omega) (by omega)
end Rp
end Go.Proofs.Ytncmffhoodfhjaa
