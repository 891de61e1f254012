/- The plain mathematics of ratios: what the functions of layer 1 return, as functions on integers and rational numbers. -/
namespace Go.Proofs.Ytaaamcleilpnhaa
namespace Rp
/-- A valid ratio. -/
def Ok (n d : Int) : Prop := 1 ≤ d ∧ d ≤ 1000000000000000000 ∧ -1000000000000000000 ≤ n ∧ n ≤ 1000000000000000000 ∧ Nat.gcd n.natAbs d.natAbs = 1
instance (n d : Int) : Decidable (Ok n d) := by unfold Ok; infer_instance
def okB (n d : Int) : Bool := decide (Ok n d)
def chk (n d : Int) : Int := if Ok n d then 0 else 8
def both (n d m c : Int) : Int := if Ok n d then chk m c else 8
def q (n d : Int) : Rat := Rat.divInt n d
/-- Numerator, denominator, error. -/
def low (n d : Int) : Int × Int × Int := if n.natAbs ≤ 1000000000000000000 ∧ d.natAbs ≤ 1000000000000000000 then (n, d, 0) else (0, 0, 16)
def ofQ (r : Rat) : Int × Int × Int := low r.num r.den
def add (n d m c : Int) : Int × Int × Int := ofQ (q n d + q m c)
def mul (n d m c : Int) : Int × Int × Int := ofQ (q n d * q m c)
def addS (n d m c : Int) : Int × Int × Int := if both n d m c = 0 then add n d m c else (0, 0, 8)
def subS (n d m c : Int) : Int × Int × Int := if both n d m c = 0 then ofQ (q n d - q m c) else (0, 0, 8)
def mulS (n d m c : Int) : Int × Int × Int := if both n d m c = 0 then mul n d m c else (0, 0, 8)
def divS (n d m c : Int) : Int × Int × Int := if both n d m c = 0 then (if m = 0 then (0, 0, 18) else ofQ (q n d / q m c)) else (0, 0, 8)
def makeS (n d : Int) : Int × Int × Int := if d = 0 then (0, 0, 18) else ofQ (q n d)
def cmpQ (x y : Rat) : Int := if x < y then -1 else if y < x then 1 else 0
def cmpS (n d m c : Int) : Int × Int := if both n d m c = 0 then (cmpQ (q n d) (q m c), 0) else (0, 8)
def floorS (n d : Int) : Int × Int := if Ok n d then ((q n d).floor, 0) else (0, 8)

theorem q_num {n d : Int} (h : Ok n d) : (q n d).num = n := by
  obtain ⟨h1, _, _, _, h5⟩ := h
  unfold q
  rw [Rat.num_divInt, Int.sign_eq_one_of_pos (by omega), Int.one_mul]
  have : Int.gcd d n = 1 := by rw [Int.gcd_comm]; exact h5
  rw [this]; simp
theorem q_den {n d : Int} (h : Ok n d) : (q n d).den = d.natAbs := by
  obtain ⟨h1, _, _, _, h5⟩ := h
  unfold q
  rw [Rat.den_divInt, if_neg (by omega)]
  have : Int.gcd d n = 1 := by rw [Int.gcd_comm]; exact h5
  rw [this]; simp
theorem q_denI {n d : Int} (h : Ok n d) : ((q n d).den : Int) = d := by
  rw [q_den h]; obtain ⟨h1, _⟩ := h; omega
theorem q_self (r : Rat) : q r.num r.den = r := by
  unfold q; exact Rat.num_divInt_den r

theorem gcd_mod_right (a b : Nat) : Nat.gcd a (b % a) = Nat.gcd a b := by
  rw [Nat.gcd_comm, ← Nat.gcd_rec]

/-- The sum, as it is reckoned. -/
theorem add_parts {n d m c : Int} (h : Ok n d) (k : Ok m c) (g : Nat) (hg : g = Nat.gcd d.natAbs c.natAbs) (N : Int) (hN : N = n * (c / (g : Int)) + m * (d / (g : Int))) (cn : Nat) (hc : cn = Nat.gcd g (N.natAbs % g)) :
    (q n d + q m c).num = N / (cn : Int) ∧ ((q n d + q m c).den : Int) = (d / (g : Int)) * (c / (cn : Int)) ∧ (cn : Int) ∣ N ∧ 1 ≤ g ∧ 1 ≤ cn ∧ cn ≤ g := by
  have hd1 : 0 < d := by have := h.1; omega
  have hc1 : 0 < c := by have := k.1; omega
  obtain ⟨D, rfl⟩ := Int.eq_ofNat_of_zero_le (Int.le_of_lt hd1)
  obtain ⟨C, rfl⟩ := Int.eq_ofNat_of_zero_le (Int.le_of_lt hc1)
  simp only [Int.natAbs_natCast] at hg
  have D1 : 0 < D := by omega
  have C1 : 0 < C := by omega
  have g1 : 0 < g := by rw [hg]; exact Nat.gcd_pos_of_pos_left _ D1
  have gD : g ∣ D := by rw [hg]; exact Nat.gcd_dvd_left ..
  have gC : g ∣ C := by rw [hg]; exact Nat.gcd_dvd_right ..
  have hcn : cn = N.natAbs.gcd g := by rw [hc, gcd_mod_right, Nat.gcd_comm]
  have hN' : N = n * ((C / g : Nat) : Int) + m * ((D / g : Nat) : Int) := by rw [hN]; simp
  have aux := Rat.add.aux (q n D) (q m C) (g := g) (by rw [q_den h, q_den k]; simpa using hg) rfl rfl
  simp only [q_num h, q_num k, q_den h, q_den k, Int.natAbs_natCast] at aux
  rw [← hN', ← hcn] at aux
  have hsum : q n D + q m C = mkRat N (D / g * C) := by
    show Rat.divInt n (D : Int) + Rat.divInt m (C : Int) = _
    rw [Rat.divInt_add_divInt _ _ (by omega) (by omega), ← Int.natCast_mul, Rat.divInt_ofNat]
    rw [← Rat.mkRat_mul_left (a := g) (by omega) (n := N)]
    congr 1
    · rw [hN', Int.mul_add]
      congr 1
      · rw [← Int.mul_assoc, Int.mul_comm (g : Int) n, Int.mul_assoc, ← Int.natCast_mul, Nat.mul_div_cancel' gC]
      · rw [← Int.mul_assoc, Int.mul_comm (g : Int) m, Int.mul_assoc, ← Int.natCast_mul, Nat.mul_div_cancel' gD]
    · rw [← Nat.mul_assoc, Nat.mul_div_cancel' gD]
  have cg : cn ∣ g := by rw [hcn]; exact Nat.gcd_dvd_right ..
  have cnN : (cn : Int) ∣ N := by rw [hcn]; exact Int.ofNat_dvd_left.2 (Nat.gcd_dvd_left ..)
  have cn1 : 0 < cn := by rw [hcn]; exact Nat.gcd_pos_of_pos_right _ g1
  have hz : D / g * C ≠ 0 := by
    have : 0 < D / g := Nat.div_pos (Nat.le_of_dvd D1 gD) g1
    exact Nat.ne_of_gt (Nat.mul_pos this C1)
  refine ⟨?_, ?_, cnN, g1, cn1, Nat.le_of_dvd g1 cg⟩
  · rw [hsum, Rat.num_mkRat, if_neg hz, Nat.gcd_comm, ← aux]
  · rw [hsum, Rat.den_mkRat, if_neg hz, Nat.gcd_comm, ← aux]
    rw [Nat.mul_div_assoc _ (Nat.dvd_trans cg gC)]
    simp

/-- The product, as it is reckoned. -/
theorem mul_parts {n d m c : Int} (h : Ok n d) (k : Ok m c) (a b : Nat) (ha : a = Nat.gcd n.natAbs c.natAbs) (hb : b = Nat.gcd m.natAbs d.natAbs) :
    (q n d * q m c).num = n.tdiv a * m.tdiv b ∧ ((q n d * q m c).den : Int) = (d / (b : Int)) * (c / (a : Int)) ∧ 1 ≤ a ∧ 1 ≤ b ∧ (a : Int) ∣ n ∧ (b : Int) ∣ m ∧ (a : Int) ≤ c ∧ (b : Int) ≤ d := by
  have hd1 : 0 < d := by have := h.1; omega
  have hc1 : 0 < c := by have := k.1; omega
  obtain ⟨D, rfl⟩ := Int.eq_ofNat_of_zero_le (Int.le_of_lt hd1)
  obtain ⟨C, rfl⟩ := Int.eq_ofNat_of_zero_le (Int.le_of_lt hc1)
  simp only [Int.natAbs_natCast] at ha hb
  have D1 : 0 < D := by omega
  have C1 : 0 < C := by omega
  have e : q n D * q m C = Rat.mul (q n D) (q m C) := rfl
  have a1 : 0 < a := by rw [ha]; exact Nat.gcd_pos_of_pos_right _ C1
  have b1 : 0 < b := by rw [hb]; exact Nat.gcd_pos_of_pos_right _ D1
  refine ⟨?_, ?_, a1, b1, ?_, ?_, ?_, ?_⟩
  · rw [e]; delta Rat.mul; dsimp only
    simp only [q_num h, q_num k, q_den h, q_den k, Int.natAbs_natCast, Int.divExact_eq_tdiv, ← ha, ← hb]
  · rw [e]; delta Rat.mul; dsimp only
    simp only [q_num h, q_num k, q_den h, q_den k, Int.natAbs_natCast, Nat.divExact_eq_div, ← ha, ← hb]
    simp
  · rw [ha]; exact Int.ofNat_dvd_left.2 (Nat.gcd_dvd_left ..)
  · rw [hb]; exact Int.ofNat_dvd_left.2 (Nat.gcd_dvd_left ..)
  · have : a ≤ C := Nat.le_of_dvd C1 (by rw [ha]; exact Nat.gcd_dvd_right ..)
    omega
  · have : b ≤ D := Nat.le_of_dvd D1 (by rw [hb]; exact Nat.gcd_dvd_right ..)
    omega
end Rp
end Go.Proofs.Ytaaamcleilpnhaa
