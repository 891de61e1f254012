/- The plain mathematics of ratios: what the functions of layer 1 return, as functions on integers and rational numbers. Ratios whose denominator is the number of rooms. Contracts of math/bits: Mul64, Add64, Sub64. The plain mathematics of a division of 128 bits by 64 bits, two digits of 32 bits at a time. Contract of math/bits.Len64: the number of bits of x, for all x. Contracts of math/bits: Mul64, Len64, LeadingZeros64, Div64, Rem64, for all arguments for which they do not panic. -/
import Derived.Test.YtpiolhjiflohgaaProg
import Derived.WalkKit
import Derived.WalkSpells
import Derived.WalkLawsBesides
import Derived.Lib.Hide
import Derived.IntWalk
import Derived.Laws.MathBits
import Derived.Laws.Externs
import Derived.Lib.Strings
import Derived.Lib.Slices
import Derived.Lib.Small
import Derived.Lib.Walk
import Derived.Lib.BitFns
import Derived.BigQuiet
import Derived.Deep.QuietTactic
import Derived.Deep.CutBlock
import Derived.Deep.DeepCutAuto
import Derived.Deep.LoopGhost
namespace Go.Proofs.Ytpiolhjiflohgaa
namespace Rp
/-- A valid ratio. -/
def Ok (n d : Int) : Prop := 1 ≤ d ∧ d ≤ 1000000000000000000 ∧ -1000000000000000000 ≤ n ∧ n ≤ 1000000000000000000 ∧ Nat.gcd n.natAbs d.natAbs = 1
instance (n d : Int) : Decidable (Ok n d) := by unfold Ok; infer_instance
def okB (n d : Int) : Bool := decide (Ok n d)
def chk (n d : Int) : Int := if Ok n d then 0 else 8
def both (n d m c : Int) : Int := if Ok n d then chk m c else 8
def q (n d : Int) : Rat := Rat.divInt n d
/-- Numerator, denominator, error. -/
def low (n d : Int) : Int × Int × Int := if n.natAbs ≤ 1000000000000000000 ∧ d.natAbs ≤ 1000000000000000000 then (n, d, 0) else (0, 0, 16)
def ofQ (r : Rat) : Int × Int × Int := low r.num r.den
def add (n d m c : Int) : Int × Int × Int := ofQ (q n d + q m c)
def mul (n d m c : Int) : Int × Int × Int := ofQ (q n d * q m c)
def addS (n d m c : Int) : Int × Int × Int := if both n d m c = 0 then add n d m c else (0, 0, 8)
def subS (n d m c : Int) : Int × Int × Int := if both n d m c = 0 then ofQ (q n d - q m c) else (0, 0, 8)
def mulS (n d m c : Int) : Int × Int × Int := if both n d m c = 0 then mul n d m c else (0, 0, 8)
def divS (n d m c : Int) : Int × Int × Int := if both n d m c = 0 then (if m = 0 then (0, 0, 18) else ofQ (q n d / q m c)) else (0, 0, 8)
def makeS (n d : Int) : Int × Int × Int := if d = 0 then (0, 0, 18) else ofQ (q n d)
def cmpQ (x y : Rat) : Int := if x < y then -1 else if y < x then 1 else 0
def cmpS (n d m c : Int) : Int × Int := if both n d m c = 0 then (cmpQ (q n d) (q m c), 0) else (0, 8)
def floorS (n d : Int) : Int × Int := if Ok n d then ((q n d).floor, 0) else (0, 8)

theorem q_num {n d : Int} (h : Ok n d) : (q n d).num = n := by
  obtain ⟨h1, _, _, _, h5⟩ := h
  unfold q
  rw [Rat.num_divInt, Int.sign_eq_one_of_pos (by omega), Int.one_mul]
  have : Int.gcd d n = 1 := by rw [Int.gcd_comm]; exact h5
  rw [this]; simp
theorem q_den {n d : Int} (h : Ok n d) : (q n d).den = d.natAbs := by
  obtain ⟨h1, _, _, _, h5⟩ := h
  unfold q
  rw [Rat.den_divInt, if_neg (by omega)]
  have : Int.gcd d n = 1 := by rw [Int.gcd_comm]; exact h5
  rw [this]; simp
theorem q_denI {n d : Int} (h : Ok n d) : ((q n d).den : Int) = d := by
  rw [q_den h]; obtain ⟨h1, _⟩ := h; omega
theorem q_self (r : Rat) : q r.num r.den = r := by
  unfold q; exact Rat.num_divInt_den r

theorem gcd_mod_right (a b : Nat) : Nat.gcd a (b % a) = Nat.gcd a b := by
  rw [Nat.gcd_comm, ← Nat.gcd_rec]

/-- The sum, as it is reckoned. -/
theorem add_parts {n d m c : Int} (h : Ok n d) (k : Ok m c) (g : Nat) (hg : g = Nat.gcd d.natAbs c.natAbs) (N : Int) (hN : N = n * (c / (g : Int)) + m * (d / (g : Int))) (cn : Nat) (hc : cn = Nat.gcd g (N.natAbs % g)) :
    (q n d + q m c).num = N / (cn : Int) ∧ ((q n d + q m c).den : Int) = (d / (g : Int)) * (c / (cn : Int)) ∧ (cn : Int) ∣ N ∧ 1 ≤ g ∧ 1 ≤ cn ∧ cn ≤ g := by
  have hd1 : 0 < d := by have := h.1; omega
  have hc1 : 0 < c := by have := k.1; omega
  obtain ⟨D, rfl⟩ := Int.eq_ofNat_of_zero_le (Int.le_of_lt hd1)
  obtain ⟨C, rfl⟩ := Int.eq_ofNat_of_zero_le (Int.le_of_lt hc1)
  simp only [Int.natAbs_natCast] at hg
  have D1 : 0 < D := by omega
  have C1 : 0 < C := by omega
  have g1 : 0 < g := by rw [hg]; exact Nat.gcd_pos_of_pos_left _ D1
  have gD : g ∣ D := by rw [hg]; exact Nat.gcd_dvd_left ..
  have gC : g ∣ C := by rw [hg]; exact Nat.gcd_dvd_right ..
  have hcn : cn = N.natAbs.gcd g := by rw [hc, gcd_mod_right, Nat.gcd_comm]
  have hN' : N = n * ((C / g : Nat) : Int) + m * ((D / g : Nat) : Int) := by rw [hN]; simp
  have aux := Rat.add.aux (q n D) (q m C) (g := g) (by rw [q_den h, q_den k]; simpa using hg) rfl rfl
  simp only [q_num h, q_num k, q_den h, q_den k, Int.natAbs_natCast] at aux
  rw [← hN', ← hcn] at aux
  have hsum : q n D + q m C = mkRat N (D / g * C) := by
    show Rat.divInt n (D : Int) + Rat.divInt m (C : Int) = _
    rw [Rat.divInt_add_divInt _ _ (by omega) (by omega), ← Int.natCast_mul, Rat.divInt_ofNat]
    rw [← Rat.mkRat_mul_left (a := g) (by omega) (n := N)]
    congr 1
    · rw [hN', Int.mul_add]
      congr 1
      · rw [← Int.mul_assoc, Int.mul_comm (g : Int) n, Int.mul_assoc, ← Int.natCast_mul, Nat.mul_div_cancel' gC]
      · rw [← Int.mul_assoc, Int.mul_comm (g : Int) m, Int.mul_assoc, ← Int.natCast_mul, Nat.mul_div_cancel' gD]
    · rw [← Nat.mul_assoc, Nat.mul_div_cancel' gD]
  have cg : cn ∣ g := by rw [hcn]; exact Nat.gcd_dvd_right ..
  have cnN : (cn : Int) ∣ N := by rw [hcn]; exact Int.ofNat_dvd_left.2 (Nat.gcd_dvd_left ..)
  have cn1 : 0 < cn := by rw [hcn]; exact Nat.gcd_pos_of_pos_right _ g1
  have hz : D / g * C ≠ 0 := by
    have : 0 < D / g := Nat.div_pos (Nat.le_of_dvd D1 gD) g1
    exact Nat.ne_of_gt (Nat.mul_pos this C1)
  refine ⟨?_, ?_, cnN, g1, cn1, Nat.le_of_dvd g1 cg⟩
  · rw [hsum, Rat.num_mkRat, if_neg hz, Nat.gcd_comm, ← aux]
  · rw [hsum, Rat.den_mkRat, if_neg hz, Nat.gcd_comm, ← aux]
    rw [Nat.mul_div_assoc _ (Nat.dvd_trans cg gC)]
    simp

/-- The product, as it is reckoned. -/
theorem mul_parts {n d m c : Int} (h : Ok n d) (k : Ok m c) (a b : Nat) (ha : a = Nat.gcd n.natAbs c.natAbs) (hb : b = Nat.gcd m.natAbs d.natAbs) :
    (q n d * q m c).num = n.tdiv a * m.tdiv b ∧ ((q n d * q m c).den : Int) = (d / (b : Int)) * (c / (a : Int)) ∧ 1 ≤ a ∧ 1 ≤ b ∧ (a : Int) ∣ n ∧ (b : Int) ∣ m ∧ (a : Int) ≤ c ∧ (b : Int) ≤ d := by
  have hd1 : 0 < d := by have := h.1; omega
  have hc1 : 0 < c := by have := k.1; omega
  obtain ⟨D, rfl⟩ := Int.eq_ofNat_of_zero_le (Int.le_of_lt hd1)
  obtain ⟨C, rfl⟩ := Int.eq_ofNat_of_zero_le (Int.le_of_lt hc1)
  simp only [Int.natAbs_natCast] at ha hb
  have D1 : 0 < D := by omega
  have C1 : 0 < C := by omega
  have e : q n D * q m C = Rat.mul (q n D) (q m C) := rfl
  have a1 : 0 < a := by rw [ha]; exact Nat.gcd_pos_of_pos_right _ C1
  have b1 : 0 < b := by rw [hb]; exact Nat.gcd_pos_of_pos_right _ D1
  refine ⟨?_, ?_, a1, b1, ?_, ?_, ?_, ?_⟩
  · rw [e]; delta Rat.mul; dsimp only
    simp only [q_num h, q_num k, q_den h, q_den k, Int.natAbs_natCast, Int.divExact_eq_tdiv, ← ha, ← hb]
  · rw [e]; delta Rat.mul; dsimp only
    simp only [q_num h, q_num k, q_den h, q_den k, Int.natAbs_natCast, Nat.divExact_eq_div, ← ha, ← hb]
    simp
  · rw [ha]; exact Int.ofNat_dvd_left.2 (Nat.gcd_dvd_left ..)
  · rw [hb]; exact Int.ofNat_dvd_left.2 (Nat.gcd_dvd_left ..)
  · have : a ≤ C := Nat.le_of_dvd C1 (by rw [ha]; exact Nat.gcd_dvd_right ..)
    omega
  · have : b ≤ D := Nat.le_of_dvd D1 (by rw [hb]; exact Nat.gcd_dvd_right ..)
    omega
end Rp
end Go.Proofs.Ytpiolhjiflohgaa
namespace Go.Proofs.Ytpiolhjiflohgaa
namespace Rp
theorem q_mul {a n : Int} (h : n ≠ 0) : q a n * (n : Rat) = (a : Rat) := by
  unfold q
  rw [Rat.divInt_eq_div]
  exact Rat.div_mul_cancel (by rw [← Rat.intCast_zero]; exact fun e => h (Rat.intCast_inj.1 e))
theorem q_of_mul {r : Rat} {a n : Int} (h : n ≠ 0) (e : r * (n : Rat) = (a : Rat)) : r = q a n := by
  have hn : (n : Rat) ≠ 0 := by rw [← Rat.intCast_zero]; exact fun e => h (Rat.intCast_inj.1 e)
  rw [← q_mul (a := a) h] at e
  have := congrArg (fun x : Rat => x * (n : Rat)⁻¹) e
  simpa only [Rat.mul_assoc, Rat.mul_inv_cancel _ hn, Rat.mul_one] using this
theorem q_add {a c n : Int} (h : n ≠ 0) : q a n + q c n = q (a + c) n := by
  refine q_of_mul h ?_
  rw [Rat.add_mul, q_mul h, q_mul h, Rat.intCast_add]
theorem q_scale {a n g : Int} (h : n ≠ 0) (hg : g ≠ 0) : q (g * a) (g * n) = q a n := by
  refine q_of_mul h ?_
  have e := q_mul (a := g * a) (n := g * n) (by intro e; rcases Int.mul_eq_zero.1 e with e | e <;> contradiction)
  have hg' : (g : Rat) ≠ 0 := by rw [← Rat.intCast_zero]; exact fun e => hg (Rat.intCast_inj.1 e)
  rw [Rat.intCast_mul, Rat.intCast_mul, Rat.mul_comm (g : Rat) (n : Rat), ← Rat.mul_assoc, Rat.mul_comm (g : Rat) (a : Rat)] at e
  have := congrArg (fun x : Rat => x * (g : Rat)⁻¹) e
  simpa only [Rat.mul_assoc, Rat.mul_inv_cancel _ hg', Rat.mul_one] using this
/-- The reduced ratio: its denominator divides n, and n of it are a. -/
theorem q_num_den {a n : Int} (h : 1 ≤ n) : 1 ≤ ((q a n).den : Int) ∧ n % ((q a n).den : Int) = 0 ∧ (q a n).num * (n / ((q a n).den : Int)) = a := by
  have hd : ((q a n).den : Int) = n / (Int.gcd n a : Int) := by
    unfold q
    rw [Rat.den_divInt, if_neg (by omega)]
    have : n.natAbs = n := Int.natAbs_of_nonneg (by omega)
    rw [Int.natCast_ediv, this]
  have hn : (q a n).num = a / (Int.gcd n a : Int) := by
    unfold q
    rw [Rat.num_divInt, Int.sign_eq_one_of_pos (by omega), Int.one_mul]
  have hg : (0 : Int) < Int.gcd n a := by have := Int.gcd_pos_of_ne_zero_left a (show n ≠ 0 by omega); omega
  obtain ⟨u, hu⟩ := Int.gcd_dvd_left n a
  obtain ⟨v, hv⟩ := Int.gcd_dvd_right n a
  generalize (Int.gcd n a : Int) = g at *
  have e1 : n / g = u := by rw [hu]; exact Int.mul_ediv_cancel_left _ (by omega)
  have e2 : a / g = v := by rw [hv]; exact Int.mul_ediv_cancel_left _ (by omega)
  rw [hd, hn, e1, e2]
  have hu0 : 1 ≤ u := by
    rcases Int.lt_or_le 0 u with h1 | h1
    · omega
    · have := Int.mul_nonpos_of_nonneg_of_nonpos (show 0 ≤ g by omega) h1
      omega
  have e3 : n / u = g := by rw [hu]; exact Int.mul_ediv_cancel _ (by omega)
  refine ⟨hu0, ?_, ?_⟩
  · rw [hu]; exact Int.mul_emod_left _ _
  · rw [e3, hv, Int.mul_comm]
theorem q_le {a n c d : Int} (h : 1 ≤ n) (k : 1 ≤ d) : q a n ≤ q c d ↔ a * d ≤ c * n := by
  have hn : (0 : Rat) < (n : Rat) := by rw [← Rat.intCast_zero]; exact Rat.intCast_lt_intCast.2 (by omega)
  have hd : (0 : Rat) < (d : Rat) := by rw [← Rat.intCast_zero]; exact Rat.intCast_lt_intCast.2 (by omega)
  have e1 : q a n * ((n : Rat) * (d : Rat)) = ((a * d : Int) : Rat) := by rw [← Rat.mul_assoc, q_mul (by omega), Rat.intCast_mul]
  have e2 : q c d * ((n : Rat) * (d : Rat)) = ((c * n : Int) : Rat) := by rw [Rat.mul_comm (n : Rat), ← Rat.mul_assoc, q_mul (by omega), Rat.intCast_mul]
  have hp : (0 : Rat) < (n : Rat) * (d : Rat) := Rat.mul_pos hn hd
  constructor
  · intro hle
    have := Rat.mul_le_mul_of_nonneg_right hle (Rat.le_of_lt hp)
    rw [e1, e2] at this
    exact Rat.intCast_le_intCast.1 this
  · intro hle
    refine Rat.not_lt.1 fun hlt => ?_
    have := Rat.mul_lt_mul_of_pos_right hlt hp
    rw [e1, e2] at this
    have := Rat.intCast_lt_intCast.1 this
    omega
theorem q_ok {a n : Int} (h1 : 1 ≤ n) (h2 : n ≤ 1000000000000000000) (a0 : -1000000000000000000 ≤ a) (a1 : a ≤ 1000000000000000000) : Ok (q a n).num ((q a n).den : Int) := by
  obtain ⟨k1, k2, k3⟩ := q_num_den (a := a) h1
  have hr := (q a n).reduced
  generalize (q a n).num = x at *
  generalize (q a n).den = y at *
  obtain ⟨t, ht⟩ := Int.dvd_of_emod_eq_zero k2
  have e1 : n / (y : Int) = t := by rw [ht]; exact Int.mul_ediv_cancel_left _ (by omega)
  rw [e1] at k3
  have t0 : 1 ≤ t := by
    rcases Int.lt_or_le 0 t with h | h
    · omega
    · have := Int.mul_nonpos_of_nonneg_of_nonpos (show 0 ≤ (y : Int) by omega) h
      omega
  have y1 : (y : Int) ≤ n := by
    have := Int.mul_le_mul_of_nonneg_left t0 (show 0 ≤ (y : Int) by omega)
    rw [Int.mul_one, ← ht] at this
    exact this
  have hx : x.natAbs ≤ a.natAbs := by
    rw [← k3, Int.natAbs_mul]
    exact Nat.le_mul_of_pos_right _ (by omega)
  exact ⟨k1, by omega, by omega, by omega, by simpa using hr⟩
theorem makeS_q {a n : Int} (h1 : 1 ≤ n) (h2 : n ≤ 1000000000000000000) (a0 : -1000000000000000000 ≤ a) (a1 : a ≤ 1000000000000000000) : makeS a n = ((q a n).num, ((q a n).den : Int), 0) := by
  have ok := q_ok h1 h2 a0 a1
  obtain ⟨k1, k2, k3, k4, _⟩ := ok
  unfold makeS ofQ low
  rw [if_neg (by omega), if_pos ⟨by omega, by omega⟩]
theorem addS_q {x y : Rat} (hx : Ok x.num x.den) (hy : Ok y.num y.den) : addS x.num x.den y.num y.den = ofQ (x + y) := by
  have e : both x.num x.den y.num y.den = 0 := by unfold both chk; rw [if_pos hx, if_pos hy]
  unfold addS add
  rw [if_pos e, q_self, q_self]
theorem ofQ_q {a n : Int} (h1 : 1 ≤ n) (h2 : n ≤ 1000000000000000000) (a0 : -1000000000000000000 ≤ a) (a1 : a ≤ 1000000000000000000) : ofQ (q a n) = ((q a n).num, ((q a n).den : Int), 0) := by
  have h := makeS_q h1 h2 a0 a1
  unfold makeS at h
  rwa [if_neg (by omega)] at h
/-- The sum of two ratios with the same denominator. -/
theorem add_same {a c n : Int} (h1 : 1 ≤ n) (h2 : n ≤ 1000000000000000000) (a0 : -400000000000000000 ≤ a) (a1 : a ≤ 400000000000000000) (c0 : -400000000000000000 ≤ c) (c1 : c ≤ 400000000000000000) :
    addS (q a n).num (q a n).den (q c n).num (q c n).den = ((q (a + c) n).num, ((q (a + c) n).den : Int), 0) := by
  rw [addS_q (q_ok h1 h2 (by omega) (by omega)) (q_ok h1 h2 (by omega) (by omega)), q_add (by omega)]
  exact ofQ_q h1 h2 (by omega) (by omega)
end Rp
end Go.Proofs.Ytpiolhjiflohgaa
namespace Go.Proofs.Ytpiolhjiflohgaa
open Go.RowKit

theorem ret_int {k : IntKind} {a b : Int} (h : a = b) : Ending.returned (.int k a) = .returned (.int k b) := by rw [h]
theorem ret_two {k l : IntKind} {a b c d : Int} (h : a = b) (g : c = d) : Ending.returned (.tuple #[.int k a, .int l c]) = .returned (.tuple #[.int k b, .int l d]) := by rw [h, g]



/-- The model's own entry of Sub64, the second of its rows. -/
def sub64Entry : Array Value → Sem Value := (Extern.MathBitsCarry.rows.getD 1 default).2

theorem run_sub64 {P : Program} (x y c : Int) (hx : 0 ≤ x) (hy : 0 ≤ y) (hy1 : y < 18446744073709551616) (hc0 : 0 ≤ c) (hc : c ≤ 1) (w : World) :
    (sub64Entry #[.int .u64 x, .int .u64 y, .int .u64 c]).run P w =
      .ok (.tuple #[.int .u64 ((x - y - c) % 18446744073709551616), .int .u64 (if x < y + c then 1 else 0)]) w := by
  have key : ∀ k : Nat, k ≤ 1 → (sub64Entry #[.int .u64 x, .int .u64 y, .int .u64 (k : Int)]).run P w =
      .ok (Extern.MathBitsCarry.pair ((x.toNat + Extern.MathBitsCarry.m64 - y.toNat - k) % Extern.MathBitsCarry.m64) (if x.toNat < y.toNat + k then 1 else 0)) w := by
    intro k hk
    have : k = 0 ∨ k = 1 := by omega
    rcases this with rfl | rfl <;> rfl
  obtain ⟨k, rfl⟩ := Int.eq_ofNat_of_zero_le hc0
  rw [key k (by omega)]
  obtain ⟨X, rfl⟩ := Int.eq_ofNat_of_zero_le hx
  obtain ⟨Y, rfl⟩ := Int.eq_ofNat_of_zero_le hy
  have e1 : (((X + 18446744073709551616 - Y - k) % 18446744073709551616 : Nat) : Int) = ((X : Int) - Y - k) % 18446744073709551616 := by omega
  have e2 : (((if X < Y + k then 1 else 0) : Nat) : Int) = if (X : Int) < Y + k then 1 else 0 := by split <;> split <;> omega
  show Result.ok (Value.tuple #[.int .u64 (((X + 18446744073709551616 - Y - k) % 18446744073709551616 : Nat) : Int), .int .u64 (((if X < Y + k then 1 else 0) : Nat) : Int)]) w = _
  rw [e1, e2]

end Go.Proofs.Ytpiolhjiflohgaa
namespace Go.Proofs.Ytpiolhjiflohgaa
namespace Kn
/-! One digit of a long division: v = v1 * 2^32 + v0 with v1 at least 2^31; r less than v; d a digit. -/
def qt (v r d : Int) : Int := (r * 4294967296 + d) / v

theorem le_of_mul {a b c : Int} (hc : 0 < c) (h : a * c ≤ b * c) : a ≤ b := Int.le_of_mul_le_mul_right h hc

theorem exact {v1 v0 v r d Q R : Int} (hv : v = v1 * 4294967296 + v0) (hv1 : 0 < v) (hr : Q * v1 + R = r) (hge : qt v r d ≤ Q) (hle : Q * v0 ≤ 4294967296 * R + d) : Q = qt v r d := by
  have h : Q ≤ qt v r d := by
    unfold qt
    refine Int.le_ediv_of_mul_le hv1 ?_
    have e : Q * v = (Q * v1) * 4294967296 + Q * v0 := by rw [hv]; grind
    rw [e]
    generalize Q * v1 = A at *
    generalize Q * v0 = C at *
    omega
  omega

theorem lt_base {v r d : Int} (hr : r < v) (h0 : 0 ≤ r) (hd : d < 4294967296) : qt v r d < 4294967296 := by
  unfold qt
  refine Int.ediv_lt_of_lt_mul (by omega) ?_
  rw [Int.mul_comm]
  omega

theorem nonneg {v r d : Int} (hr : r < v) (h0 : 0 ≤ r) (hd : 0 ≤ d) : 0 ≤ qt v r d := by
  unfold qt; exact Int.ediv_nonneg (by omega) (by omega)

theorem less {v1 v0 v r d Q R : Int} (hv : v = v1 * 4294967296 + v0) (hv1 : 0 < v) (hr : Q * v1 + R = r) (hlt : r < v) (h0 : 0 ≤ r) (hd : d < 4294967296)
    (h : 4294967296 ≤ Q ∨ 4294967296 * R + d < Q * v0) : qt v r d ≤ Q - 1 := by
  rcases h with h | h
  · have := lt_base hlt h0 hd; omega
  · have : qt v r d < Q := by
      unfold qt
      refine Int.ediv_lt_of_lt_mul hv1 ?_
      have e : Q * v = (Q * v1) * 4294967296 + Q * v0 := by rw [hv]; grind
      rw [e]
      generalize Q * v1 = A at *
      generalize Q * v0 = C at *
      omega
    omega

theorem broke {v1 v0 v r d Q R : Int} (hv : v = v1 * 4294967296 + v0) (hv1 : 0 < v) (hr : Q * v1 + R = r) (hge : qt v r d ≤ Q) (hQ : Q ≤ 4294967296) (hR : 4294967296 ≤ R) (hv0 : 0 ≤ v0) (hv0' : v0 < 4294967296) (hd : 0 ≤ d) : Q = qt v r d := by
  refine exact hv hv1 hr hge ?_
  have : Q * v0 ≤ 4294967296 * 4294967295 := Int.mul_le_mul hQ (by omega) hv0 (by omega)
  omega

theorem first {v1 v0 v r d : Int} (hv : v = v1 * 4294967296 + v0) (hlt : r < v) (h0 : 0 ≤ r) (hd : d < 4294967296) (hd0 : 0 ≤ d) (hv0 : 0 ≤ v0) (hv0' : v0 < 4294967296) (h1 : 2147483648 ≤ v1) :
    qt v r d ≤ r / v1 ∧ r / v1 ≤ 4294967297 ∧ 0 ≤ r / v1 := by
  refine ⟨?_, ?_, Int.ediv_nonneg h0 (by omega)⟩
  · refine Int.le_ediv_of_mul_le (by omega) ?_
    have h2 : qt v r d * v ≤ r * 4294967296 + d := by unfold qt; exact Int.ediv_mul_le _ (by omega)
    have h3 := nonneg hlt h0 hd0 (d := d)
    have e : qt v r d * v = (qt v r d * v1) * 4294967296 + qt v r d * v0 := by rw [hv]; grind
    have h4 : 0 ≤ qt v r d * v0 := Int.mul_nonneg h3 hv0
    rw [e] at h2
    generalize qt v r d * v1 = A at *
    generalize qt v r d * v0 = C at *
    omega
  · have : r / v1 < 4294967298 := Int.ediv_lt_of_lt_mul (by omega) (by omega)
    omega

theorem rest {v r d : Int} : r * 4294967296 + d - qt v r d * v = (r * 4294967296 + d) % v := by
  unfold qt
  have := Int.emod_def (r * 4294967296 + d) v
  rw [this, Int.mul_comm v]

/-- Two digits. -/
theorem two {v r d1 d0 : Int} (hv : 0 < v) :
    qt v r d1 * 4294967296 + qt v ((r * 4294967296 + d1) % v) d0 = ((r * 4294967296 + d1) * 4294967296 + d0) / v ∧
    (((r * 4294967296 + d1) % v) * 4294967296 + d0) % v = ((r * 4294967296 + d1) * 4294967296 + d0) % v := by
  unfold qt
  generalize hu : r * 4294967296 + d1 = u
  have e := Int.mul_ediv_add_emod u v
  have e2 : u * 4294967296 + d0 = (u % v * 4294967296 + d0) + v * (u / v * 4294967296) := by
    generalize hA : u / v = A at *
    generalize hR : u % v = R at *
    rw [← e]; grind
  rw [e2, Int.add_mul_ediv_left _ _ (by omega), Int.add_mul_emod_self_left]
  constructor
  · omega
  · rfl

/-- Both numbers times 2^s. -/
theorem scaled {u y s : Int} (hs : 0 < s) : (u * s) / (y * s) = u / y ∧ (u * s) % (y * s) = (u % y) * s := by
  exact ⟨Int.mul_ediv_mul_of_pos_left _ _ hs, by rw [Int.mul_comm u, Int.mul_comm y, Int.mul_emod_mul_of_pos _ _ hs, Int.mul_comm]⟩

/-- The shifted number's two halves. -/
theorem shifted {hi lo P T : Int} (hPT : P * T = 18446744073709551616) (hP : 0 < P) (hT : 0 < T) (h0 : 0 ≤ lo) (h1 : lo < 18446744073709551616) :
    (hi * 18446744073709551616 + lo) * P = (hi * P + lo / T) * 18446744073709551616 + lo * P % 18446744073709551616 ∧ 0 ≤ lo / T ∧ lo / T < P := by
  have a : lo * P % 18446744073709551616 = (lo % T) * P := by
    rw [← hPT, Int.mul_comm lo P, Int.mul_emod_mul_of_pos _ _ hP, Int.mul_comm]
  have e := Int.mul_ediv_add_emod lo T
  refine ⟨?_, Int.ediv_nonneg h0 (by omega), ?_⟩
  · rw [a]
    generalize hA : lo / T = A at *
    generalize hR : lo % T = R at *
    rw [← e, ← hPT]; grind
  · refine Int.ediv_lt_of_lt_mul hT ?_
    rw [hPT]; exact h1
theorem shifted_lt {hi lo y P X L : Int} (h : (hi * 18446744073709551616 + lo) * P = X * 18446744073709551616 + L) (hP : 0 < P) (hL : 0 ≤ L) (hy : hi < y) (h1 : lo < 18446744073709551616) : X < y * P := by
  have a : (hi * 18446744073709551616 + lo) * P < (y * 18446744073709551616) * P := Int.mul_lt_mul_of_pos_right (by omega) hP
  rw [h] at a
  have e : y * 18446744073709551616 * P = (y * P) * 18446744073709551616 := by grind
  rw [e] at a
  generalize y * P = Y at *
  omega
end Kn
end Go.Proofs.Ytpiolhjiflohgaa
namespace Go.Proofs.Ytpiolhjiflohgaa

theorem bitLenAux_spec : ∀ f x : Nat, x < 2 ^ f → x < 2 ^ Lib.bitLenAux f x ∧ (x ≠ 0 → 2 ^ (Lib.bitLenAux f x - 1) ≤ x ∧ 1 ≤ Lib.bitLenAux f x)
  | 0, x, h => by
    simp at h
    subst h
    simp [Lib.bitLenAux]
  | f + 1, x, h => by
    unfold Lib.bitLenAux
    by_cases h0 : x = 0
    · subst h0; simp
    · rw [if_neg h0]
      have ih := bitLenAux_spec f (x / 2) (by rw [Nat.pow_succ] at h; omega)
      refine ⟨?_, fun _ => ⟨?_, by omega⟩⟩
      · rw [Nat.add_comm, Nat.pow_succ]; omega
      · by_cases h1 : x / 2 = 0
        · rw [h1]
          have : Lib.bitLenAux f 0 = 0 := by cases f <;> simp [Lib.bitLenAux]
          rw [this]; simp; omega
        · obtain ⟨ih1, ih2⟩ := ih.2 h1
          obtain ⟨k, hk⟩ : ∃ k, Lib.bitLenAux f (x / 2) = k + 1 := ⟨Lib.bitLenAux f (x / 2) - 1, by omega⟩
          rw [hk] at ih1 ⊢
          simp only [Nat.add_sub_cancel] at ih1
          rw [show 1 + (k + 1) - 1 = k + 1 by omega, Nat.pow_succ]
          omega

theorem bitLen_spec (x : Nat) (h : x < 18446744073709551616) (h0 : x ≠ 0) : x < 2 ^ Lib.bitLen x ∧ 2 ^ (Lib.bitLen x - 1) ≤ x ∧ 1 ≤ Lib.bitLen x ∧ Lib.bitLen x ≤ 64 := by
  obtain ⟨a, b⟩ := bitLenAux_spec 64 x h
  obtain ⟨c, d⟩ := b h0
  exact ⟨a, c, d, Lib.bitLen_le x 64 (by omega) h⟩

/-- The number of bits of x, out of that of x / 2^k. -/
theorem len_of {x z : Int} (k : Nat) (h0 : 0 ≤ x) (h1 : x < 18446744073709551616) (hz : z.toNat = x.toNat / 2 ^ k) (hk : 2 ^ k ≤ x.toNat) (hz0 : 0 ≤ z) (hz1 : z ≤ 255) : Lib.len8 z + k = (Lib.bitLen x.toNat : Int) ∧ 0 ≤ Lib.len8 z ∧ Lib.len8 z ≤ 8 := by
  have a := Lib.bitLen_shift k x.toNat hk (by omega)
  have b := Lib.len8_of z hz0 hz1
  have c := Lib.bitLen_le8' z hz0 hz1
  rw [← hz] at a
  omega


end Go.Proofs.Ytpiolhjiflohgaa
namespace Go.Proofs.Ytpiolhjiflohgaa
open Go.RowKit



theorem or_add (k : Nat) (a b : Int) (hk : k ≤ 63) (ha : 0 ≤ a) (hb : 0 ≤ b) (hb1 : b < 2 ^ k) (h : a * 2 ^ k < 18446744073709551616) : bits .or .u64 (a * 2 ^ k) b = a * 2 ^ k + b := by
  obtain ⟨A, rfl⟩ := Int.eq_ofNat_of_zero_le ha
  obtain ⟨B, rfl⟩ := Int.eq_ofNat_of_zero_le hb
  have e : (A : Int) * 2 ^ k = ((2 ^ k * A : Nat) : Int) := by rw [Int.natCast_mul, Int.mul_comm]; simp
  have hB : B < 2 ^ k := by
    have : ((2 : Int) ^ k) = ((2 ^ k : Nat) : Int) := by simp
    omega
  have hp : 2 ^ k ≤ 2 ^ 63 := Nat.pow_le_pow_right (by omega) hk
  rw [e] at h ⊢
  rw [bits_or_u64_nat _ _ (by omega) (by omega), ← Nat.two_pow_add_eq_or_of_lt hB A]
  omega


end Go.Proofs.Ytpiolhjiflohgaa
