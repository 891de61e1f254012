/- Contracts of math/bits: Mul64, Len64, LeadingZeros64, Div64, Rem64, for all arguments for which they do not panic. -/
import Derived.Test.YtncmffhoodfhjaaProg
import Derived.Test.YtncmffhoodfhjaaKnuth
import Derived.Test.YtncmffhoodfhjaaLen
import Derived.WalkKit
import Derived.WalkSpells
import Derived.WalkLawsBesides
import Derived.Lib.Hide
import Derived.IntWalk
import Derived.Laws.MathBits
import Derived.BigQuiet
import Derived.Deep.QuietTactic
import Derived.Deep.CutBlock
import Derived.Deep.DeepCutAuto
import Derived.Deep.LoopGhost
namespace Go.Proofs.Ytncmffhoodfhjaa
open Go.RowKit

set_option maxHeartbeats 1000000 in
set_option maxRecDepth 100000 in
theorem div64_core (hi lo y s V v1 v0 X L d1 d0 : Int) (h0 : 0 < hi) (h1 : hi < y) (hs0 : 0 ≤ s) (hs1 : s ≤ 63)
    (e1 : IntKind.u64.wrap (y * 2 ^ s.toNat) = V) (e2 : V / 4294967296 = v1) (e3 : bits .and .u64 V 4294967295 = v0)
    (e4 : bits .or .u64 (IntKind.u64.wrap (hi * 2 ^ s.toNat)) (lo / 2 ^ (64 - s).toNat) = X)
    (e5 : IntKind.u64.wrap (lo * 2 ^ s.toNat) = L) (e6 : L / 4294967296 = d1) (e7 : bits .and .u64 L 4294967295 = d0)
    (hV : V = v1 * 4294967296 + v0) (b1 : 2147483648 ≤ v1) (b2 : v1 < 4294967296) (b3 : 0 ≤ v0) (b4 : v0 < 4294967296)
    (b5 : 0 ≤ d1) (b6 : d1 < 4294967296) (b7 : 0 ≤ d0) (b8 : d0 < 4294967296) (b9 : 0 ≤ X) (b10 : X < V) (w : World)
    (hlz : ∀ w, Calls Try.prog 109 #[.int .u64 y] w fun e w' => e = .returned (.int .i64 s) ∧ w = w') :
    Calls Try.prog 108 #[.int .u64 hi, .int .u64 lo, .int .u64 y] w fun e w' => e = .returned (.tuple #[.int .u64 (Kn.qt V X d1 * 4294967296 + Kn.qt V ((X * 4294967296 + d1) % V) d0), .int .u64 (((X * 4294967296 + d1) % V * 4294967296 + d0) % V / 2 ^ s.toNat)]) ∧ ∃ n, w' = w.drewN n := by
  have b11 : ((y : Int) == 0) = false := by rw [beq_eq_false_iff_ne]; omega
  have b12 : ((hi : Int) == 0) = false := by rw [beq_eq_false_iff_ne]; omega
  have H := Lib.hid hlz
  clear hlz
  have HV := Lib.hid hV
  have V1 : V < 18446744073709551616 := by omega
  have V0 : 0 < V := by omega
  have f1 := Kn.first hV b10 b9 b6 b5 b3 b4 b1
  clear hV
  have c1 : 0 ≤ X / v1 * v1 ∧ X / v1 * v1 ≤ X ∧ X - X / v1 * v1 < v1 := by
    have := Int.mul_ediv_add_emod X v1
    have := Int.emod_nonneg X (b := v1) (by omega)
    have := Int.emod_lt_of_pos X (b := v1) (by omega)
    have : 0 ≤ X / v1 * v1 := Int.mul_nonneg f1.2.2 (by omega)
    rw [Int.mul_comm v1] at *
    generalize X / v1 * v1 = A at *
    omega
  obtain ⟨c1, c2, c3⟩ := c1
  obtain ⟨f1, f2, f3⟩ := f1
  have hU0 := Int.emod_nonneg (X * 4294967296 + d1) (b := V) (by omega)
  have hU1 := Int.emod_lt_of_pos (X * 4294967296 + d1) V0
  have hR1 := Kn.rest (v := V) (r := X) (d := d1)
  generalize hU : (X * 4294967296 + d1) % V = U at *
  have hR2 := Kn.rest (v := V) (r := U) (d := d0)
  have hW0 := Int.emod_nonneg (U * 4294967296 + d0) (b := V) (by omega)
  have hW1 := Int.emod_lt_of_pos (U * 4294967296 + d0) V0
  generalize hW : (U * 4294967296 + d0) % V = W at *
  have HU := Lib.hid hU
  have HW := Lib.hid hW
  have HR1 := Lib.hid hR1
  have HR2 := Lib.hid hR2
  clear hU hW hR1 hR2
  go_enter Try.func108, Try.ntmps108
  go_wp2_with fail
  refine (H.out _).mono ?_
  rintro e w' ⟨rfl, rfl⟩
  go_upto_block 0 with fail
  go_cut [15] (fun x wx => x = .int .u64 (Kn.qt V X d1) ∧ ∃ n, wx = w.drewN n)
  case first =>
    go_wp2_with fail
    go_loop [15, 16] (fun x z => ∃ Q R : Int, Hid (Q * v1 + R = X) ∧ Kn.qt V X d1 ≤ Q ∧ 0 ≤ Q ∧ Q ≤ 4294967297 ∧ 0 ≤ R ∧ R < 4294967296 ∧ x = .int .u64 Q ∧ z = .int .u64 R) (fun x _ => (intOf x).toNat)
    case atStart => exact ⟨X / v1, X - X / v1 * v1, Lib.hid (by omega), f1, f3, f2, by omega, by omega, rfl, rfl⟩
    case round =>
      clear c1 c2 c3 f1 f2 f3
      obtain ⟨Q, R, hr, hge, q0, q1, r0, r1, rfl, rfl⟩ := hrel
      have hlow := Kn.nonneg b10 b9 b5 (d := d1)
      have p0 : 0 ≤ Q * v0 := Int.mul_nonneg q0 b3
      by_cases hc : 4294967296 ≤ Q ∨ 4294967296 * R + d1 < Q * v0
      · have hless := Kn.less HV.out V0 hr.out b10 b9 b6 hc
        have hr2 : Hid ((Q - 1) * v1 + (R + v1) = X) := by
          have := hr.out
          refine Lib.hid ?_
          rw [Int.sub_mul]; omega
        have p1 : Q < 4294967296 → Q * v0 ≤ 18446744073709551615 := by
          intro h
          have : Q * v0 ≤ 4294967295 * 4294967295 := Int.mul_le_mul (by omega) (by omega) b3 (by omega)
          omega
        by_cases hb : 4294967296 ≤ R + v1
        · have hq : Hid (Q - 1 = Kn.qt V X d1) := Lib.hid (Kn.broke HV.out V0 hr2.out hless (by omega) hb b3 b4 b5)
          by_cases hQ : 4294967296 ≤ Q
          all_goals
            go_wp2
            go_meet
            rw [hq.out]
            exact ⟨rfl, 0, rfl⟩
        · by_cases hQ : 4294967296 ≤ Q
          all_goals
            go_wp2
            go_round
            case rel => exact ⟨Q - 1, R + v1, hr2, hless, by omega, by omega, by omega, by omega, rfl, rfl⟩
            case measure => simp [intOf]; omega
      · have hQ : Q < 4294967296 := by omega
        have hle : Q * v0 ≤ 4294967296 * R + d1 := by omega
        have hq : Hid (Q = Kn.qt V X d1) := Lib.hid (Kn.exact HV.out V0 hr.out hge hle)
        have p1 : Q * v0 ≤ 18446744073709551615 := by omega
        clear hc
        go_wp2
        go_meet
        rw [hq.out]
        exact ⟨rfl, 0, rfl⟩
  case rest =>
    obtain ⟨rfl, n, rfl⟩ := hcut
    clear c1 c2 c3 f1 f2 f3
    have e8 : IntKind.u64.wrap (IntKind.u64.wrap (IntKind.u64.wrap (X * 4294967296) + d1) - IntKind.u64.wrap (Kn.qt V X d1 * V)) = U := by
      have := HR1.out
      simp only [IntKind.wrap_u64]
      generalize Kn.qt V X d1 * V = A at *
      omega
    have f1 := Kn.first HV.out hU1 hU0 b8 b7 b3 b4 b1
    have c1 : 0 ≤ U / v1 * v1 ∧ U / v1 * v1 ≤ U ∧ U - U / v1 * v1 < v1 := by
      have := Int.mul_ediv_add_emod U v1
      have := Int.emod_nonneg U (b := v1) (by omega)
      have := Int.emod_lt_of_pos U (b := v1) (by omega)
      have : 0 ≤ U / v1 * v1 := Int.mul_nonneg f1.2.2 (by omega)
      rw [Int.mul_comm v1] at *
      generalize U / v1 * v1 = A at *
      omega
    obtain ⟨c1, c2, c3⟩ := c1
    obtain ⟨f1, f2, f3⟩ := f1
    go_upto_block 2 with fail
    go_cut [18] (fun x wx => x = .int .u64 (Kn.qt V U d0) ∧ ∃ n, wx = w.drewN n)
    case first =>
      go_wp2_with fail
      go_loop [18, 16] (fun x z => ∃ Q R : Int, Hid (Q * v1 + R = U) ∧ Kn.qt V U d0 ≤ Q ∧ 0 ≤ Q ∧ Q ≤ 4294967297 ∧ 0 ≤ R ∧ R < 4294967296 ∧ x = .int .u64 Q ∧ z = .int .u64 R) (fun x _ => (intOf x).toNat)
      case atStart => exact ⟨U / v1, U - U / v1 * v1, Lib.hid (by omega), f1, f3, f2, by omega, by omega, rfl, rfl⟩
      case round =>
        clear c1 c2 c3 f1 f2 f3
        obtain ⟨Q, R, hr, hge, q0, q1, r0, r1, rfl, rfl⟩ := hrel
        have hlow := Kn.nonneg hU1 hU0 b7 (d := d0)
        have p0 : 0 ≤ Q * v0 := Int.mul_nonneg q0 b3
        by_cases hc : 4294967296 ≤ Q ∨ 4294967296 * R + d0 < Q * v0
        · have hless := Kn.less HV.out V0 hr.out hU1 hU0 b8 hc
          have hr2 : Hid ((Q - 1) * v1 + (R + v1) = U) := by
            have := hr.out
            refine Lib.hid ?_
            rw [Int.sub_mul]; omega
          have p1 : Q < 4294967296 → Q * v0 ≤ 18446744073709551615 := by
            intro h
            have : Q * v0 ≤ 4294967295 * 4294967295 := Int.mul_le_mul (by omega) (by omega) b3 (by omega)
            omega
          by_cases hb : 4294967296 ≤ R + v1
          · have hq : Hid (Q - 1 = Kn.qt V U d0) := Lib.hid (Kn.broke HV.out V0 hr2.out hless (by omega) hb b3 b4 b7)
            by_cases hQ : 4294967296 ≤ Q
            all_goals
              go_wp2
              go_meet
              rw [hq.out]
              exact ⟨rfl, n, rfl⟩
          · by_cases hQ : 4294967296 ≤ Q
            all_goals
              go_wp2
              go_round
              case rel => exact ⟨Q - 1, R + v1, hr2, hless, by omega, by omega, by omega, by omega, rfl, rfl⟩
              case measure => simp [intOf]; omega
        · have hQ : Q < 4294967296 := by omega
          have hle : Q * v0 ≤ 4294967296 * R + d0 := by omega
          have hq : Hid (Q = Kn.qt V U d0) := Lib.hid (Kn.exact HV.out V0 hr.out hge hle)
          have p1 : Q * v0 ≤ 18446744073709551615 := by omega
          clear hc
          go_wp2
          go_meet
          rw [hq.out]
          exact ⟨rfl, n, rfl⟩
    case rest =>
      obtain ⟨rfl, m, rfl⟩ := hcut
      clear c1 c2 c3 f1 f2 f3 e8
      have e9 : IntKind.u64.wrap (IntKind.u64.wrap (IntKind.u64.wrap (U * 4294967296) + d0) - IntKind.u64.wrap (Kn.qt V U d0 * V)) = W := by
        have := HR2.out
        simp only [IntKind.wrap_u64]
        generalize Kn.qt V U d0 * V = A at *
        omega
      have l1 := Kn.nonneg b10 b9 b5 (d := d1)
      have l2 := Kn.lt_base b10 b9 b6 (d := d1)
      have l3 := Kn.nonneg hU1 hU0 b7 (d := d0)
      have l4 := Kn.lt_base hU1 hU0 b8 (d := d0)
      go_wp2
      go_ret2
      exact ⟨rfl, m, rfl⟩

theorem lz64_any (x : Int) (h0 : 0 < x) (h1 : x < 18446744073709551616) (w : World) :
    Calls Try.prog 109 #[.int .u64 x] w fun e w' => e = .returned (.int .i64 (64 - Lib.bitLen x.toNat)) ∧ w = w' := by
  obtain ⟨_, _, _, l⟩ := bitLen_spec x.toNat (by omega) (by omega)
  go_enter Try.func109, Try.ntmps109
  go_wp2_with (go_at_call 110; refine (len64_any _ (by omega) h1 _).mono ?_; rintro e w' ⟨rfl, rfl⟩)
  go_ret
  exact ⟨rfl, rfl⟩

theorem or_add (k : Nat) (a b : Int) (hk : k ≤ 63) (ha : 0 ≤ a) (hb : 0 ≤ b) (hb1 : b < 2 ^ k) (h : a * 2 ^ k < 18446744073709551616) : bits .or .u64 (a * 2 ^ k) b = a * 2 ^ k + b := by
  obtain ⟨A, rfl⟩ := Int.eq_ofNat_of_zero_le ha
  obtain ⟨B, rfl⟩ := Int.eq_ofNat_of_zero_le hb
  have e : (A : Int) * 2 ^ k = ((2 ^ k * A : Nat) : Int) := by rw [Int.natCast_mul, Int.mul_comm]; simp
  have hB : B < 2 ^ k := by
    have : ((2 : Int) ^ k) = ((2 ^ k : Nat) : Int) := by simp
    omega
  have hp : 2 ^ k ≤ 2 ^ 63 := Nat.pow_le_pow_right (by omega) hk
  rw [e] at h ⊢
  rw [bits_or_u64_nat _ _ (by omega) (by omega), ← Nat.two_pow_add_eq_or_of_lt hB A]
  omega

theorem div64_any (hi lo y : Int) (h0 : 0 ≤ hi) (h1 : hi < y) (h2 : y < 18446744073709551616) (h3 : 0 ≤ lo) (h4 : lo < 18446744073709551616) (w : World) :
    Calls Try.prog 108 #[.int .u64 hi, .int .u64 lo, .int .u64 y] w fun e w' => e = .returned (.tuple #[.int .u64 ((hi * 18446744073709551616 + lo) / y), .int .u64 ((hi * 18446744073709551616 + lo) % y)]) ∧ ∃ n, w' = w.drewN n := by
  by_cases hz : hi = 0
  · subst hz
    have b1 : ((y : Int) == 0) = false := by rw [beq_eq_false_iff_ne]; omega
    rw [show (0 : Int) * 18446744073709551616 + lo = lo by omega]
    go_enter Try.func108, Try.ntmps108
    go_wp2
    go_region
    go_wp2
    go_ret2
    exact ⟨rfl, 1, rfl⟩
  · obtain ⟨l1, l2, l3, l4⟩ := bitLen_spec y.toNat (by omega) (by omega)
    have hlz := fun w => lz64_any y (by omega) h2 w
    generalize Lib.bitLen y.toNat = L at *
    obtain ⟨k, hk⟩ : ∃ k, k + L = 64 := ⟨64 - L, by omega⟩
    have es : (64 - (L : Int)) = (k : Int) := by omega
    rw [es] at hlz
    have pk : 0 < (2 : Int) ^ k := Int.pow_pos (by omega)
    have pL : 0 < (2 : Int) ^ L := Int.pow_pos (by omega)
    have pkL : (2 : Int) ^ k * 2 ^ L = 18446744073709551616 := by rw [← Int.pow_add, hk]; rfl
    have y1 : y < 2 ^ L := by
      have : ((2 : Int) ^ L) = ((2 ^ L : Nat) : Int) := by simp
      omega
    have y2 : 2 ^ L ≤ 2 * y := by
      have : ((2 : Int) ^ L) = ((2 ^ L : Nat) : Int) := by simp
      have e : 2 ^ L = 2 ^ (L - 1) * 2 := by rw [← Nat.pow_succ]; congr 1; omega
      omega
    have v1 : y * 2 ^ k < 18446744073709551616 := by
      rw [← pkL, Int.mul_comm]; exact Int.mul_lt_mul_of_pos_left y1 pk
    have v2 : 18446744073709551616 ≤ 2 * (y * 2 ^ k) := by
      rw [← pkL, ← Int.mul_assoc, Int.mul_comm (2 ^ k)]; exact Int.mul_le_mul_of_nonneg_right y2 (by omega)
    have x1 : hi * 2 ^ k < 18446744073709551616 := Int.lt_trans (Int.mul_lt_mul_of_pos_right h1 pk) v1
    have x0 : 0 ≤ hi * 2 ^ k := Int.mul_nonneg h0 (by omega)
    obtain ⟨s1, s2, s3⟩ := Kn.shifted (hi := hi) pkL pk pL h3 h4
    have s4 := Int.emod_nonneg (lo * 2 ^ k) (b := 18446744073709551616) (by omega)
    have s5 := Int.emod_lt_of_pos (lo * 2 ^ k) (b := 18446744073709551616) (by omega)
    have s6 := Kn.shifted_lt s1 pk s4 h1 h4
    have e4 := or_add k hi (lo / 2 ^ L) (by omega) h0 s2 s3 x1
    obtain ⟨t1, t2⟩ := Kn.scaled (u := hi * 18446744073709551616 + lo) (y := y) pk
    rw [s1] at t1 t2
    have hw : IntKind.u64.wrap (y * 2 ^ k) = y * 2 ^ k := by rw [IntKind.wrap_u64]; omega
    have hw2 : IntKind.u64.wrap (hi * 2 ^ k) = hi * 2 ^ k := by rw [IntKind.wrap_u64]; omega
    have hw3 : IntKind.u64.wrap (lo * 2 ^ k) = lo * 2 ^ k % 18446744073709551616 := by rw [IntKind.wrap_u64]
    generalize hV : y * 2 ^ k = V at *
    generalize hX : hi * 2 ^ k + lo / 2 ^ L = X at *
    generalize hM : lo * 2 ^ k % 18446744073709551616 = M at *
    have c := div64_core hi lo y k V (V / 4294967296) (V % 4294967296) X M (M / 4294967296) (M % 4294967296) (by omega) h1 (by omega) (by omega)
      (by rw [Int.toNat_natCast, hV]; exact hw) rfl (and_low32 V (by omega) (by omega))
      (by rw [Int.toNat_natCast, hw2, show ((64 : Int) - (k : Int)).toNat = L by omega]; exact e4)
      (by rw [Int.toNat_natCast]; exact hw3) rfl (and_low32 M s4 s5)
      (by omega) (by omega) (by omega) (by omega) (by omega) (by omega) (by omega) (by omega) (by omega) (by omega) s6 w hlz
    obtain ⟨d1, d2⟩ := Kn.two (v := V) (r := X) (d1 := M / 4294967296) (d0 := M % 4294967296) (by omega)
    have e5 : (X * 4294967296 + M / 4294967296) * 4294967296 + M % 4294967296 = X * 18446744073709551616 + M := by omega
    rw [e5] at d1 d2
    rw [d1, d2, t1, t2, Int.toNat_natCast, Int.mul_ediv_cancel _ (by omega)] at c
    exact c

theorem rem64_any (hi lo y : Int) (h0 : 0 ≤ hi) (h00 : hi < 18446744073709551616) (h1 : 0 < y) (h2 : y < 18446744073709551616) (h3 : 0 ≤ lo) (h4 : lo < 18446744073709551616) (w : World) :
    Calls Try.prog 107 #[.int .u64 hi, .int .u64 lo, .int .u64 y] w fun e w' => e = .returned (.int .u64 ((hi * 18446744073709551616 + lo) % y)) ∧ ∃ n, w' = w.drewN n := by
  have b1 := Int.emod_nonneg hi (b := y) (by omega)
  have b2 := Int.emod_lt_of_pos hi h1
  have e : (hi * 18446744073709551616 + lo) % y = (hi % y * 18446744073709551616 + lo) % y := by
    have h := Int.mul_ediv_add_emod hi y
    have e2 : hi * 18446744073709551616 + lo = (hi % y * 18446744073709551616 + lo) + y * (hi / y * 18446744073709551616) := by
      generalize hi / y = A at *
      generalize hi % y = R at *
      rw [← h]; grind
    rw [e2, Int.add_mul_emod_self_left]
  rw [e]
  go_enter Try.func107, Try.ntmps107
  go_wp2_with (go_at_call 108; refine (div64_any _ _ _ (by assumption) (by assumption) h2 h3 h4 _).mono ?_; rintro e w' ⟨rfl, n, rfl⟩)
  go_ret
  exact ⟨rfl, n, rfl⟩
end Go.Proofs.Ytncmffhoodfhjaa
