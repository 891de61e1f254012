/- Contracts of the reference of layer 1: gcd, abs, Check, Both, less, plus, minus. Contracts of the reference's times, Neg and made. Contracts of Make: package ratio's, and the reference's. -/
import Derived.Test.YtncmffhoodfhjaaYj
namespace Go.Proofs.Ytncmffhoodfhjaa
open Go.RowKit

set_option maxHeartbeats 400000 in
theorem rgcd_any (a b : Nat) (ha : a < 18446744073709551616) (hb : b < 18446744073709551616) (w : World) :
    Calls Try.prog 52 #[.int .u64 a, .int .u64 b] w fun e w' => e = .returned (.int .u64 (Nat.gcd a b : Int)) ∧ ∃ n, w' = w.drewN n := by
  go_enter Try.func52, Try.ntmps52
  go_wp2
  go_loopw [0, 1] (fun x y w' => ∃ s t : Nat, s < 18446744073709551616 ∧ t < 18446744073709551616 ∧ Nat.gcd s t = Nat.gcd a b ∧ x = .int .u64 s ∧ y = .int .u64 t ∧ ∃ n, w' = w.drewN n) (fun _ y _ => (intOf y).toNat)
  case atStart => exact ⟨a, b, ha, hb, rfl, rfl, rfl, 0, rfl⟩
  case round =>
    obtain ⟨s, t, hs, ht, hg, rfl, rfl, n, rfl⟩ := hrel
    by_cases h0 : t = 0
    · subst h0
      go_wp2
      go_ret
      exact ⟨ret_int (by rw [← hg, Nat.gcd_zero_right]), n, rfl⟩
    · have hb0 : ((t : Int) != 0) = true := by rw [bne_iff_ne]; omega
      have hz : 0 < t := by omega
      have HG := Lib.hid hg
      clear hg h0
      go_wp2
      go_region
      go_wp2
      go_roundw
      case rel => exact ⟨t, s % t, ht, by have := Nat.mod_lt s hz; omega, by rw [Rp.gcd_mod_right, Nat.gcd_comm, HG.out], rfl, by go_num, n + 1, rfl⟩
      case measure =>
        have := Nat.mod_lt s hz
        simp [intOf]; omega


set_option maxHeartbeats 400000 in
theorem rabs_any (n : Int) (h1 : -9223372036854775808 ≤ n) (h2 : n ≤ 9223372036854775807) (w : World) :
    Calls Try.prog 51 #[.int .i64 n] w fun e w' => e = .returned (.int .u64 (n.natAbs : Int)) ∧ w = w' := by
  go_enter Try.func51, Try.ntmps51
  go_wp2
  all_goals
    go_ret
    refine ⟨ret_int ?_, rfl⟩
    first | omega | (simp only [IntKind.wrap_u64, IntKind.wrap_i64]; omega)

set_option maxHeartbeats 1000000 in
theorem rkCheck_any (n d : Int) (w : World) (n0 : -9223372036854775808 ≤ n) (n1 : n ≤ 9223372036854775807) (d0 : -9223372036854775808 ≤ d) (d1 : d ≤ 9223372036854775807) :
    Calls Try.prog 36 #[.agg #[.int .i64 n, .int .i64 d]] w fun e w' => e = .returned (.int .i64 (Rp.chk n d)) ∧ Below w.heap.size w w' := by
  by_cases h : 1 ≤ d ∧ d ≤ 1000000000000000000 ∧ -1000000000000000000 ≤ n ∧ n ≤ 1000000000000000000
  · obtain ⟨h1, h2, h3, h4⟩ := h
    have g1 : decide (d < 1) = false := decide_eq_false (by omega)
    have g2 : decide (1000000000000000000 < d) = false := decide_eq_false (by omega)
    have g3 : decide (n < -1000000000000000000) = false := decide_eq_false (by omega)
    have g4 : decide (1000000000000000000 < n) = false := decide_eq_false (by omega)
    have hdd : d = (d.natAbs : Int) := by omega
    have wd : IntKind.u64.wrap d = (d.natAbs : Int) := by rw [IntKind.wrap_u64]; omega
    clear hdd
    by_cases hg : Nat.gcd n.natAbs d.natAbs = 1
    · have e : Rp.chk n d = 0 := by unfold Rp.chk; rw [if_pos ⟨h1, h2, h3, h4, hg⟩]
      rw [e]
      have hb : ((Nat.gcd n.natAbs d.natAbs : Int) != 1) = false := by rw [hg]; rfl
      clear hg e
      go_enter Try.func36, Try.ntmps36
      go_wp2_with fail
      go_quiet ((first
              | (go_at_call 51; exact quietL (rabs_any _ (by assumption) (by assumption) _))
              | (go_at_call 52; exact Calls.quiet_of (rgcd_any _ _ (by omega) (by omega) _))))
      go_wp2
      go_ret
      exact ⟨rfl, below_drewN ((Below.refl _ _).alloc (Nat.le_refl _) _) _⟩
    · have e : Rp.chk n d = 8 := by unfold Rp.chk; rw [if_neg (fun h => hg h.2.2.2.2)]
      rw [e]
      have hb : ((Nat.gcd n.natAbs d.natAbs : Int) != 1) = true := by rw [bne_iff_ne]; omega
      clear hg e
      go_enter Try.func36, Try.ntmps36
      go_wp2_with fail
      go_quiet ((first
              | (go_at_call 51; exact quietL (rabs_any _ (by assumption) (by assumption) _))
              | (go_at_call 52; exact Calls.quiet_of (rgcd_any _ _ (by omega) (by omega) _))))
      go_wp2
      go_ret
      exact ⟨rfl, below_drewN ((Below.refl _ _).alloc (Nat.le_refl _) _) _⟩
  · have e : Rp.chk n d = 8 := by unfold Rp.chk; rw [if_neg (fun k => h ⟨k.1, k.2.1, k.2.2.1, k.2.2.2.1⟩)]
    rw [e]
    clear e
    by_cases h1 : d < 1
    · clear h
      have g1 : decide (d < 1) = true := decide_eq_true h1
      go_enter Try.func36, Try.ntmps36
      go_wp2_with fail
      go_quiet ((first
              | (go_at_call 51; exact quietL (rabs_any _ (by assumption) (by assumption) _))
              | (go_at_call 52; exact Calls.quiet_of (rgcd_any _ _ (by omega) (by omega) _))))
      go_wp2
      go_ret
      exact ⟨rfl, below_drewN ((Below.refl _ _).alloc (Nat.le_refl _) _) _⟩
    · have g1 : decide (d < 1) = false := decide_eq_false h1
      by_cases h2 : 1000000000000000000 < d
      · clear h
        have g2 : decide (1000000000000000000 < d) = true := decide_eq_true h2
        go_enter Try.func36, Try.ntmps36
        go_wp2_with fail
        go_quiet ((first
                | (go_at_call 51; exact quietL (rabs_any _ (by assumption) (by assumption) _))
                | (go_at_call 52; exact Calls.quiet_of (rgcd_any _ _ (by omega) (by omega) _))))
        go_wp2
        go_ret
        exact ⟨rfl, below_drewN ((Below.refl _ _).alloc (Nat.le_refl _) _) _⟩
      · have g2 : decide (1000000000000000000 < d) = false := decide_eq_false h2
        by_cases h3 : n < -1000000000000000000
        · clear h
          have g3 : decide (n < -1000000000000000000) = true := decide_eq_true h3
          go_enter Try.func36, Try.ntmps36
          go_wp2_with fail
          go_quiet ((first
                  | (go_at_call 51; exact quietL (rabs_any _ (by assumption) (by assumption) _))
                  | (go_at_call 52; exact Calls.quiet_of (rgcd_any _ _ (by omega) (by omega) _))))
          go_wp2
          go_ret
          exact ⟨rfl, below_drewN ((Below.refl _ _).alloc (Nat.le_refl _) _) _⟩
        · have g3 : decide (n < -1000000000000000000) = false := decide_eq_false h3
          have h4 : 1000000000000000000 < n := by omega
          have g4 : decide (1000000000000000000 < n) = true := decide_eq_true h4
          clear h
          go_enter Try.func36, Try.ntmps36
          go_wp2_with fail
          go_quiet ((first
                  | (go_at_call 51; exact quietL (rabs_any _ (by assumption) (by assumption) _))
                  | (go_at_call 52; exact Calls.quiet_of (rgcd_any _ _ (by omega) (by omega) _))))
          go_wp2
          go_ret
          exact ⟨rfl, below_drewN ((Below.refl _ _).alloc (Nat.le_refl _) _) _⟩


set_option maxHeartbeats 400000 in
theorem rless_any (h1 l1 h2 l2 : Int) (b0 : 0 ≤ l1) (b1 : l1 < 18446744073709551616) (d0 : 0 ≤ l2) (d1 : l2 < 18446744073709551616) (w : World) :
    Calls Try.prog 55 #[.agg #[.int .u64 h1, .int .u64 l1], .agg #[.int .u64 h2, .int .u64 l2]] w fun e w' => e = .returned (.bool (decide (W h1 l1 < W h2 l2))) ∧ Below w.heap.size w w' := by
  by_cases hl : h1 < h2
  · rw [decide_eq_true (show W h1 l1 < W h2 l2 by unfold W; omega)]
    go_enter Try.func55, Try.ntmps55
    go_wp2
    go_ret
    exact ⟨rfl, (((Below.refl _ _).alloc (Nat.le_refl _) _).alloc (by simp) _)⟩
  · by_cases he : h1 = h2
    · subst he
      go_enter Try.func55, Try.ntmps55
      go_wp2
      go_ret
      exact ⟨ret_bool (by first | (rw [decide_eq_decide]; unfold W; omega) | (unfold W; simp)), (((Below.refl _ _).alloc (Nat.le_refl _) _).alloc (by simp) _)⟩
    · rw [decide_eq_false (show ¬ W h1 l1 < W h2 l2 by unfold W; omega)]
      have hb : (h1 == h2) = false := by rw [beq_eq_false_iff_ne]; exact he
      go_enter Try.func55, Try.ntmps55
      go_wp2
      go_ret
      exact ⟨rfl, (((Below.refl _ _).alloc (Nat.le_refl _) _).alloc (by simp) _)⟩


end Go.Proofs.Ytncmffhoodfhjaa
namespace Go.Proofs.Ytncmffhoodfhjaa
open Go.RowKit

theorem times_arith (A1 A0 B1 B0 : Int) (a1 : 0 ≤ A1) (a1' : A1 ≤ 4294967295) (a0 : 0 ≤ A0) (a0' : A0 ≤ 4294967295) (b1 : 0 ≤ B1) (b1' : B1 ≤ 4294967295) (b0 : 0 ≤ B0) (b0' : B0 ≤ 4294967295) :
    (A1 * 4294967296 + A0) * (B1 * 4294967296 + B0) / 18446744073709551616 = A1 * B1 + A1 * B0 / 4294967296 + (A1 * B0 % 4294967296 + A0 * B1 + A0 * B0 / 4294967296) / 4294967296 ∧
    (A1 * 4294967296 + A0) * (B1 * 4294967296 + B0) % 18446744073709551616 = (A1 * B0 % 4294967296 + A0 * B1 + A0 * B0 / 4294967296) % 4294967296 * 4294967296 + A0 * B0 % 4294967296 ∧
    A1 * B1 + A1 * B0 / 4294967296 + (A1 * B0 % 4294967296 + A0 * B1 + A0 * B0 / 4294967296) / 4294967296 < 18446744073709551616 := by
  have p1 := prod_bound A1 B1 a1 a1' b1 b1'
  have p2 := prod_bound A1 B0 a1 a1' b0 b0'
  have p3 := prod_bound A0 B1 a0 a0' b1 b1'
  have p4 := prod_bound A0 B0 a0 a0' b0 b0'
  rw [Go.split_mul]
  have hlt : (A1 * 4294967296 + A0) * (B1 * 4294967296 + B0) ≤ 18446744073709551615 * 18446744073709551615 := Int.mul_le_mul (by omega) (by omega) (by omega) (by omega)
  rw [Go.split_mul] at hlt
  generalize A1 * B1 = p at *
  generalize A1 * B0 = q at *
  generalize A0 * B1 = r at *
  generalize A0 * B0 = s at *
  omega

set_option maxHeartbeats 1000000 in
theorem times_any (a b : Int) (h0 : 0 ≤ a) (h1 : a < 18446744073709551616) (k0 : 0 ≤ b) (k1 : b < 18446744073709551616) (w : World) :
    Calls Try.prog 54 #[.int .u64 a, .int .u64 b] w fun e w' => e = .returned (.agg #[.int .u64 (a * b / 18446744073709551616), .int .u64 (a * b % 18446744073709551616)]) ∧ Below w.heap.size w w' := by
  have ea := and_low32 a h0 h1
  have eb := and_low32 b k0 k1
  obtain ⟨A1, hA1⟩ : ∃ A1, A1 = a / 4294967296 := ⟨_, rfl⟩
  obtain ⟨A0, hA0⟩ : ∃ A0, A0 = a % 4294967296 := ⟨_, rfl⟩
  obtain ⟨B1, hB1⟩ : ∃ B1, B1 = b / 4294967296 := ⟨_, rfl⟩
  obtain ⟨B0, hB0⟩ : ∃ B0, B0 = b % 4294967296 := ⟨_, rfl⟩
  have xa : a = A1 * 4294967296 + A0 := by omega
  have xb : b = B1 * 4294967296 + B0 := by omega
  rw [← hA0] at ea
  rw [← hB0] at eb
  have u1 : 0 ≤ A1 := by omega
  have u2 : A1 ≤ 4294967295 := by omega
  have u3 : 0 ≤ A0 := by omega
  have u4 : A0 ≤ 4294967295 := by omega
  have v1 : 0 ≤ B1 := by omega
  have v2 : B1 ≤ 4294967295 := by omega
  have v3 : 0 ≤ B0 := by omega
  have v4 : B0 ≤ 4294967295 := by omega
  obtain ⟨t1, t2, t3⟩ := times_arith A1 A0 B1 B0 u1 u2 u3 u4 v1 v2 v3 v4
  rw [← xa, ← xb] at t1 t2
  rw [t1, t2]
  have ha1 : a / 4294967296 = A1 := hA1.symm
  have hb1 : b / 4294967296 = B1 := hB1.symm
  obtain ⟨p1, p1'⟩ := prod_bound A1 B1 u1 u2 v1 v2
  obtain ⟨p2, p2'⟩ := prod_bound A1 B0 u1 u2 v3 v4
  obtain ⟨p3, p3'⟩ := prod_bound A0 B1 u3 u4 v1 v2
  obtain ⟨p4, p4'⟩ := prod_bound A0 B0 u3 u4 v3 v4
  have e2 := and_low32 (A1 * B0) p2 (by omega)
  have e4 := and_low32 (A0 * B0) p4 (by omega)
  have eo : bits .or .u64 (IntKind.u64.wrap ((A1 * B0 % 4294967296 + A0 * B1 + A0 * B0 / 4294967296) * 4294967296)) (A0 * B0 % 4294967296) = (A1 * B0 % 4294967296 + A0 * B1 + A0 * B0 / 4294967296) % 4294967296 * 4294967296 + A0 * B0 % 4294967296 := by
    have := or_add 32 ((A1 * B0 % 4294967296 + A0 * B1 + A0 * B0 / 4294967296) % 4294967296) (A0 * B0 % 4294967296) (by omega) (by omega) (by omega) (by rw [show (2 : Int) ^ 32 = 4294967296 from rfl]; omega) (by rw [show (2 : Int) ^ 32 = 4294967296 from rfl]; omega)
    rw [show (2 : Int) ^ 32 = 4294967296 from rfl] at this
    rw [← this, IntKind.wrap_u64]
    congr 1
    omega
  clear xa xb hA1 hA0 hB1 hB0 t1 t2
  go_enter Try.func54, Try.ntmps54
  go_wp2
  exact bodyPost_ret (v := .agg #[.int .u64 (A1 * B1 + A1 * B0 / 4294967296 + (A1 * B0 % 4294967296 + A0 * B1 + A0 * B0 / 4294967296) / 4294967296), .int .u64 ((A1 * B0 % 4294967296 + A0 * B1 + A0 * B0 / 4294967296) % 4294967296 * 4294967296 + A0 * B0 % 4294967296)]) (by simp [results, Try.results54, go_sem]) rfl ⟨rfl, (Below.refl _ _).alloc (Nat.le_refl _) _⟩


set_option maxHeartbeats 1000000 in
theorem made_fits (s : Bool) (l1 l2 : Int) (b0 : 0 ≤ l1) (b1 : l1 ≤ 1000000000000000000) (d0 : 0 ≤ l2) (d1 : l2 ≤ 1000000000000000000) (w : World) :
    Calls Try.prog 53 #[.bool s, .agg #[.int .u64 0, .int .u64 l1], .agg #[.int .u64 0, .int .u64 l2]] w fun e w' =>
      e = .returned (.tuple #[.agg #[.int .i64 (sg s l1), .int .i64 l2], .int .i64 0]) ∧ Below w.heap.size w w' := by
  cases s
  · go_enter Try.func53, Try.ntmps53
    go_wp2
    exact bodyPost_ret (v := .tuple #[.agg #[.int .i64 l1, .int .i64 l2], .int .i64 0]) (by simp [results, Try.results53, go_sem]) rfl ⟨rfl, (((((Below.refl _ _).alloc (Nat.le_refl _) _).alloc (by simp) _).alloc (by simp; omega) _).alloc (by simp; omega) _)⟩
  · go_enter Try.func53, Try.ntmps53
    go_wp2
    exact bodyPost_ret (v := .tuple #[.agg #[.int .i64 (-l1), .int .i64 l2], .int .i64 0]) (by simp [results, Try.results53, go_sem]) rfl ⟨rfl, (((((Below.refl _ _).alloc (Nat.le_refl _) _).alloc (by simp) _).alloc (by simp; omega) _).alloc (by simp; omega) _)⟩

theorem made_far_run (s : Bool) (h1 l1 h2 l2 : Int) (w : World)
    (hc : (0 < h1) ∨ (¬ 0 < h1 ∧ 0 < h2) ∨ (¬ 0 < h1 ∧ ¬ 0 < h2 ∧ 1000000000000000000 < l1) ∨ (¬ 0 < h1 ∧ ¬ 0 < h2 ∧ ¬ 1000000000000000000 < l1 ∧ 1000000000000000000 < l2)) :
    Calls Try.prog 53 #[.bool s, .agg #[.int .u64 h1, .int .u64 l1], .agg #[.int .u64 h2, .int .u64 l2]] w fun e w' =>
      e = .returned (.tuple #[.agg #[.int .i64 0, .int .i64 0], .int .i64 16]) ∧ Below w.heap.size w w' := by
  rcases hc with hc | ⟨c1, c2⟩ | ⟨c1, c2, c3⟩ | ⟨c1, c2, c3, c4⟩
  all_goals
    go_enter Try.func53, Try.ntmps53
    go_wp2
    exact bodyPost_ret (v := .tuple #[.agg #[.int .i64 0, .int .i64 0], .int .i64 16]) (by simp [results, Try.results53, go_sem]) rfl ⟨rfl, ((((Below.refl _ _).alloc (Nat.le_refl _) _).alloc (by simp) _).alloc (by simp; omega) _)⟩

theorem made_any (s1 : Bool) (m1 m2 : Int) (a0 : 0 ≤ m1) (a1 : m1 < 340282366920938463463374607431768211456) (b0 : 0 ≤ m2) (b1 : m2 < 340282366920938463463374607431768211456) (w : World) :
    Calls Try.prog 53 #[.bool s1, .agg #[.int .u64 (m1 / 18446744073709551616), .int .u64 (m1 % 18446744073709551616)], .agg #[.int .u64 (m2 / 18446744073709551616), .int .u64 (m2 % 18446744073709551616)]] w fun e w' =>
      e = .returned (.tuple #[.agg #[.int .i64 (Rp.low (sg s1 m1) m2).1, .int .i64 (Rp.low (sg s1 m1) m2).2.1], .int .i64 (Rp.low (sg s1 m1) m2).2.2]) ∧ Below w.heap.size w w' := by
  have n1 : (sg s1 m1).natAbs = m1.toNat := by unfold sg; split <;> omega
  by_cases h : m1 ≤ 1000000000000000000 ∧ m2 ≤ 1000000000000000000
  · have e : Rp.low (sg s1 m1) m2 = (sg s1 m1, m2, 0) := by unfold Rp.low; rw [if_pos (by omega)]
    rw [e, show m1 / 18446744073709551616 = 0 by omega, show m2 / 18446744073709551616 = 0 by omega, show m1 % 18446744073709551616 = m1 by omega, show m2 % 18446744073709551616 = m2 by omega]
    exact made_fits s1 m1 m2 a0 h.1 b0 h.2 w
  · have e : Rp.low (sg s1 m1) m2 = (0, 0, 16) := by unfold Rp.low; rw [if_neg (by omega)]
    rw [e]
    exact made_far_run s1 (m1 / 18446744073709551616) (m1 % 18446744073709551616) (m2 / 18446744073709551616) (m2 % 18446744073709551616) w (by omega)
end Go.Proofs.Ytncmffhoodfhjaa
namespace Go.Proofs.Ytncmffhoodfhjaa
open Go.RowKit

/-- The ratio of n / d, as it is reckoned. -/
theorem make_parts (n d : Int) (h : d ≠ 0) :
    (Rp.q n d).num = sg (ngB n d) ((n.natAbs : Int) / ((n.natAbs.gcd d.natAbs : Nat) : Int)) ∧ ((Rp.q n d).den : Int) = (d.natAbs : Int) / ((n.natAbs.gcd d.natAbs : Nat) : Int) ∧
    1 ≤ n.natAbs.gcd d.natAbs ∧ n.natAbs.gcd d.natAbs ≤ d.natAbs := by
  have g1 : 0 < n.natAbs.gcd d.natAbs := Nat.gcd_pos_of_pos_right _ (by omega)
  have gn : ((n.natAbs.gcd d.natAbs : Nat) : Int) ∣ n := Int.ofNat_dvd_left.2 (Nat.gcd_dvd_left ..)
  have gi : Int.gcd d n = n.natAbs.gcd d.natAbs := by rw [Int.gcd_comm]; rfl
  refine ⟨?_, ?_, g1, Nat.le_of_dvd (by omega) (Nat.gcd_dvd_right ..)⟩
  · unfold Rp.q
    rw [Rat.num_divInt, gi]
    unfold sg ngB
    by_cases hd : d < 0
    · rw [Int.sign_eq_neg_one_of_neg hd, Int.neg_one_mul]
      by_cases hn : n < 0
      · simp [hn, hd]
        rw [show ((n.natAbs : Nat) : Int) = -n by omega]
      · simp [hn, hd]
        rw [show ((n.natAbs : Nat) : Int) = n by omega, Int.neg_ediv_of_dvd gn]
    · rw [Int.sign_eq_one_of_pos (by omega), Int.one_mul]
      by_cases hn : n < 0
      · simp [hn, hd]
        rw [show ((n.natAbs : Nat) : Int) = -n by omega, Int.neg_ediv_of_dvd gn, Int.neg_neg]
      · simp [hn, hd]
        rw [show ((n.natAbs : Nat) : Int) = n by omega]
  · unfold Rp.q
    rw [Rat.den_divInt, if_neg h, gi]
    simp

set_option maxHeartbeats 2000000 in
theorem Make_core (n d A1 D1 : Int) (G : Nat) (n0 : -9223372036854775808 ≤ n) (n1 : n ≤ 9223372036854775807) (d0 : -9223372036854775808 ≤ d) (d1 : d ≤ 9223372036854775807)
    (hz : d ≠ 0) (hG : n.natAbs.gcd d.natAbs = G) (g0 : 1 ≤ (G : Int)) (g1 : (G : Int) < 18446744073709551616) (e1 : (n.natAbs : Int) / (G : Int) = A1) (e2 : (d.natAbs : Int) / (G : Int) = D1)
    (A0 : 0 ≤ A1) (AU : A1 ≤ 9223372036854775808) (D0 : 0 ≤ D1) (DU : D1 ≤ 9223372036854775808) (w : World) :
    Calls Try.prog 74 #[.int .i64 n, .int .i64 d] w fun e w' => e = .returned (.tuple #[.agg #[.int .i64 (Rp.low (sg (ngB n d) A1) D1).1, .int .i64 (Rp.low (sg (ngB n d) A1) D1).2.1], .int .i64 (Rp.low (sg (ngB n d) A1) D1).2.2]) ∧ Below w.heap.size w w' := by
  have w1 : IntKind.u64.wrap ((n.natAbs : Int) / (G : Int)) = A1 := by rw [e1]; exact IntWalk.u64_in _ (by omega)
  have w2 : IntKind.u64.wrap ((d.natAbs : Int) / (G : Int)) = D1 := by rw [e2]; exact IntWalk.u64_in _ (by omega)
  have nG : ¬ G = 0 := by omega
  have nG' : ¬ (G : Int) = 0 := by omega
  have hb : (d == 0) = false := by rw [beq_eq_false_iff_ne]; exact hz
  have cl := fun w => lowest_any (ngB n d) A1 D1 A0 (by omega) D0 (by omega) w
  simp only [show A1 / 18446744073709551616 = 0 by omega, show A1 % 18446744073709551616 = A1 by omega, show D1 / 18446744073709551616 = 0 by omega, show D1 % 18446744073709551616 = D1 by omega] at cl
  have hs : (!(decide (n < 0) == decide (d < 0))) = ngB n d := rfl
  generalize ngB n d = sN at *
  have CL := Lib.hid cl
  clear cl hz e1 e2
  go_enter Try.func74, Try.ntmps74
  go_wp2_with (first
    | (go_at_call 85; refine (magnitude_any _ (by omega) (by omega) _).mono ?_; rintro e w' ⟨rfl, rfl⟩)
    | (go_at_call 86; refine (gcd_any _ _ (by omega) (by omega) _).mono ?_; rintro e w' ⟨rfl, nd, rfl⟩))
  try simp only [hG]
  clear hG
  refine at_world (fun v => Below w.heap.size w v ∧ v.cell? ⟨w.heap.size, 0, none⟩ = some (.int .i64 0) ∧ v.cell? ⟨w.heap.size, 1, none⟩ = some (.int .i64 0) ∧ v.frozen? ⟨w.heap.size, 0, none⟩ = false ∧ v.frozen? ⟨w.heap.size, 1, none⟩ = false) ⟨(below_drewN ((Below.refl _ _).alloc (Nat.le_refl _) _) _), (by go_simp), (by go_simp), (by go_simp), (by go_simp)⟩ (fun V hS => ?_)
  obtain ⟨hbb, z0, z1, fz0, fz1⟩ := hS
  have hsz := lt_of_cell z0
  go_region_held3 (fun v => Below w.heap.size w v ∧ v.cell? ⟨w.heap.size, 0, none⟩ = some (vat v (w.heap.size) 0) ∧ v.cell? ⟨w.heap.size, 1, none⟩ = some (vat v (w.heap.size) 1) ∧ v.frozen? ⟨w.heap.size, 0, none⟩ = false ∧ v.frozen? ⟨w.heap.size, 1, none⟩ = false)
    (first | (exact ⟨hbb.drew, vat_of (z0), vat_of (z1), fz0, fz1⟩) | (obtain ⟨k0, kz0, kz1, kfz0, kfz1⟩ := ‹Below w.heap.size w _ ∧ _›; exact ⟨keepB k0 hb3, vat_of (keepC hb3 kz0), vat_of (keepC hb3 kz1), keepF hb3 kz0 kfz0, keepF hb3 kz1 kfz1⟩) | (obtain ⟨k0, kz0, kz1, kfz0, kfz1⟩ := ‹Below w.heap.size w _ ∧ _›; exact ⟨below_set (below_set (k0) (by omega) _) (by omega) _, vat_set (vat_set (kz0) _ _) _ _, vat_set (vat_set (kz1) _ _) _ _, froz_set (froz_set (kfz0) _ _) _ _, froz_set (froz_set (kfz1) _ _) _ _⟩))
    (first
      | (go_at_call 87; refine (CL.out _).mono ?_; rintro e w3 ⟨rfl, hb3⟩))
  go_wp2
  obtain ⟨k0', k1', k2', _, _⟩ := ‹Below w.heap.size w _ ∧ _›
  have r0 := res_far (by simp) k1'
  have r1 := res_last k2'
  exact bodyPost_ret (v := .tuple #[.agg #[.int .i64 (Rp.low (sg sN A1) D1).1, .int .i64 (Rp.low (sg sN A1) D1).2.1], .int .i64 (Rp.low (sg sN A1) D1).2.2]) (by simp [results, Try.results74, go_sem, r0, r1]) rfl ⟨rfl, k0'⟩

theorem Make_any (n d : Int) (n0 : -9223372036854775808 ≤ n) (n1 : n ≤ 9223372036854775807) (d0 : -9223372036854775808 ≤ d) (d1 : d ≤ 9223372036854775807) (w : World) :
    Calls Try.prog 74 #[.int .i64 n, .int .i64 d] w fun e w' => e = .returned (.tuple #[.agg #[.int .i64 (Rp.makeS n d).1, .int .i64 (Rp.makeS n d).2.1], .int .i64 (Rp.makeS n d).2.2]) ∧ Below w.heap.size w w' := by
  by_cases hz : d = 0
  · have e : Rp.makeS n d = (0, 0, 18) := by unfold Rp.makeS; rw [if_pos hz]
    rw [e]
    have hb : (d == 0) = true := by rw [beq_iff_eq]; exact hz
    clear hz e
    go_enter Try.func74, Try.ntmps74
    go_wp2
    exact bodyPost_ret (v := .tuple #[.agg #[.int .i64 0, .int .i64 0], .int .i64 18]) (by simp [results, Try.results74, go_sem]) rfl ⟨rfl, (Below.refl _ _).alloc (Nat.le_refl _) _⟩
  · obtain ⟨p1, p2, p3, p4⟩ := make_parts n d hz
    have e : Rp.makeS n d = Rp.low (sg (ngB n d) ((n.natAbs : Int) / ((n.natAbs.gcd d.natAbs : Nat) : Int))) ((d.natAbs : Int) / ((n.natAbs.gcd d.natAbs : Nat) : Int)) := by
      unfold Rp.makeS Rp.ofQ; rw [if_neg hz, p1, p2]
    rw [e]
    have a1 : (n.natAbs : Int) / ((n.natAbs.gcd d.natAbs : Nat) : Int) ≤ n.natAbs := Int.ediv_le_self _ (by omega)
    have a2 : (d.natAbs : Int) / ((n.natAbs.gcd d.natAbs : Nat) : Int) ≤ d.natAbs := Int.ediv_le_self _ (by omega)
    exact Make_core n d _ _ _ n0 n1 d0 d1 hz rfl (by omega) (by omega) rfl rfl (Int.ediv_nonneg (by omega) (by omega)) (by omega) (Int.ediv_nonneg (by omega) (by omega)) (by omega) w

set_option maxHeartbeats 2000000 in
theorem rMake_core (n d A1 D1 : Int) (G : Nat) (n0 : -9223372036854775808 ≤ n) (n1 : n ≤ 9223372036854775807) (d0 : -9223372036854775808 ≤ d) (d1 : d ≤ 9223372036854775807)
    (hz : d ≠ 0) (hG : n.natAbs.gcd d.natAbs = G) (g0 : 1 ≤ (G : Int)) (g1 : (G : Int) < 18446744073709551616) (e1 : (n.natAbs : Int) / (G : Int) = A1) (e2 : (d.natAbs : Int) / (G : Int) = D1)
    (A0 : 0 ≤ A1) (AU : A1 ≤ 9223372036854775808) (D0 : 0 ≤ D1) (DU : D1 ≤ 9223372036854775808) (w : World) :
    Calls Try.prog 20 #[.int .i64 n, .int .i64 d] w fun e w' => e = .returned (.tuple #[.agg #[.int .i64 (Rp.low (sg (ngB n d) A1) D1).1, .int .i64 (Rp.low (sg (ngB n d) A1) D1).2.1], .int .i64 (Rp.low (sg (ngB n d) A1) D1).2.2]) ∧ Below w.heap.size w w' := by
  have w1 : IntKind.u64.wrap ((n.natAbs : Int) / (G : Int)) = A1 := by rw [e1]; exact IntWalk.u64_in _ (by omega)
  have w2 : IntKind.u64.wrap ((d.natAbs : Int) / (G : Int)) = D1 := by rw [e2]; exact IntWalk.u64_in _ (by omega)
  have nG : ¬ G = 0 := by omega
  have nG' : ¬ (G : Int) = 0 := by omega
  have hb : (d == 0) = false := by rw [beq_eq_false_iff_ne]; exact hz
  have cl := fun w => made_any (ngB n d) A1 D1 A0 (by omega) D0 (by omega) w
  simp only [show A1 / 18446744073709551616 = 0 by omega, show A1 % 18446744073709551616 = A1 by omega, show D1 / 18446744073709551616 = 0 by omega, show D1 % 18446744073709551616 = D1 by omega] at cl
  have hs : (!(decide (n < 0) == decide (d < 0))) = ngB n d := rfl
  generalize ngB n d = sN at *
  have CL := Lib.hid cl
  clear cl hz e1 e2
  go_enter Try.func20, Try.ntmps20
  go_wp2_with (first
    | (go_at_call 51; refine (rabs_any _ (by omega) (by omega) _).mono ?_; rintro e w' ⟨rfl, rfl⟩)
    | (go_at_call 52; refine (rgcd_any _ _ (by omega) (by omega) _).mono ?_; rintro e w' ⟨rfl, nd, rfl⟩))
  try simp only [hG]
  clear hG
  refine at_world (fun v => Below w.heap.size w v ∧ v.cell? ⟨w.heap.size, 0, none⟩ = some (.int .i64 0) ∧ v.cell? ⟨w.heap.size, 1, none⟩ = some (.int .i64 0) ∧ v.frozen? ⟨w.heap.size, 0, none⟩ = false ∧ v.frozen? ⟨w.heap.size, 1, none⟩ = false) ⟨(below_drewN ((Below.refl _ _).alloc (Nat.le_refl _) _) _), (by go_simp), (by go_simp), (by go_simp), (by go_simp)⟩ (fun V hS => ?_)
  obtain ⟨hbb, z0, z1, fz0, fz1⟩ := hS
  have hsz := lt_of_cell z0
  go_region_held3 (fun v => Below w.heap.size w v ∧ v.cell? ⟨w.heap.size, 0, none⟩ = some (vat v (w.heap.size) 0) ∧ v.cell? ⟨w.heap.size, 1, none⟩ = some (vat v (w.heap.size) 1) ∧ v.frozen? ⟨w.heap.size, 0, none⟩ = false ∧ v.frozen? ⟨w.heap.size, 1, none⟩ = false)
    (first | (exact ⟨hbb.drew, vat_of (z0), vat_of (z1), fz0, fz1⟩) | (obtain ⟨k0, kz0, kz1, kfz0, kfz1⟩ := ‹Below w.heap.size w _ ∧ _›; exact ⟨keepB k0 hb3, vat_of (keepC hb3 kz0), vat_of (keepC hb3 kz1), keepF hb3 kz0 kfz0, keepF hb3 kz1 kfz1⟩) | (obtain ⟨k0, kz0, kz1, kfz0, kfz1⟩ := ‹Below w.heap.size w _ ∧ _›; exact ⟨below_set (below_set (k0) (by omega) _) (by omega) _, vat_set (vat_set (kz0) _ _) _ _, vat_set (vat_set (kz1) _ _) _ _, froz_set (froz_set (kfz0) _ _) _ _, froz_set (froz_set (kfz1) _ _) _ _⟩))
    (first
      | (go_at_call 53; refine (CL.out _).mono ?_; rintro e w3 ⟨rfl, hb3⟩))
  go_wp2
  obtain ⟨k0', k1', k2', _, _⟩ := ‹Below w.heap.size w _ ∧ _›
  have r0 := res_far (by simp) k1'
  have r1 := res_last k2'
  exact bodyPost_ret (v := .tuple #[.agg #[.int .i64 (Rp.low (sg sN A1) D1).1, .int .i64 (Rp.low (sg sN A1) D1).2.1], .int .i64 (Rp.low (sg sN A1) D1).2.2]) (by simp [results, Try.results20, go_sem, r0, r1]) rfl ⟨rfl, k0'⟩

theorem rMake_any (n d : Int) (n0 : -9223372036854775808 ≤ n) (n1 : n ≤ 9223372036854775807) (d0 : -9223372036854775808 ≤ d) (d1 : d ≤ 9223372036854775807) (w : World) :
    Calls Try.prog 20 #[.int .i64 n, .int .i64 d] w fun e w' => e = .returned (.tuple #[.agg #[.int .i64 (Rp.makeS n d).1, .int .i64 (Rp.makeS n d).2.1], .int .i64 (Rp.makeS n d).2.2]) ∧ Below w.heap.size w w' := by
  by_cases hz : d = 0
  · have e : Rp.makeS n d = (0, 0, 18) := by unfold Rp.makeS; rw [if_pos hz]
    rw [e]
    have hb : (d == 0) = true := by rw [beq_iff_eq]; exact hz
    clear hz e
    go_enter Try.func20, Try.ntmps20
    go_wp2
    exact bodyPost_ret (v := .tuple #[.agg #[.int .i64 0, .int .i64 0], .int .i64 18]) (by simp [results, Try.results20, go_sem]) rfl ⟨rfl, (Below.refl _ _).alloc (Nat.le_refl _) _⟩
  · obtain ⟨p1, p2, p3, p4⟩ := make_parts n d hz
    have e : Rp.makeS n d = Rp.low (sg (ngB n d) ((n.natAbs : Int) / ((n.natAbs.gcd d.natAbs : Nat) : Int))) ((d.natAbs : Int) / ((n.natAbs.gcd d.natAbs : Nat) : Int)) := by
      unfold Rp.makeS Rp.ofQ; rw [if_neg hz, p1, p2]
    rw [e]
    have a1 : (n.natAbs : Int) / ((n.natAbs.gcd d.natAbs : Nat) : Int) ≤ n.natAbs := Int.ediv_le_self _ (by omega)
    have a2 : (d.natAbs : Int) / ((n.natAbs.gcd d.natAbs : Nat) : Int) ≤ d.natAbs := Int.ediv_le_self _ (by omega)
    exact rMake_core n d _ _ _ n0 n1 d0 d1 hz rfl (by omega) (by omega) rfl rfl (Int.ediv_nonneg (by omega) (by omega)) (by omega) (Int.ediv_nonneg (by omega) (by omega)) (by omega) w
end Go.Proofs.Ytncmffhoodfhjaa
