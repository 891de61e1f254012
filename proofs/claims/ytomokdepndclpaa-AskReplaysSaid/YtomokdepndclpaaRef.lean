/- Contracts of the reference of layer 1: gcd, abs, Check, Both, less, plus, minus. -/
import Derived.Test.YtomokdepndclpaaRat
namespace Go.Proofs.Ytomokdepndclpaa
open Go.RowKit

set_option maxHeartbeats 400000 in
theorem rgcd_any (a b : Nat) (ha : a < 18446744073709551616) (hb : b < 18446744073709551616) (w : World) :
    Calls Try.prog 89 #[.int .u64 a, .int .u64 b] w fun e w' => e = .returned (.int .u64 (Nat.gcd a b : Int)) ∧ ∃ n, w' = w.drewN n := by
  go_enter Try.func89, Try.ntmps89
  go_wp2
  go_loopw [0, 1] (fun x y w' => ∃ s t : Nat, s < 18446744073709551616 ∧ t < 18446744073709551616 ∧ Nat.gcd s t = Nat.gcd a b ∧ x = .int .u64 s ∧ y = .int .u64 t ∧ ∃ n, w' = w.drewN n) (fun _ y _ => (intOf y).toNat)
  case atStart => exact ⟨a, b, ha, hb, rfl, rfl, rfl, 0, rfl⟩
  case round =>
    obtain ⟨s, t, hs, ht, hg, rfl, rfl, n, rfl⟩ := hrel
    by_cases h0 : t = 0
    · subst h0
      go_wp2
      go_ret
      exact ⟨ret_int (by rw [← hg, Nat.gcd_zero_right]), n, rfl⟩
    · have hb0 : ((t : Int) != 0) = true := by rw [bne_iff_ne]; omega
      have hz : 0 < t := by omega
      have HG := Lib.hid hg
      clear hg h0
      go_wp2
      go_region
      go_wp2
      go_roundw
      case rel => exact ⟨t, s % t, ht, by have := Nat.mod_lt s hz; omega, by rw [Rp.gcd_mod_right, Nat.gcd_comm, HG.out], rfl, by go_num, n + 1, rfl⟩
      case measure =>
        have := Nat.mod_lt s hz
        simp [intOf]; omega


set_option maxHeartbeats 400000 in
theorem rabs_any (n : Int) (h1 : -9223372036854775808 ≤ n) (h2 : n ≤ 9223372036854775807) (w : World) :
    Calls Try.prog 90 #[.int .i64 n] w fun e w' => e = .returned (.int .u64 (n.natAbs : Int)) ∧ w = w' := by
  go_enter Try.func90, Try.ntmps90
  go_wp2
  all_goals
    go_ret
    refine ⟨ret_int ?_, rfl⟩
    first | omega | (simp only [IntKind.wrap_u64, IntKind.wrap_i64]; omega)

set_option maxHeartbeats 1000000 in
theorem rCheck_any (n d : Int) (w : World) (n0 : -9223372036854775808 ≤ n) (n1 : n ≤ 9223372036854775807) (d0 : -9223372036854775808 ≤ d) (d1 : d ≤ 9223372036854775807) :
    Calls Try.prog 28 #[.agg #[.int .i64 n, .int .i64 d]] w fun e w' => e = .returned (.int .i64 (Rp.chk n d)) ∧ Below w.heap.size w w' := by
  by_cases h : 1 ≤ d ∧ d ≤ 1000000000000000000 ∧ -1000000000000000000 ≤ n ∧ n ≤ 1000000000000000000
  · obtain ⟨h1, h2, h3, h4⟩ := h
    have g1 : decide (d < 1) = false := decide_eq_false (by omega)
    have g2 : decide (1000000000000000000 < d) = false := decide_eq_false (by omega)
    have g3 : decide (n < -1000000000000000000) = false := decide_eq_false (by omega)
    have g4 : decide (1000000000000000000 < n) = false := decide_eq_false (by omega)
    have hdd : d = (d.natAbs : Int) := by omega
    have wd : IntKind.u64.wrap d = (d.natAbs : Int) := by rw [IntKind.wrap_u64]; omega
    clear hdd
    by_cases hg : Nat.gcd n.natAbs d.natAbs = 1
    · have e : Rp.chk n d = 0 := by unfold Rp.chk; rw [if_pos ⟨h1, h2, h3, h4, hg⟩]
      rw [e]
      have hb : ((Nat.gcd n.natAbs d.natAbs : Int) != 1) = false := by rw [hg]; rfl
      clear hg e
      go_enter Try.func28, Try.ntmps28
      go_wp2_with fail
      go_quiet ((first
              | (go_at_call 90; exact quietL (rabs_any _ (by assumption) (by assumption) _))
              | (go_at_call 89; exact Calls.quiet_of (rgcd_any _ _ (by omega) (by omega) _))))
      go_wp2
      go_ret
      exact ⟨rfl, below_drewN ((Below.refl _ _).alloc (Nat.le_refl _) _) _⟩
    · have e : Rp.chk n d = 8 := by unfold Rp.chk; rw [if_neg (fun h => hg h.2.2.2.2)]
      rw [e]
      have hb : ((Nat.gcd n.natAbs d.natAbs : Int) != 1) = true := by rw [bne_iff_ne]; omega
      clear hg e
      go_enter Try.func28, Try.ntmps28
      go_wp2_with fail
      go_quiet ((first
              | (go_at_call 90; exact quietL (rabs_any _ (by assumption) (by assumption) _))
              | (go_at_call 89; exact Calls.quiet_of (rgcd_any _ _ (by omega) (by omega) _))))
      go_wp2
      go_ret
      exact ⟨rfl, below_drewN ((Below.refl _ _).alloc (Nat.le_refl _) _) _⟩
  · have e : Rp.chk n d = 8 := by unfold Rp.chk; rw [if_neg (fun k => h ⟨k.1, k.2.1, k.2.2.1, k.2.2.2.1⟩)]
    rw [e]
    clear e
    by_cases h1 : d < 1
    · clear h
      have g1 : decide (d < 1) = true := decide_eq_true h1
      go_enter Try.func28, Try.ntmps28
      go_wp2_with fail
      go_quiet ((first
              | (go_at_call 90; exact quietL (rabs_any _ (by assumption) (by assumption) _))
              | (go_at_call 89; exact Calls.quiet_of (rgcd_any _ _ (by omega) (by omega) _))))
      go_wp2
      go_ret
      exact ⟨rfl, below_drewN ((Below.refl _ _).alloc (Nat.le_refl _) _) _⟩
    · have g1 : decide (d < 1) = false := decide_eq_false h1
      by_cases h2 : 1000000000000000000 < d
      · clear h
        have g2 : decide (1000000000000000000 < d) = true := decide_eq_true h2
        go_enter Try.func28, Try.ntmps28
        go_wp2_with fail
        go_quiet ((first
                | (go_at_call 90; exact quietL (rabs_any _ (by assumption) (by assumption) _))
                | (go_at_call 89; exact Calls.quiet_of (rgcd_any _ _ (by omega) (by omega) _))))
        go_wp2
        go_ret
        exact ⟨rfl, below_drewN ((Below.refl _ _).alloc (Nat.le_refl _) _) _⟩
      · have g2 : decide (1000000000000000000 < d) = false := decide_eq_false h2
        by_cases h3 : n < -1000000000000000000
        · clear h
          have g3 : decide (n < -1000000000000000000) = true := decide_eq_true h3
          go_enter Try.func28, Try.ntmps28
          go_wp2_with fail
          go_quiet ((first
                  | (go_at_call 90; exact quietL (rabs_any _ (by assumption) (by assumption) _))
                  | (go_at_call 89; exact Calls.quiet_of (rgcd_any _ _ (by omega) (by omega) _))))
          go_wp2
          go_ret
          exact ⟨rfl, below_drewN ((Below.refl _ _).alloc (Nat.le_refl _) _) _⟩
        · have g3 : decide (n < -1000000000000000000) = false := decide_eq_false h3
          have h4 : 1000000000000000000 < n := by omega
          have g4 : decide (1000000000000000000 < n) = true := decide_eq_true h4
          clear h
          go_enter Try.func28, Try.ntmps28
          go_wp2_with fail
          go_quiet ((first
                  | (go_at_call 90; exact quietL (rabs_any _ (by assumption) (by assumption) _))
                  | (go_at_call 89; exact Calls.quiet_of (rgcd_any _ _ (by omega) (by omega) _))))
          go_wp2
          go_ret
          exact ⟨rfl, below_drewN ((Below.refl _ _).alloc (Nat.le_refl _) _) _⟩
set_option maxHeartbeats 1000000 in
theorem rBoth_any (n d m c : Int) (w : World) (n0 : -9223372036854775808 ≤ n) (n1 : n ≤ 9223372036854775807) (d0 : -9223372036854775808 ≤ d) (d1 : d ≤ 9223372036854775807)
    (m0 : -9223372036854775808 ≤ m) (m1 : m ≤ 9223372036854775807) (c0 : -9223372036854775808 ≤ c) (c1 : c ≤ 9223372036854775807) :
    Calls Try.prog 58 #[.agg #[.int .i64 n, .int .i64 d], .agg #[.int .i64 m, .int .i64 c]] w fun e w' => e = .returned (.int .i64 (Rp.both n d m c)) ∧ Below w.heap.size w w' := by
  have A := fun w => rCheck_any n d w n0 n1 d0 d1
  have B := Lib.hid (fun w => rCheck_any m c w m0 m1 c0 c1)
  rcases chk_cases n d with ⟨h, h'⟩ | ⟨h, h'⟩
  · have e : Rp.both n d m c = Rp.chk m c := by unfold Rp.both; rw [if_pos h']
    rw [e]
    rw [h] at A
    have A' := Lib.hid A
    clear A h h' e
    go_enter Try.func58, Try.ntmps58
    go_wp2_with fail
    refine (A'.out _).mono ?_
    rintro e w1 ⟨rfl, hb1⟩
    have y0 : w1.cell? ⟨w.heap.size + 1, 0, none⟩ = some (.int .i64 m) := keepC hb1 (by go_simp)
    have y1 : w1.cell? ⟨w.heap.size + 1, 1, none⟩ = some (.int .i64 c) := keepC hb1 (by go_simp)
    have hbb : Below w.heap.size w w1 := keepB ((((Below.refl _ _).alloc (Nat.le_refl _) _).alloc (by simp) _)) hb1
    clear hb1
    go_wp2_with fail
    refine (B.out _).mono ?_
    rintro e w2 ⟨rfl, hb2⟩
    go_wp2
    go_ret
    exact ⟨rfl, keepB hbb hb2⟩
  · have e : Rp.both n d m c = 8 := by unfold Rp.both; rw [if_neg h']
    rw [e]
    rw [h] at A
    have A' := Lib.hid A
    clear A h h' e B
    go_enter Try.func58, Try.ntmps58
    go_wp2_with fail
    refine (A'.out _).mono ?_
    rintro e w1 ⟨rfl, hb1⟩
    have x0 : w1.cell? ⟨w.heap.size, 0, none⟩ = some (.int .i64 n) := keepC hb1 (by go_simp)
    have x1 : w1.cell? ⟨w.heap.size, 1, none⟩ = some (.int .i64 d) := keepC hb1 (by go_simp)
    have hbb : Below w.heap.size w w1 := keepB ((((Below.refl _ _).alloc (Nat.le_refl _) _).alloc (by simp) _)) hb1
    clear hb1
    go_wp2_with fail
    refine (A'.out _).mono ?_
    rintro e w2 ⟨rfl, hb2⟩
    go_wp2
    go_ret
    exact ⟨rfl, keepB hbb hb2⟩


set_option maxHeartbeats 400000 in
theorem rless_any (h1 l1 h2 l2 : Int) (b0 : 0 ≤ l1) (b1 : l1 < 18446744073709551616) (d0 : 0 ≤ l2) (d1 : l2 < 18446744073709551616) (w : World) :
    Calls Try.prog 93 #[.agg #[.int .u64 h1, .int .u64 l1], .agg #[.int .u64 h2, .int .u64 l2]] w fun e w' => e = .returned (.bool (decide (W h1 l1 < W h2 l2))) ∧ Below w.heap.size w w' := by
  by_cases hl : h1 < h2
  · rw [decide_eq_true (show W h1 l1 < W h2 l2 by unfold W; omega)]
    go_enter Try.func93, Try.ntmps93
    go_wp2
    go_ret
    exact ⟨rfl, (((Below.refl _ _).alloc (Nat.le_refl _) _).alloc (by simp) _)⟩
  · by_cases he : h1 = h2
    · subst he
      go_enter Try.func93, Try.ntmps93
      go_wp2
      go_ret
      exact ⟨ret_bool (by first | (rw [decide_eq_decide]; unfold W; omega) | (unfold W; simp)), (((Below.refl _ _).alloc (Nat.le_refl _) _).alloc (by simp) _)⟩
    · rw [decide_eq_false (show ¬ W h1 l1 < W h2 l2 by unfold W; omega)]
      have hb : (h1 == h2) = false := by rw [beq_eq_false_iff_ne]; exact he
      go_enter Try.func93, Try.ntmps93
      go_wp2
      go_ret
      exact ⟨rfl, (((Below.refl _ _).alloc (Nat.le_refl _) _).alloc (by simp) _)⟩


end Go.Proofs.Ytomokdepndclpaa
