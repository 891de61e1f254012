/- Contracts of package ratio's Check, checkBoth, opposite and inverse. Contracts of the reference of layer 1: gcd, abs, Check, Both, less, plus, minus. Contracts of the reference's times, Neg and made. -/
import Derived.Test.YtpcdggkajindbaaGreatGy
namespace Go.Proofs.YtpcdggkajindbaaGreat
open Go.RowKit

/-- A callee that leaves the world as it is, within a region that draws its order. -/
theorem quietL {P : Program} {f : FuncId} {args : Array Value} {w : World} {n : Nat} {v : Value}
    (h : Calls P f args (w.drewN n) fun e w' => e = .returned v ∧ w.drewN n = w') : Calls P f args (w.drewN n) fun e w'' => e = .returned v ∧ ∃ m, w'' = w.drewN m :=
  h.mono fun _ _ ⟨he, hm⟩ => ⟨he, n, hm.symm⟩

set_option maxHeartbeats 1000000 in
theorem check_any (n d : Int) (w : World) (n0 : -9223372036854775808 ≤ n) (n1 : n ≤ 9223372036854775807) (d0 : -9223372036854775808 ≤ d) (d1 : d ≤ 9223372036854775807) :
    Calls Tryz.prog 129 #[.agg #[.int .i64 n, .int .i64 d]] w fun e w' => e = .returned (.int .i64 (Rp.chk n d)) ∧ Below w.heap.size w w' := by
  by_cases h : 1 ≤ d ∧ d ≤ 1000000000000000000 ∧ -1000000000000000000 ≤ n ∧ n ≤ 1000000000000000000
  · obtain ⟨h1, h2, h3, h4⟩ := h
    by_cases hg : Nat.gcd n.natAbs d.natAbs = 1
    · have e : Rp.chk n d = 0 := by unfold Rp.chk; rw [if_pos ⟨h1, h2, h3, h4, hg⟩]
      rw [e]
      have hb : ((Nat.gcd n.natAbs d.natAbs : Int) != 1) = false := by rw [hg]; rfl
      clear hg e
      go_enter Tryz.func129, Tryz.ntmps129
      go_wp2_with fail
      go_quiet ((first
        | (go_at_call 133; exact quietL (magnitude_any _ (by assumption) (by assumption) _))
        | (go_at_call 132; exact Calls.quiet_of (gcd_any _ _ (by omega) (by omega) _))))
      go_wp2
      go_ret
      exact ⟨rfl, below_drewN ((Below.refl _ _).alloc (Nat.le_refl _) _) _⟩
    · have e : Rp.chk n d = 8 := by unfold Rp.chk; rw [if_neg (fun h => hg h.2.2.2.2)]
      rw [e]
      have hb : ((Nat.gcd n.natAbs d.natAbs : Int) != 1) = true := by rw [bne_iff_ne]; omega
      clear hg e
      go_enter Tryz.func129, Tryz.ntmps129
      go_wp2_with fail
      go_quiet ((first
        | (go_at_call 133; exact quietL (magnitude_any _ (by assumption) (by assumption) _))
        | (go_at_call 132; exact Calls.quiet_of (gcd_any _ _ (by omega) (by omega) _))))
      go_wp2
      go_ret
      exact ⟨rfl, below_drewN ((Below.refl _ _).alloc (Nat.le_refl _) _) _⟩
  · have e : Rp.chk n d = 8 := by unfold Rp.chk; rw [if_neg (fun k => h ⟨k.1, k.2.1, k.2.2.1, k.2.2.2.1⟩)]
    rw [e]; clear e
    by_cases h1 : d < 1
    · clear h
      go_enter Tryz.func129, Tryz.ntmps129
      go_wp2
      go_ret
      exact ⟨rfl, (Below.refl _ _).alloc (Nat.le_refl _) _⟩
    · by_cases h2 : 1000000000000000000 < d
      · clear h
        go_enter Tryz.func129, Tryz.ntmps129
        go_wp2
        go_ret
        exact ⟨rfl, (Below.refl _ _).alloc (Nat.le_refl _) _⟩
      · by_cases h3 : n < -1000000000000000000
        · clear h
          go_enter Tryz.func129, Tryz.ntmps129
          go_wp2
          go_ret
          exact ⟨rfl, (Below.refl _ _).alloc (Nat.le_refl _) _⟩
        · have h4 : 1000000000000000000 < n := by omega
          clear h
          go_enter Tryz.func129, Tryz.ntmps129
          go_wp2
          go_ret
          exact ⟨rfl, (Below.refl _ _).alloc (Nat.le_refl _) _⟩

theorem chk_cases (n d : Int) : (Rp.chk n d = 0 ∧ Rp.Ok n d) ∨ (Rp.chk n d = 8 ∧ ¬ Rp.Ok n d) := by
  unfold Rp.chk
  by_cases h : Rp.Ok n d
  · left; rw [if_pos h]; exact ⟨rfl, h⟩
  · right; rw [if_neg h]; exact ⟨rfl, h⟩

set_option maxHeartbeats 1000000 in
theorem checkBoth_any (n d m c : Int) (w : World) (n0 : -9223372036854775808 ≤ n) (n1 : n ≤ 9223372036854775807) (d0 : -9223372036854775808 ≤ d) (d1 : d ≤ 9223372036854775807)
    (m0 : -9223372036854775808 ≤ m) (m1 : m ≤ 9223372036854775807) (c0 : -9223372036854775808 ≤ c) (c1 : c ≤ 9223372036854775807) :
    Calls Tryz.prog 91 #[.agg #[.int .i64 n, .int .i64 d], .agg #[.int .i64 m, .int .i64 c]] w fun e w' => e = .returned (.int .i64 (Rp.both n d m c)) ∧ Below w.heap.size w w' := by
  have A := fun w => check_any n d w n0 n1 d0 d1
  have B := Lib.hid (fun w => check_any m c w m0 m1 c0 c1)
  rcases chk_cases n d with ⟨h, h'⟩ | ⟨h, h'⟩
  · have e : Rp.both n d m c = Rp.chk m c := by unfold Rp.both; rw [if_pos h']
    rw [e]; rw [h] at A; have A' := Lib.hid A; clear A h h' e
    go_enter Tryz.func91, Tryz.ntmps91
    (go_wp2_with fail); refine (A'.out _).mono ?_; rintro e w1 ⟨rfl, hb1⟩; have y0 : w1.cell? ⟨w.heap.size + 1, 0, none⟩ = some (.int .i64 m) := keepC hb1 (by go_simp); have y1 : w1.cell? ⟨w.heap.size + 1, 1, none⟩ = some (.int .i64 c) := keepC hb1 (by go_simp); have hbb : Below w.heap.size w w1 := keepB ((((Below.refl _ _).alloc (Nat.le_refl _) _).alloc (by simp) _)) hb1; clear hb1; (go_wp2_with fail); refine (B.out _).mono ?_; rintro e w2 ⟨rfl, hb2⟩
    go_wp2
    go_ret
    exact ⟨rfl, keepB hbb hb2⟩
  · have e : Rp.both n d m c = 8 := by unfold Rp.both; rw [if_neg h']
    rw [e]; rw [h] at A; have A' := Lib.hid A; clear A h h' e B
    go_enter Tryz.func91, Tryz.ntmps91
    (go_wp2_with fail); refine (A'.out _).mono ?_; rintro e w1 ⟨rfl, hb1⟩; have hbb : Below w.heap.size w w1 := keepB ((((Below.refl _ _).alloc (Nat.le_refl _) _).alloc (by simp) _)) hb1; clear hb1
    go_wp2
    go_ret
    exact ⟨rfl, hbb⟩

set_option maxHeartbeats 1000000 in
theorem opposite_any (n d : Int) (w : World) (n0 : -1000000000000000000 ≤ n) (n1 : n ≤ 1000000000000000000) :
    Calls Tryz.prog 152 #[.agg #[.int .i64 n, .int .i64 d]] w fun e w' => e = .returned (.agg #[.int .i64 (-n), .int .i64 d]) ∧ Below w.heap.size w w' := by
  go_enter Tryz.func152, Tryz.ntmps152
  go_wp2
  exact bodyPost_ret (v := .agg #[.int .i64 (-n), .int .i64 d]) (by simp [results, Tryz.results152, go_sem]) rfl ⟨rfl, ((Below.refl _ _).alloc (Nat.le_refl _) _).alloc (by simp) _⟩

set_option maxHeartbeats 1000000 in
theorem inverse_any (n d : Int) (w : World) (n0 : -1000000000000000000 ≤ n) (n1 : n ≤ 1000000000000000000) (d0 : -1000000000000000000 ≤ d) (d1 : d ≤ 1000000000000000000) :
    Calls Tryz.prog 93 #[.agg #[.int .i64 n, .int .i64 d]] w fun e w' => e = .returned (.agg #[.int .i64 (if n < 0 then -d else d), .int .i64 (if n < 0 then -n else n)]) ∧ Below w.heap.size w w' := by
  by_cases h : n < 0
  · simp only [if_pos h]
    go_enter Tryz.func93, Tryz.ntmps93
    go_wp2
    exact bodyPost_ret (v := .agg #[.int .i64 (-d), .int .i64 (-n)]) (by simp [results, Tryz.results93, go_sem]) rfl ⟨rfl, ((Below.refl _ _).alloc (Nat.le_refl _) _).alloc (by simp) _⟩
  · simp only [if_neg h]
    go_enter Tryz.func93, Tryz.ntmps93
    go_wp2
    exact bodyPost_ret (v := .agg #[.int .i64 d, .int .i64 n]) (by simp [results, Tryz.results93, go_sem]) rfl ⟨rfl, ((Below.refl _ _).alloc (Nat.le_refl _) _).alloc (by simp) _⟩
end Go.Proofs.YtpcdggkajindbaaGreat
namespace Go.Proofs.YtpcdggkajindbaaGreat
open Go.RowKit

set_option maxHeartbeats 400000 in
theorem rgcd_any (a b : Nat) (ha : a < 18446744073709551616) (hb : b < 18446744073709551616) (w : World) :
    Calls Tryz.prog 61 #[.int .u64 a, .int .u64 b] w fun e w' => e = .returned (.int .u64 (Nat.gcd a b : Int)) ∧ ∃ n, w' = w.drewN n := by
  go_enter Tryz.func61, Tryz.ntmps61
  go_wp2
  go_loopw [0, 1] (fun x y w' => ∃ s t : Nat, s < 18446744073709551616 ∧ t < 18446744073709551616 ∧ Nat.gcd s t = Nat.gcd a b ∧ x = .int .u64 s ∧ y = .int .u64 t ∧ ∃ n, w' = w.drewN n) (fun _ y _ => (intOf y).toNat)
  case atStart => exact ⟨a, b, ha, hb, rfl, rfl, rfl, 0, rfl⟩
  case round =>
    obtain ⟨s, t, hs, ht, hg, rfl, rfl, n, rfl⟩ := hrel
    by_cases h0 : t = 0
    · subst h0
      go_wp2
      go_ret
      exact ⟨ret_int (by rw [← hg, Nat.gcd_zero_right]), n, rfl⟩
    · have hb0 : ((t : Int) != 0) = true := by rw [bne_iff_ne]; omega
      have hz : 0 < t := by omega
      have HG := Lib.hid hg; clear hg h0
      go_wp2
      go_region
      go_wp2
      go_roundw
      case rel => exact ⟨t, s % t, ht, by have := Nat.mod_lt s hz; omega, by rw [Rp.gcd_mod_right, Nat.gcd_comm, HG.out], rfl, by go_num, n + 1, rfl⟩
      case measure =>
        have := Nat.mod_lt s hz
        simp [intOf]; omega


set_option maxHeartbeats 400000 in
theorem rabs_any (n : Int) (h1 : -9223372036854775808 ≤ n) (h2 : n ≤ 9223372036854775807) (w : World) :
    Calls Tryz.prog 60 #[.int .i64 n] w fun e w' => e = .returned (.int .u64 (n.natAbs : Int)) ∧ w = w' := by
  go_enter Tryz.func60, Tryz.ntmps60
  go_wp2
  all_goals
    go_ret
    refine ⟨ret_int ?_, rfl⟩
    first | omega | (simp only [IntKind.wrap_u64, IntKind.wrap_i64]; omega)

end Go.Proofs.YtpcdggkajindbaaGreat
namespace Go.Proofs.YtpcdggkajindbaaGreat
open Go.RowKit
set_option maxHeartbeats 1000000 in
theorem made_fits (s : Bool) (l1 l2 : Int) (b0 : 0 ≤ l1) (b1 : l1 ≤ 1000000000000000000) (d0 : 0 ≤ l2) (d1 : l2 ≤ 1000000000000000000) (w : World) :
    Calls Tryz.prog 62 #[.bool s, .agg #[.int .u64 0, .int .u64 l1], .agg #[.int .u64 0, .int .u64 l2]] w fun e w' =>
      e = .returned (.tuple #[.agg #[.int .i64 (sg s l1), .int .i64 l2], .int .i64 0]) ∧ Below w.heap.size w w' := by
  cases s
  · go_enter Tryz.func62, Tryz.ntmps62
    go_wp2
    exact bodyPost_ret (v := .tuple #[.agg #[.int .i64 l1, .int .i64 l2], .int .i64 0]) (by simp [results, Tryz.results62, go_sem]) rfl ⟨rfl, (((((Below.refl _ _).alloc (Nat.le_refl _) _).alloc (by simp) _).alloc (by simp; omega) _).alloc (by simp; omega) _)⟩
  · go_enter Tryz.func62, Tryz.ntmps62
    go_wp2
    exact bodyPost_ret (v := .tuple #[.agg #[.int .i64 (-l1), .int .i64 l2], .int .i64 0]) (by simp [results, Tryz.results62, go_sem]) rfl ⟨rfl, (((((Below.refl _ _).alloc (Nat.le_refl _) _).alloc (by simp) _).alloc (by simp; omega) _).alloc (by simp; omega) _)⟩

theorem made_far_run (s : Bool) (h1 l1 h2 l2 : Int) (w : World)
    (hc : (0 < h1) ∨ (¬ 0 < h1 ∧ 0 < h2) ∨ (¬ 0 < h1 ∧ ¬ 0 < h2 ∧ 1000000000000000000 < l1) ∨ (¬ 0 < h1 ∧ ¬ 0 < h2 ∧ ¬ 1000000000000000000 < l1 ∧ 1000000000000000000 < l2)) :
    Calls Tryz.prog 62 #[.bool s, .agg #[.int .u64 h1, .int .u64 l1], .agg #[.int .u64 h2, .int .u64 l2]] w fun e w' =>
      e = .returned (.tuple #[.agg #[.int .i64 0, .int .i64 0], .int .i64 16]) ∧ Below w.heap.size w w' := by
  rcases hc with hc | ⟨c1, c2⟩ | ⟨c1, c2, c3⟩ | ⟨c1, c2, c3, c4⟩
  all_goals
    go_enter Tryz.func62, Tryz.ntmps62
    go_wp2
    exact bodyPost_ret (v := .tuple #[.agg #[.int .i64 0, .int .i64 0], .int .i64 16]) (by simp [results, Tryz.results62, go_sem]) rfl ⟨rfl, ((((Below.refl _ _).alloc (Nat.le_refl _) _).alloc (by simp) _).alloc (by simp; omega) _)⟩

theorem made_any (s1 : Bool) (m1 m2 : Int) (a0 : 0 ≤ m1) (a1 : m1 < 340282366920938463463374607431768211456) (b0 : 0 ≤ m2) (b1 : m2 < 340282366920938463463374607431768211456) (w : World) :
    Calls Tryz.prog 62 #[.bool s1, .agg #[.int .u64 (m1 / 18446744073709551616), .int .u64 (m1 % 18446744073709551616)], .agg #[.int .u64 (m2 / 18446744073709551616), .int .u64 (m2 % 18446744073709551616)]] w fun e w' =>
      e = .returned (.tuple #[.agg #[.int .i64 (Rp.low (sg s1 m1) m2).1, .int .i64 (Rp.low (sg s1 m1) m2).2.1], .int .i64 (Rp.low (sg s1 m1) m2).2.2]) ∧ Below w.heap.size w w' := by
  have n1 : (sg s1 m1).natAbs = m1.toNat := by unfold sg; split <;> omega
  by_cases h : m1 ≤ 1000000000000000000 ∧ m2 ≤ 1000000000000000000
  · have e : Rp.low (sg s1 m1) m2 = (sg s1 m1, m2, 0) := by unfold Rp.low; rw [if_pos (by omega)]
    rw [e, show m1 / 18446744073709551616 = 0 by omega, show m2 / 18446744073709551616 = 0 by omega, show m1 % 18446744073709551616 = m1 by omega, show m2 % 18446744073709551616 = m2 by omega]; exact made_fits s1 m1 m2 a0 h.1 b0 h.2 w
  · have e : Rp.low (sg s1 m1) m2 = (0, 0, 16) := by unfold Rp.low; rw [if_neg (by omega)]
    rw [e]; exact made_far_run s1 (m1 / 18446744073709551616) (m1 % 18446744073709551616) (m2 / 18446744073709551616) (m2 % 18446744073709551616) w (by omega)
end Go.Proofs.YtpcdggkajindbaaGreat

