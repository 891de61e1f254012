/- Contracts of package ratio's Check, checkBoth, opposite and inverse. Contracts of the reference of layer 1: gcd, abs, Check, Both, less, plus, minus. Contracts of the reference's times, Neg and made. -/
import Derived.Test.YtniagnldiegamaaGreatGy
namespace Go.Proofs.YtniagnldiegamaaGreat
open Go.RowKit

/-- A callee that leaves the world as it is, within a region that draws its order. -/
theorem quietL {P : Program} {f : FuncId} {args : Array Value} {w : World} {n : Nat} {v : Value}
    (h : Calls P f args (w.drewN n) fun e w' => e = .returned v ∧ w.drewN n = w') : Calls P f args (w.drewN n) fun e w'' => e = .returned v ∧ ∃ m, w'' = w.drewN m :=
  h.mono fun _ _ ⟨he, hm⟩ => ⟨he, n, hm.symm⟩

set_option maxHeartbeats 1000000 in
theorem check_any (n d : Int) (w : World) (n0 : -9223372036854775808 ≤ n) (n1 : n ≤ 9223372036854775807) (d0 : -9223372036854775808 ≤ d) (d1 : d ≤ 9223372036854775807) :
    Calls Tryz.prog 137 #[.agg #[.int .i64 n, .int .i64 d]] w fun e w' => e = .returned (.int .i64 (Rp.chk n d)) ∧ Below w.heap.size w w' := by
  by_cases h : 1 ≤ d ∧ d ≤ 1000000000000000000 ∧ -1000000000000000000 ≤ n ∧ n ≤ 1000000000000000000
  · obtain ⟨h1, h2, h3, h4⟩ := h
    by_cases hg : Nat.gcd n.natAbs d.natAbs = 1
    · have e : Rp.chk n d = 0 := by unfold Rp.chk; rw [if_pos ⟨h1, h2, h3, h4, hg⟩]
      rw [e]
      have hb : ((Nat.gcd n.natAbs d.natAbs : Int) != 1) = false := by rw [hg]; rfl
      clear hg e
      go_enter Tryz.func137, Tryz.ntmps137
      go_wp2_with fail
      go_quiet ((first
        | (go_at_call 126; exact quietL (magnitude_any _ (by assumption) (by assumption) _))
        | (go_at_call 127; exact Calls.quiet_of (gcd_any _ _ (by omega) (by omega) _))))
      go_wp2
      go_ret
      exact ⟨rfl, below_drewN ((Below.refl _ _).alloc (Nat.le_refl _) _) _⟩
    · have e : Rp.chk n d = 8 := by unfold Rp.chk; rw [if_neg (fun h => hg h.2.2.2.2)]
      rw [e]
      have hb : ((Nat.gcd n.natAbs d.natAbs : Int) != 1) = true := by rw [bne_iff_ne]; omega
      clear hg e
      go_enter Tryz.func137, Tryz.ntmps137
      go_wp2_with fail
      go_quiet ((first
        | (go_at_call 126; exact quietL (magnitude_any _ (by assumption) (by assumption) _))
        | (go_at_call 127; exact Calls.quiet_of (gcd_any _ _ (by omega) (by omega) _))))
      go_wp2
      go_ret
      exact ⟨rfl, below_drewN ((Below.refl _ _).alloc (Nat.le_refl _) _) _⟩
  · have e : Rp.chk n d = 8 := by unfold Rp.chk; rw [if_neg (fun k => h ⟨k.1, k.2.1, k.2.2.1, k.2.2.2.1⟩)]
    rw [e]; clear e
    by_cases h1 : d < 1
    · clear h
      go_enter Tryz.func137, Tryz.ntmps137
      go_wp2
      go_ret
      exact ⟨rfl, (Below.refl _ _).alloc (Nat.le_refl _) _⟩
    · by_cases h2 : 1000000000000000000 < d
      · clear h
        go_enter Tryz.func137, Tryz.ntmps137
        go_wp2
        go_ret
        exact ⟨rfl, (Below.refl _ _).alloc (Nat.le_refl _) _⟩
      · by_cases h3 : n < -1000000000000000000
        · clear h
          go_enter Tryz.func137, Tryz.ntmps137
          go_wp2
          go_ret
          exact ⟨rfl, (Below.refl _ _).alloc (Nat.le_refl _) _⟩
        · have h4 : 1000000000000000000 < n := by omega
          clear h
          go_enter Tryz.func137, Tryz.ntmps137
          go_wp2
          go_ret
          exact ⟨rfl, (Below.refl _ _).alloc (Nat.le_refl _) _⟩

theorem chk_cases (n d : Int) : (Rp.chk n d = 0 ∧ Rp.Ok n d) ∨ (Rp.chk n d = 8 ∧ ¬ Rp.Ok n d) := by
  unfold Rp.chk
  by_cases h : Rp.Ok n d
  · left; rw [if_pos h]; exact ⟨rfl, h⟩
  · right; rw [if_neg h]; exact ⟨rfl, h⟩

set_option maxHeartbeats 1000000 in
theorem checkBoth_any (n d m c : Int) (w : World) (n0 : -9223372036854775808 ≤ n) (n1 : n ≤ 9223372036854775807) (d0 : -9223372036854775808 ≤ d) (d1 : d ≤ 9223372036854775807)
    (m0 : -9223372036854775808 ≤ m) (m1 : m ≤ 9223372036854775807) (c0 : -9223372036854775808 ≤ c) (c1 : c ≤ 9223372036854775807) :
    Calls Tryz.prog 131 #[.agg #[.int .i64 n, .int .i64 d], .agg #[.int .i64 m, .int .i64 c]] w fun e w' => e = .returned (.int .i64 (Rp.both n d m c)) ∧ Below w.heap.size w w' := by
  have A := fun w => check_any n d w n0 n1 d0 d1
  have B := Lib.hid (fun w => check_any m c w m0 m1 c0 c1)
  rcases chk_cases n d with ⟨h, h'⟩ | ⟨h, h'⟩
  · have e : Rp.both n d m c = Rp.chk m c := by unfold Rp.both; rw [if_pos h']
    rw [e]; rw [h] at A; have A' := Lib.hid A; clear A h h' e
    go_enter Tryz.func131, Tryz.ntmps131
    (go_wp2_with fail); refine (A'.out _).mono ?_; rintro e w1 ⟨rfl, hb1⟩; have y0 : w1.cell? ⟨w.heap.size + 1, 0, none⟩ = some (.int .i64 m) := keepC hb1 (by go_simp); have y1 : w1.cell? ⟨w.heap.size + 1, 1, none⟩ = some (.int .i64 c) := keepC hb1 (by go_simp); have hbb : Below w.heap.size w w1 := keepB ((((Below.refl _ _).alloc (Nat.le_refl _) _).alloc (by simp) _)) hb1; clear hb1; (go_wp2_with fail); refine (B.out _).mono ?_; rintro e w2 ⟨rfl, hb2⟩
    go_wp2
    go_ret
    exact ⟨rfl, keepB hbb hb2⟩
  · have e : Rp.both n d m c = 8 := by unfold Rp.both; rw [if_neg h']
    rw [e]; rw [h] at A; have A' := Lib.hid A; clear A h h' e B
    go_enter Tryz.func131, Tryz.ntmps131
    (go_wp2_with fail); refine (A'.out _).mono ?_; rintro e w1 ⟨rfl, hb1⟩; have hbb : Below w.heap.size w w1 := keepB ((((Below.refl _ _).alloc (Nat.le_refl _) _).alloc (by simp) _)) hb1; clear hb1
    go_wp2
    go_ret
    exact ⟨rfl, hbb⟩

set_option maxHeartbeats 1000000 in
theorem opposite_any (n d : Int) (w : World) (n0 : -1000000000000000000 ≤ n) (n1 : n ≤ 1000000000000000000) :
    Calls Tryz.prog 195 #[.agg #[.int .i64 n, .int .i64 d]] w fun e w' => e = .returned (.agg #[.int .i64 (-n), .int .i64 d]) ∧ Below w.heap.size w w' := by
  go_enter Tryz.func195, Tryz.ntmps195
  go_wp2
  exact bodyPost_ret (v := .agg #[.int .i64 (-n), .int .i64 d]) (by simp [results, Tryz.results195, go_sem]) rfl ⟨rfl, ((Below.refl _ _).alloc (Nat.le_refl _) _).alloc (by simp) _⟩

set_option maxHeartbeats 1000000 in
theorem inverse_any (n d : Int) (w : World) (n0 : -1000000000000000000 ≤ n) (n1 : n ≤ 1000000000000000000) (d0 : -1000000000000000000 ≤ d) (d1 : d ≤ 1000000000000000000) :
    Calls Tryz.prog 200 #[.agg #[.int .i64 n, .int .i64 d]] w fun e w' => e = .returned (.agg #[.int .i64 (if n < 0 then -d else d), .int .i64 (if n < 0 then -n else n)]) ∧ Below w.heap.size w w' := by
  by_cases h : n < 0
  · simp only [if_pos h]
    go_enter Tryz.func200, Tryz.ntmps200
    go_wp2
    exact bodyPost_ret (v := .agg #[.int .i64 (-d), .int .i64 (-n)]) (by simp [results, Tryz.results200, go_sem]) rfl ⟨rfl, ((Below.refl _ _).alloc (Nat.le_refl _) _).alloc (by simp) _⟩
  · simp only [if_neg h]
    go_enter Tryz.func200, Tryz.ntmps200
    go_wp2
    exact bodyPost_ret (v := .agg #[.int .i64 d, .int .i64 n]) (by simp [results, Tryz.results200, go_sem]) rfl ⟨rfl, ((Below.refl _ _).alloc (Nat.le_refl _) _).alloc (by simp) _⟩
end Go.Proofs.YtniagnldiegamaaGreat
namespace Go.Proofs.YtniagnldiegamaaGreat
open Go.RowKit

set_option maxHeartbeats 400000 in
theorem rgcd_any (a b : Nat) (ha : a < 18446744073709551616) (hb : b < 18446744073709551616) (w : World) :
    Calls Tryz.prog 109 #[.int .u64 a, .int .u64 b] w fun e w' => e = .returned (.int .u64 (Nat.gcd a b : Int)) ∧ ∃ n, w' = w.drewN n := by
  go_enter Tryz.func109, Tryz.ntmps109
  go_wp2
  go_loopw [0, 1] (fun x y w' => ∃ s t : Nat, s < 18446744073709551616 ∧ t < 18446744073709551616 ∧ Nat.gcd s t = Nat.gcd a b ∧ x = .int .u64 s ∧ y = .int .u64 t ∧ ∃ n, w' = w.drewN n) (fun _ y _ => (intOf y).toNat)
  case atStart => exact ⟨a, b, ha, hb, rfl, rfl, rfl, 0, rfl⟩
  case round =>
    obtain ⟨s, t, hs, ht, hg, rfl, rfl, n, rfl⟩ := hrel
    by_cases h0 : t = 0
    · subst h0
      go_wp2
      go_ret
      exact ⟨ret_int (by rw [← hg, Nat.gcd_zero_right]), n, rfl⟩
    · have hb0 : ((t : Int) != 0) = true := by rw [bne_iff_ne]; omega
      have hz : 0 < t := by omega
      have HG := Lib.hid hg; clear hg h0
      go_wp2
      go_region
      go_wp2
      go_roundw
      case rel => exact ⟨t, s % t, ht, by have := Nat.mod_lt s hz; omega, by rw [Rp.gcd_mod_right, Nat.gcd_comm, HG.out], rfl, by go_num, n + 1, rfl⟩
      case measure =>
        have := Nat.mod_lt s hz
        simp [intOf]; omega


set_option maxHeartbeats 400000 in
theorem rabs_any (n : Int) (h1 : -9223372036854775808 ≤ n) (h2 : n ≤ 9223372036854775807) (w : World) :
    Calls Tryz.prog 83 #[.int .i64 n] w fun e w' => e = .returned (.int .u64 (n.natAbs : Int)) ∧ w = w' := by
  go_enter Tryz.func83, Tryz.ntmps83
  go_wp2
  all_goals
    go_ret
    refine ⟨ret_int ?_, rfl⟩
    first | omega | (simp only [IntKind.wrap_u64, IntKind.wrap_i64]; omega)

set_option maxHeartbeats 1000000 in
theorem rCheck_any (n d : Int) (w : World) (n0 : -9223372036854775808 ≤ n) (n1 : n ≤ 9223372036854775807) (d0 : -9223372036854775808 ≤ d) (d1 : d ≤ 9223372036854775807) :
    Calls Tryz.prog 150 #[.agg #[.int .i64 n, .int .i64 d]] w fun e w' => e = .returned (.int .i64 (Rp.chk n d)) ∧ Below w.heap.size w w' := by
  by_cases h : 1 ≤ d ∧ d ≤ 1000000000000000000 ∧ -1000000000000000000 ≤ n ∧ n ≤ 1000000000000000000
  · obtain ⟨h1, h2, h3, h4⟩ := h
    have g1 : decide (d < 1) = false := decide_eq_false (by omega); have g2 : decide (1000000000000000000 < d) = false := decide_eq_false (by omega); have g3 : decide (n < -1000000000000000000) = false := decide_eq_false (by omega); have g4 : decide (1000000000000000000 < n) = false := decide_eq_false (by omega)
    have hdd : d = (d.natAbs : Int) := by omega
    have wd : IntKind.u64.wrap d = (d.natAbs : Int) := by rw [IntKind.wrap_u64]; omega
    clear hdd
    by_cases hg : Nat.gcd n.natAbs d.natAbs = 1
    · have e : Rp.chk n d = 0 := by unfold Rp.chk; rw [if_pos ⟨h1, h2, h3, h4, hg⟩]
      rw [e]
      have hb : ((Nat.gcd n.natAbs d.natAbs : Int) != 1) = false := by rw [hg]; rfl
      clear hg e
      go_enter Tryz.func150, Tryz.ntmps150
      go_wp2_with fail
      go_quiet ((first
              | (go_at_call 83; exact quietL (rabs_any _ (by assumption) (by assumption) _))
              | (go_at_call 109; exact Calls.quiet_of (rgcd_any _ _ (by omega) (by omega) _))))
      go_wp2
      go_ret
      exact ⟨rfl, below_drewN ((Below.refl _ _).alloc (Nat.le_refl _) _) _⟩
    · have e : Rp.chk n d = 8 := by unfold Rp.chk; rw [if_neg (fun h => hg h.2.2.2.2)]
      rw [e]
      have hb : ((Nat.gcd n.natAbs d.natAbs : Int) != 1) = true := by rw [bne_iff_ne]; omega
      clear hg e
      go_enter Tryz.func150, Tryz.ntmps150
      go_wp2_with fail
      go_quiet ((first
              | (go_at_call 83; exact quietL (rabs_any _ (by assumption) (by assumption) _))
              | (go_at_call 109; exact Calls.quiet_of (rgcd_any _ _ (by omega) (by omega) _))))
      go_wp2
      go_ret
      exact ⟨rfl, below_drewN ((Below.refl _ _).alloc (Nat.le_refl _) _) _⟩
  · have e : Rp.chk n d = 8 := by unfold Rp.chk; rw [if_neg (fun k => h ⟨k.1, k.2.1, k.2.2.1, k.2.2.2.1⟩)]
    rw [e]; clear e
    by_cases h1 : d < 1
    · clear h
      have g1 : decide (d < 1) = true := decide_eq_true h1
      go_enter Tryz.func150, Tryz.ntmps150
      go_wp2_with fail
      go_quiet ((first
              | (go_at_call 83; exact quietL (rabs_any _ (by assumption) (by assumption) _))
              | (go_at_call 109; exact Calls.quiet_of (rgcd_any _ _ (by omega) (by omega) _))))
      go_wp2
      go_ret
      exact ⟨rfl, below_drewN ((Below.refl _ _).alloc (Nat.le_refl _) _) _⟩
    · have g1 : decide (d < 1) = false := decide_eq_false h1
      by_cases h2 : 1000000000000000000 < d
      · clear h
        have g2 : decide (1000000000000000000 < d) = true := decide_eq_true h2
        go_enter Tryz.func150, Tryz.ntmps150
        go_wp2_with fail
        go_quiet ((first
                | (go_at_call 83; exact quietL (rabs_any _ (by assumption) (by assumption) _))
                | (go_at_call 109; exact Calls.quiet_of (rgcd_any _ _ (by omega) (by omega) _))))
        go_wp2
        go_ret
        exact ⟨rfl, below_drewN ((Below.refl _ _).alloc (Nat.le_refl _) _) _⟩
      · have g2 : decide (1000000000000000000 < d) = false := decide_eq_false h2
        by_cases h3 : n < -1000000000000000000
        · clear h
          have g3 : decide (n < -1000000000000000000) = true := decide_eq_true h3
          go_enter Tryz.func150, Tryz.ntmps150
          go_wp2_with fail
          go_quiet ((first
                  | (go_at_call 83; exact quietL (rabs_any _ (by assumption) (by assumption) _))
                  | (go_at_call 109; exact Calls.quiet_of (rgcd_any _ _ (by omega) (by omega) _))))
          go_wp2
          go_ret
          exact ⟨rfl, below_drewN ((Below.refl _ _).alloc (Nat.le_refl _) _) _⟩
        · have g3 : decide (n < -1000000000000000000) = false := decide_eq_false h3
          have h4 : 1000000000000000000 < n := by omega
          have g4 : decide (1000000000000000000 < n) = true := decide_eq_true h4; clear h
          go_enter Tryz.func150, Tryz.ntmps150
          go_wp2_with fail
          go_quiet ((first
                  | (go_at_call 83; exact quietL (rabs_any _ (by assumption) (by assumption) _))
                  | (go_at_call 109; exact Calls.quiet_of (rgcd_any _ _ (by omega) (by omega) _))))
          go_wp2
          go_ret
          exact ⟨rfl, below_drewN ((Below.refl _ _).alloc (Nat.le_refl _) _) _⟩
set_option maxHeartbeats 1000000 in
theorem rBoth_any (n d m c : Int) (w : World) (n0 : -9223372036854775808 ≤ n) (n1 : n ≤ 9223372036854775807) (d0 : -9223372036854775808 ≤ d) (d1 : d ≤ 9223372036854775807)
    (m0 : -9223372036854775808 ≤ m) (m1 : m ≤ 9223372036854775807) (c0 : -9223372036854775808 ≤ c) (c1 : c ≤ 9223372036854775807) :
    Calls Tryz.prog 142 #[.agg #[.int .i64 n, .int .i64 d], .agg #[.int .i64 m, .int .i64 c]] w fun e w' => e = .returned (.int .i64 (Rp.both n d m c)) ∧ Below w.heap.size w w' := by
  have A := fun w => rCheck_any n d w n0 n1 d0 d1
  have B := Lib.hid (fun w => rCheck_any m c w m0 m1 c0 c1)
  rcases chk_cases n d with ⟨h, h'⟩ | ⟨h, h'⟩
  · have e : Rp.both n d m c = Rp.chk m c := by unfold Rp.both; rw [if_pos h']
    rw [e]; rw [h] at A; have A' := Lib.hid A; clear A h h' e
    go_enter Tryz.func142, Tryz.ntmps142
    (go_wp2_with fail); refine (A'.out _).mono ?_; rintro e w1 ⟨rfl, hb1⟩; have y0 : w1.cell? ⟨w.heap.size + 1, 0, none⟩ = some (.int .i64 m) := keepC hb1 (by go_simp); have y1 : w1.cell? ⟨w.heap.size + 1, 1, none⟩ = some (.int .i64 c) := keepC hb1 (by go_simp); have hbb : Below w.heap.size w w1 := keepB ((((Below.refl _ _).alloc (Nat.le_refl _) _).alloc (by simp) _)) hb1; clear hb1; (go_wp2_with fail); refine (B.out _).mono ?_; rintro e w2 ⟨rfl, hb2⟩
    go_wp2
    go_ret
    exact ⟨rfl, keepB hbb hb2⟩
  · have e : Rp.both n d m c = 8 := by unfold Rp.both; rw [if_neg h']
    rw [e]; rw [h] at A; have A' := Lib.hid A; clear A h h' e B
    go_enter Tryz.func142, Tryz.ntmps142
    (go_wp2_with fail); refine (A'.out _).mono ?_; rintro e w1 ⟨rfl, hb1⟩; have x0 : w1.cell? ⟨w.heap.size, 0, none⟩ = some (.int .i64 n) := keepC hb1 (by go_simp); have x1 : w1.cell? ⟨w.heap.size, 1, none⟩ = some (.int .i64 d) := keepC hb1 (by go_simp); have hbb : Below w.heap.size w w1 := keepB ((((Below.refl _ _).alloc (Nat.le_refl _) _).alloc (by simp) _)) hb1; clear hb1; (go_wp2_with fail); refine (A'.out _).mono ?_; rintro e w2 ⟨rfl, hb2⟩
    go_wp2
    go_ret
    exact ⟨rfl, keepB hbb hb2⟩


set_option maxHeartbeats 400000 in
theorem rless_any (h1 l1 h2 l2 : Int) (b0 : 0 ≤ l1) (b1 : l1 < 18446744073709551616) (d0 : 0 ≤ l2) (d1 : l2 < 18446744073709551616) (w : World) :
    Calls Tryz.prog 84 #[.agg #[.int .u64 h1, .int .u64 l1], .agg #[.int .u64 h2, .int .u64 l2]] w fun e w' => e = .returned (.bool (decide (W h1 l1 < W h2 l2))) ∧ Below w.heap.size w w' := by
  by_cases hl : h1 < h2
  · rw [decide_eq_true (show W h1 l1 < W h2 l2 by unfold W; omega)]
    go_enter Tryz.func84, Tryz.ntmps84
    go_wp2
    go_ret
    exact ⟨rfl, (((Below.refl _ _).alloc (Nat.le_refl _) _).alloc (by simp) _)⟩
  · by_cases he : h1 = h2
    · subst he
      go_enter Tryz.func84, Tryz.ntmps84
      go_wp2
      go_ret
      exact ⟨ret_bool (by first | (rw [decide_eq_decide]; unfold W; omega) | (unfold W; simp)), (((Below.refl _ _).alloc (Nat.le_refl _) _).alloc (by simp) _)⟩
    · rw [decide_eq_false (show ¬ W h1 l1 < W h2 l2 by unfold W; omega)]
      have hb : (h1 == h2) = false := by rw [beq_eq_false_iff_ne]; exact he
      go_enter Tryz.func84, Tryz.ntmps84
      go_wp2
      go_ret
      exact ⟨rfl, (((Below.refl _ _).alloc (Nat.le_refl _) _).alloc (by simp) _)⟩

set_option maxHeartbeats 1000000 in
theorem rplus_any (h1 l1 h2 l2 : Int) (a0 : 0 ≤ h1) (b0 : 0 ≤ l1) (b1 : l1 < 18446744073709551616) (c0 : 0 ≤ h2) (d0 : 0 ≤ l2) (d1 : l2 < 18446744073709551616)
    (hs : W h1 l1 + W h2 l2 < 340282366920938463463374607431768211456) (w : World) :
    Calls Tryz.prog 178 #[.agg #[.int .u64 h1, .int .u64 l1], .agg #[.int .u64 h2, .int .u64 l2]] w fun e w' =>
      e = .returned (.agg #[.int .u64 ((W h1 l1 + W h2 l2) / 18446744073709551616), .int .u64 ((W h1 l1 + W h2 l2) % 18446744073709551616)]) ∧ Below w.heap.size w w' := by
  have s1 : h1 + h2 < 18446744073709551616 := by unfold W at hs; omega
  by_cases hc : l1 + l2 < 18446744073709551616
  · have k1 : (W h1 l1 + W h2 l2) / 18446744073709551616 = h1 + h2 := by unfold W; omega
    have k2 : (W h1 l1 + W h2 l2) % 18446744073709551616 = l1 + l2 := by unfold W; omega
    rw [k1, k2]; clear k1 k2 hs
    go_enter Tryz.func178, Tryz.ntmps178
    go_wp2
    exact bodyPost_ret (v := .agg #[.int .u64 (h1 + h2), .int .u64 (l1 + l2)]) (by simp [results, Tryz.results178, go_sem]) rfl ⟨rfl, ((((Below.refl _ _).alloc (Nat.le_refl _) _).alloc (by simp) _).alloc (by simp; omega) _)⟩
  · have k1 : (W h1 l1 + W h2 l2) / 18446744073709551616 = h1 + h2 + 1 := by unfold W; omega
    have k2 : (W h1 l1 + W h2 l2) % 18446744073709551616 = l1 + l2 - 18446744073709551616 := by unfold W; omega
    have e1 : IntKind.u64.wrap (l1 + l2) = l1 + l2 - 18446744073709551616 := by rw [IntKind.wrap_u64]; omega
    have s2 : h1 + h2 + 1 < 18446744073709551616 := by unfold W at hs; omega
    rw [k1, k2]
    generalize hL : l1 + l2 - 18446744073709551616 = L at *
    have hLl : L < l1 := by omega
    clear k1 k2 hs hL
    go_enter Tryz.func178, Tryz.ntmps178
    go_wp2
    exact bodyPost_ret (v := .agg #[.int .u64 (h1 + h2 + 1), .int .u64 L]) (by simp [results, Tryz.results178, go_sem]) rfl ⟨rfl, ((((Below.refl _ _).alloc (Nat.le_refl _) _).alloc (by simp) _).alloc (by simp; omega) _)⟩

set_option maxHeartbeats 1000000 in
theorem rminus_any (h1 l1 h2 l2 : Int) (a1 : h1 < 18446744073709551616) (b0 : 0 ≤ l1) (b1 : l1 < 18446744073709551616) (c0 : 0 ≤ h2) (d0 : 0 ≤ l2) (d1 : l2 < 18446744073709551616)
    (hs : W h2 l2 ≤ W h1 l1) (w : World) :
    Calls Tryz.prog 179 #[.agg #[.int .u64 h1, .int .u64 l1], .agg #[.int .u64 h2, .int .u64 l2]] w fun e w' =>
      e = .returned (.agg #[.int .u64 ((W h1 l1 - W h2 l2) / 18446744073709551616), .int .u64 ((W h1 l1 - W h2 l2) % 18446744073709551616)]) ∧ Below w.heap.size w w' := by
  by_cases hc : l1 < l2
  · have k1 : (W h1 l1 - W h2 l2) / 18446744073709551616 = h1 - h2 - 1 := by unfold W; omega
    have k2 : (W h1 l1 - W h2 l2) % 18446744073709551616 = l1 - l2 + 18446744073709551616 := by unfold W; omega
    have e1 : IntKind.u64.wrap (l1 - l2) = l1 - l2 + 18446744073709551616 := by rw [IntKind.wrap_u64]; omega
    have s2 : h2 + 1 ≤ h1 := by unfold W at hs; omega
    rw [k1, k2]
    generalize l1 - l2 + 18446744073709551616 = L at *
    clear k1 k2 hs
    go_enter Tryz.func179, Tryz.ntmps179
    go_wp2
    exact bodyPost_ret (v := .agg #[.int .u64 (h1 - h2 - 1), .int .u64 L]) (by simp [results, Tryz.results179, go_sem]) rfl ⟨rfl, ((((Below.refl _ _).alloc (Nat.le_refl _) _).alloc (by simp) _).alloc (by simp; omega) _)⟩
  · have k1 : (W h1 l1 - W h2 l2) / 18446744073709551616 = h1 - h2 := by unfold W; omega
    have k2 : (W h1 l1 - W h2 l2) % 18446744073709551616 = l1 - l2 := by unfold W; omega
    have s2 : h2 ≤ h1 := by unfold W at hs; omega
    rw [k1, k2]; clear k1 k2 hs
    go_enter Tryz.func179, Tryz.ntmps179
    go_wp2
    exact bodyPost_ret (v := .agg #[.int .u64 (h1 - h2), .int .u64 (l1 - l2)]) (by simp [results, Tryz.results179, go_sem]) rfl ⟨rfl, ((((Below.refl _ _).alloc (Nat.le_refl _) _).alloc (by simp) _).alloc (by simp; omega) _)⟩
end Go.Proofs.YtniagnldiegamaaGreat
namespace Go.Proofs.YtniagnldiegamaaGreat
open Go.RowKit

theorem times_arith (A1 A0 B1 B0 : Int) (a1 : 0 ≤ A1) (a1' : A1 ≤ 4294967295) (a0 : 0 ≤ A0) (a0' : A0 ≤ 4294967295) (b1 : 0 ≤ B1) (b1' : B1 ≤ 4294967295) (b0 : 0 ≤ B0) (b0' : B0 ≤ 4294967295) :
    (A1 * 4294967296 + A0) * (B1 * 4294967296 + B0) / 18446744073709551616 = A1 * B1 + A1 * B0 / 4294967296 + (A1 * B0 % 4294967296 + A0 * B1 + A0 * B0 / 4294967296) / 4294967296 ∧
    (A1 * 4294967296 + A0) * (B1 * 4294967296 + B0) % 18446744073709551616 = (A1 * B0 % 4294967296 + A0 * B1 + A0 * B0 / 4294967296) % 4294967296 * 4294967296 + A0 * B0 % 4294967296 ∧
    A1 * B1 + A1 * B0 / 4294967296 + (A1 * B0 % 4294967296 + A0 * B1 + A0 * B0 / 4294967296) / 4294967296 < 18446744073709551616 := by
  have p1 := prod_bound A1 B1 a1 a1' b1 b1'; have p2 := prod_bound A1 B0 a1 a1' b0 b0'; have p3 := prod_bound A0 B1 a0 a0' b1 b1'; have p4 := prod_bound A0 B0 a0 a0' b0 b0'; rw [Go.split_mul]; have hlt : (A1 * 4294967296 + A0) * (B1 * 4294967296 + B0) ≤ 18446744073709551615 * 18446744073709551615 := Int.mul_le_mul (by omega) (by omega) (by omega) (by omega); rw [Go.split_mul] at hlt
  generalize A1 * B1 = p at *
  generalize A1 * B0 = q at *
  generalize A0 * B1 = r at *
  generalize A0 * B0 = s at *
  omega

set_option maxHeartbeats 1000000 in
theorem times_any (a b : Int) (h0 : 0 ≤ a) (h1 : a < 18446744073709551616) (k0 : 0 ≤ b) (k1 : b < 18446744073709551616) (w : World) :
    Calls Tryz.prog 82 #[.int .u64 a, .int .u64 b] w fun e w' => e = .returned (.agg #[.int .u64 (a * b / 18446744073709551616), .int .u64 (a * b % 18446744073709551616)]) ∧ Below w.heap.size w w' := by
  have ea := and_low32 a h0 h1; have eb := and_low32 b k0 k1; obtain ⟨A1, hA1⟩ : ∃ A1, A1 = a / 4294967296 := ⟨_, rfl⟩; obtain ⟨A0, hA0⟩ : ∃ A0, A0 = a % 4294967296 := ⟨_, rfl⟩; obtain ⟨B1, hB1⟩ : ∃ B1, B1 = b / 4294967296 := ⟨_, rfl⟩; obtain ⟨B0, hB0⟩ : ∃ B0, B0 = b % 4294967296 := ⟨_, rfl⟩
  have xa : a = A1 * 4294967296 + A0 := by omega
  have xb : b = B1 * 4294967296 + B0 := by omega
  rw [← hA0] at ea; rw [← hB0] at eb
  have u1 : 0 ≤ A1 := by omega
  have u2 : A1 ≤ 4294967295 := by omega
  have u3 : 0 ≤ A0 := by omega
  have u4 : A0 ≤ 4294967295 := by omega
  have v1 : 0 ≤ B1 := by omega
  have v2 : B1 ≤ 4294967295 := by omega
  have v3 : 0 ≤ B0 := by omega
  have v4 : B0 ≤ 4294967295 := by omega
  obtain ⟨t1, t2, t3⟩ := times_arith A1 A0 B1 B0 u1 u2 u3 u4 v1 v2 v3 v4; rw [← xa, ← xb] at t1 t2; rw [t1, t2]; have ha1 : a / 4294967296 = A1 := hA1.symm; have hb1 : b / 4294967296 = B1 := hB1.symm; obtain ⟨p1, p1'⟩ := prod_bound A1 B1 u1 u2 v1 v2; obtain ⟨p2, p2'⟩ := prod_bound A1 B0 u1 u2 v3 v4; obtain ⟨p3, p3'⟩ := prod_bound A0 B1 u3 u4 v1 v2; obtain ⟨p4, p4'⟩ := prod_bound A0 B0 u3 u4 v3 v4; have e2 := and_low32 (A1 * B0) p2 (by omega); have e4 := and_low32 (A0 * B0) p4 (by omega)
  have eo : bits .or .u64 (IntKind.u64.wrap ((A1 * B0 % 4294967296 + A0 * B1 + A0 * B0 / 4294967296) * 4294967296)) (A0 * B0 % 4294967296) = (A1 * B0 % 4294967296 + A0 * B1 + A0 * B0 / 4294967296) % 4294967296 * 4294967296 + A0 * B0 % 4294967296 := by
    have := or_add 32 ((A1 * B0 % 4294967296 + A0 * B1 + A0 * B0 / 4294967296) % 4294967296) (A0 * B0 % 4294967296) (by omega) (by omega) (by omega) (by rw [show (2 : Int) ^ 32 = 4294967296 from rfl]; omega) (by rw [show (2 : Int) ^ 32 = 4294967296 from rfl]; omega); rw [show (2 : Int) ^ 32 = 4294967296 from rfl] at this; rw [← this, IntKind.wrap_u64]
    congr 1
    omega
  clear xa xb hA1 hA0 hB1 hB0 t1 t2
  go_enter Tryz.func82, Tryz.ntmps82
  go_wp2
  exact bodyPost_ret (v := .agg #[.int .u64 (A1 * B1 + A1 * B0 / 4294967296 + (A1 * B0 % 4294967296 + A0 * B1 + A0 * B0 / 4294967296) / 4294967296), .int .u64 ((A1 * B0 % 4294967296 + A0 * B1 + A0 * B0 / 4294967296) % 4294967296 * 4294967296 + A0 * B0 % 4294967296)]) (by simp [results, Tryz.results82, go_sem]) rfl ⟨rfl, (Below.refl _ _).alloc (Nat.le_refl _) _⟩

set_option maxHeartbeats 1000000 in
theorem Neg_any (n d : Int) (w : World) (n0 : -1000000000000000000 ≤ n) (n1 : n ≤ 1000000000000000000) :
    Calls Tryz.prog 181 #[.agg #[.int .i64 n, .int .i64 d]] w fun e w' => e = .returned (.agg #[.int .i64 (-n), .int .i64 d]) ∧ Below w.heap.size w w' := by
  go_enter Tryz.func181, Tryz.ntmps181
  go_wp2
  exact bodyPost_ret (v := .agg #[.int .i64 (-n), .int .i64 d]) (by simp [results, Tryz.results181, go_sem]) rfl ⟨rfl, ((Below.refl _ _).alloc (Nat.le_refl _) _).alloc (by simp) _⟩

set_option maxHeartbeats 1000000 in
theorem made_fits (s : Bool) (l1 l2 : Int) (b0 : 0 ≤ l1) (b1 : l1 ≤ 1000000000000000000) (d0 : 0 ≤ l2) (d1 : l2 ≤ 1000000000000000000) (w : World) :
    Calls Tryz.prog 110 #[.bool s, .agg #[.int .u64 0, .int .u64 l1], .agg #[.int .u64 0, .int .u64 l2]] w fun e w' =>
      e = .returned (.tuple #[.agg #[.int .i64 (sg s l1), .int .i64 l2], .int .i64 0]) ∧ Below w.heap.size w w' := by
  cases s
  · go_enter Tryz.func110, Tryz.ntmps110
    go_wp2
    exact bodyPost_ret (v := .tuple #[.agg #[.int .i64 l1, .int .i64 l2], .int .i64 0]) (by simp [results, Tryz.results110, go_sem]) rfl ⟨rfl, (((((Below.refl _ _).alloc (Nat.le_refl _) _).alloc (by simp) _).alloc (by simp; omega) _).alloc (by simp; omega) _)⟩
  · go_enter Tryz.func110, Tryz.ntmps110
    go_wp2
    exact bodyPost_ret (v := .tuple #[.agg #[.int .i64 (-l1), .int .i64 l2], .int .i64 0]) (by simp [results, Tryz.results110, go_sem]) rfl ⟨rfl, (((((Below.refl _ _).alloc (Nat.le_refl _) _).alloc (by simp) _).alloc (by simp; omega) _).alloc (by simp; omega) _)⟩

theorem made_far_run (s : Bool) (h1 l1 h2 l2 : Int) (w : World)
    (hc : (0 < h1) ∨ (¬ 0 < h1 ∧ 0 < h2) ∨ (¬ 0 < h1 ∧ ¬ 0 < h2 ∧ 1000000000000000000 < l1) ∨ (¬ 0 < h1 ∧ ¬ 0 < h2 ∧ ¬ 1000000000000000000 < l1 ∧ 1000000000000000000 < l2)) :
    Calls Tryz.prog 110 #[.bool s, .agg #[.int .u64 h1, .int .u64 l1], .agg #[.int .u64 h2, .int .u64 l2]] w fun e w' =>
      e = .returned (.tuple #[.agg #[.int .i64 0, .int .i64 0], .int .i64 16]) ∧ Below w.heap.size w w' := by
  rcases hc with hc | ⟨c1, c2⟩ | ⟨c1, c2, c3⟩ | ⟨c1, c2, c3, c4⟩
  all_goals
    go_enter Tryz.func110, Tryz.ntmps110
    go_wp2
    exact bodyPost_ret (v := .tuple #[.agg #[.int .i64 0, .int .i64 0], .int .i64 16]) (by simp [results, Tryz.results110, go_sem]) rfl ⟨rfl, ((((Below.refl _ _).alloc (Nat.le_refl _) _).alloc (by simp) _).alloc (by simp; omega) _)⟩

theorem made_any (s1 : Bool) (m1 m2 : Int) (a0 : 0 ≤ m1) (a1 : m1 < 340282366920938463463374607431768211456) (b0 : 0 ≤ m2) (b1 : m2 < 340282366920938463463374607431768211456) (w : World) :
    Calls Tryz.prog 110 #[.bool s1, .agg #[.int .u64 (m1 / 18446744073709551616), .int .u64 (m1 % 18446744073709551616)], .agg #[.int .u64 (m2 / 18446744073709551616), .int .u64 (m2 % 18446744073709551616)]] w fun e w' =>
      e = .returned (.tuple #[.agg #[.int .i64 (Rp.low (sg s1 m1) m2).1, .int .i64 (Rp.low (sg s1 m1) m2).2.1], .int .i64 (Rp.low (sg s1 m1) m2).2.2]) ∧ Below w.heap.size w w' := by
  have n1 : (sg s1 m1).natAbs = m1.toNat := by unfold sg; split <;> omega
  by_cases h : m1 ≤ 1000000000000000000 ∧ m2 ≤ 1000000000000000000
  · have e : Rp.low (sg s1 m1) m2 = (sg s1 m1, m2, 0) := by unfold Rp.low; rw [if_pos (by omega)]
    rw [e, show m1 / 18446744073709551616 = 0 by omega, show m2 / 18446744073709551616 = 0 by omega, show m1 % 18446744073709551616 = m1 by omega, show m2 % 18446744073709551616 = m2 by omega]; exact made_fits s1 m1 m2 a0 h.1 b0 h.2 w
  · have e : Rp.low (sg s1 m1) m2 = (0, 0, 16) := by unfold Rp.low; rw [if_neg (by omega)]
    rw [e]; exact made_far_run s1 (m1 / 18446744073709551616) (m1 % 18446744073709551616) (m2 / 18446744073709551616) (m2 % 18446744073709551616) w (by omega)
end Go.Proofs.YtniagnldiegamaaGreat

