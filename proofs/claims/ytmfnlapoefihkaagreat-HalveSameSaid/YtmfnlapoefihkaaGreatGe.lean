/- Contracts of package ratio's Check, checkBoth, opposite and inverse. Contracts of the reference of layer 1: gcd, abs, Check, Both, less, plus, minus. Contracts of the reference's times, Neg and made. -/
import Derived.Test.YtmfnlapoefihkaaGreatGy
namespace Go.Proofs.YtmfnlapoefihkaaGreat
open Go.RowKit

/-- A callee that leaves the world as it is, within a region that draws its order. -/
theorem quietL {P : Program} {f : FuncId} {args : Array Value} {w : World} {n : Nat} {v : Value}
    (h : Calls P f args (w.drewN n) fun e w' => e = .returned v ∧ w.drewN n = w') : Calls P f args (w.drewN n) fun e w'' => e = .returned v ∧ ∃ m, w'' = w.drewN m :=
  h.mono fun _ _ ⟨he, hm⟩ => ⟨he, n, hm.symm⟩

set_option maxHeartbeats 1000000 in
theorem check_any (n d : Int) (w : World) (n0 : -9223372036854775808 ≤ n) (n1 : n ≤ 9223372036854775807) (d0 : -9223372036854775808 ≤ d) (d1 : d ≤ 9223372036854775807) :
    Calls Tryz.prog 108 #[.agg #[.int .i64 n, .int .i64 d]] w fun e w' => e = .returned (.int .i64 (Rp.chk n d)) ∧ Below w.heap.size w w' := by
  by_cases h : 1 ≤ d ∧ d ≤ 1000000000000000000 ∧ -1000000000000000000 ≤ n ∧ n ≤ 1000000000000000000
  · obtain ⟨h1, h2, h3, h4⟩ := h
    by_cases hg : Nat.gcd n.natAbs d.natAbs = 1
    · have e : Rp.chk n d = 0 := by unfold Rp.chk; rw [if_pos ⟨h1, h2, h3, h4, hg⟩]
      rw [e]
      have hb : ((Nat.gcd n.natAbs d.natAbs : Int) != 1) = false := by rw [hg]; rfl
      clear hg e
      go_enter Tryz.func108, Tryz.ntmps108
      go_wp2_with fail
      go_quiet ((first
        | (go_at_call 126; exact quietL (magnitude_any _ (by assumption) (by assumption) _))
        | (go_at_call 127; exact Calls.quiet_of (gcd_any _ _ (by omega) (by omega) _))))
      go_wp2
      go_ret
      exact ⟨rfl, below_drewN ((Below.refl _ _).alloc (Nat.le_refl _) _) _⟩
    · have e : Rp.chk n d = 8 := by unfold Rp.chk; rw [if_neg (fun h => hg h.2.2.2.2)]
      rw [e]
      have hb : ((Nat.gcd n.natAbs d.natAbs : Int) != 1) = true := by rw [bne_iff_ne]; omega
      clear hg e
      go_enter Tryz.func108, Tryz.ntmps108
      go_wp2_with fail
      go_quiet ((first
        | (go_at_call 126; exact quietL (magnitude_any _ (by assumption) (by assumption) _))
        | (go_at_call 127; exact Calls.quiet_of (gcd_any _ _ (by omega) (by omega) _))))
      go_wp2
      go_ret
      exact ⟨rfl, below_drewN ((Below.refl _ _).alloc (Nat.le_refl _) _) _⟩
  · have e : Rp.chk n d = 8 := by unfold Rp.chk; rw [if_neg (fun k => h ⟨k.1, k.2.1, k.2.2.1, k.2.2.2.1⟩)]
    rw [e]; clear e
    by_cases h1 : d < 1
    · clear h
      go_enter Tryz.func108, Tryz.ntmps108
      go_wp2
      go_ret
      exact ⟨rfl, (Below.refl _ _).alloc (Nat.le_refl _) _⟩
    · by_cases h2 : 1000000000000000000 < d
      · clear h
        go_enter Tryz.func108, Tryz.ntmps108
        go_wp2
        go_ret
        exact ⟨rfl, (Below.refl _ _).alloc (Nat.le_refl _) _⟩
      · by_cases h3 : n < -1000000000000000000
        · clear h
          go_enter Tryz.func108, Tryz.ntmps108
          go_wp2
          go_ret
          exact ⟨rfl, (Below.refl _ _).alloc (Nat.le_refl _) _⟩
        · have h4 : 1000000000000000000 < n := by omega
          clear h
          go_enter Tryz.func108, Tryz.ntmps108
          go_wp2
          go_ret
          exact ⟨rfl, (Below.refl _ _).alloc (Nat.le_refl _) _⟩

theorem chk_cases (n d : Int) : (Rp.chk n d = 0 ∧ Rp.Ok n d) ∨ (Rp.chk n d = 8 ∧ ¬ Rp.Ok n d) := by
  unfold Rp.chk
  by_cases h : Rp.Ok n d
  · left; rw [if_pos h]; exact ⟨rfl, h⟩
  · right; rw [if_neg h]; exact ⟨rfl, h⟩

set_option maxHeartbeats 1000000 in
theorem checkBoth_any (n d m c : Int) (w : World) (n0 : -9223372036854775808 ≤ n) (n1 : n ≤ 9223372036854775807) (d0 : -9223372036854775808 ≤ d) (d1 : d ≤ 9223372036854775807)
    (m0 : -9223372036854775808 ≤ m) (m1 : m ≤ 9223372036854775807) (c0 : -9223372036854775808 ≤ c) (c1 : c ≤ 9223372036854775807) :
    Calls Tryz.prog 103 #[.agg #[.int .i64 n, .int .i64 d], .agg #[.int .i64 m, .int .i64 c]] w fun e w' => e = .returned (.int .i64 (Rp.both n d m c)) ∧ Below w.heap.size w w' := by
  have A := fun w => check_any n d w n0 n1 d0 d1
  have B := Lib.hid (fun w => check_any m c w m0 m1 c0 c1)
  rcases chk_cases n d with ⟨h, h'⟩ | ⟨h, h'⟩
  · have e : Rp.both n d m c = Rp.chk m c := by unfold Rp.both; rw [if_pos h']
    rw [e]; rw [h] at A; have A' := Lib.hid A; clear A h h' e
    go_enter Tryz.func103, Tryz.ntmps103
    (go_wp2_with fail); refine (A'.out _).mono ?_; rintro e w1 ⟨rfl, hb1⟩; have y0 : w1.cell? ⟨w.heap.size + 1, 0, none⟩ = some (.int .i64 m) := keepC hb1 (by go_simp); have y1 : w1.cell? ⟨w.heap.size + 1, 1, none⟩ = some (.int .i64 c) := keepC hb1 (by go_simp); have hbb : Below w.heap.size w w1 := keepB ((((Below.refl _ _).alloc (Nat.le_refl _) _).alloc (by simp) _)) hb1; clear hb1; (go_wp2_with fail); refine (B.out _).mono ?_; rintro e w2 ⟨rfl, hb2⟩
    go_wp2
    go_ret
    exact ⟨rfl, keepB hbb hb2⟩
  · have e : Rp.both n d m c = 8 := by unfold Rp.both; rw [if_neg h']
    rw [e]; rw [h] at A; have A' := Lib.hid A; clear A h h' e B
    go_enter Tryz.func103, Tryz.ntmps103
    (go_wp2_with fail); refine (A'.out _).mono ?_; rintro e w1 ⟨rfl, hb1⟩; have hbb : Below w.heap.size w w1 := keepB ((((Below.refl _ _).alloc (Nat.le_refl _) _).alloc (by simp) _)) hb1; clear hb1
    go_wp2
    go_ret
    exact ⟨rfl, hbb⟩

set_option maxHeartbeats 1000000 in
theorem opposite_any (n d : Int) (w : World) (n0 : -1000000000000000000 ≤ n) (n1 : n ≤ 1000000000000000000) :
    Calls Tryz.prog 115 #[.agg #[.int .i64 n, .int .i64 d]] w fun e w' => e = .returned (.agg #[.int .i64 (-n), .int .i64 d]) ∧ Below w.heap.size w w' := by
  go_enter Tryz.func115, Tryz.ntmps115
  go_wp2
  exact bodyPost_ret (v := .agg #[.int .i64 (-n), .int .i64 d]) (by simp [results, Tryz.results115, go_sem]) rfl ⟨rfl, ((Below.refl _ _).alloc (Nat.le_refl _) _).alloc (by simp) _⟩

set_option maxHeartbeats 1000000 in
theorem inverse_any (n d : Int) (w : World) (n0 : -1000000000000000000 ≤ n) (n1 : n ≤ 1000000000000000000) (d0 : -1000000000000000000 ≤ d) (d1 : d ≤ 1000000000000000000) :
    Calls Tryz.prog 105 #[.agg #[.int .i64 n, .int .i64 d]] w fun e w' => e = .returned (.agg #[.int .i64 (if n < 0 then -d else d), .int .i64 (if n < 0 then -n else n)]) ∧ Below w.heap.size w w' := by
  by_cases h : n < 0
  · simp only [if_pos h]
    go_enter Tryz.func105, Tryz.ntmps105
    go_wp2
    exact bodyPost_ret (v := .agg #[.int .i64 (-d), .int .i64 (-n)]) (by simp [results, Tryz.results105, go_sem]) rfl ⟨rfl, ((Below.refl _ _).alloc (Nat.le_refl _) _).alloc (by simp) _⟩
  · simp only [if_neg h]
    go_enter Tryz.func105, Tryz.ntmps105
    go_wp2
    exact bodyPost_ret (v := .agg #[.int .i64 d, .int .i64 n]) (by simp [results, Tryz.results105, go_sem]) rfl ⟨rfl, ((Below.refl _ _).alloc (Nat.le_refl _) _).alloc (by simp) _⟩
end Go.Proofs.YtmfnlapoefihkaaGreat
namespace Go.Proofs.YtmfnlapoefihkaaGreat
open Go.RowKit
end Go.Proofs.YtmfnlapoefihkaaGreat
namespace Go.Proofs.YtmfnlapoefihkaaGreat
open Go.RowKit
end Go.Proofs.YtmfnlapoefihkaaGreat

