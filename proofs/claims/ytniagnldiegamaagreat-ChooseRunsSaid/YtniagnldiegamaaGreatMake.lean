/- Contracts of Make: package ratio's, and the reference's. -/
import Derived.Test.YtniagnldiegamaaGreatGe
namespace Go.Proofs.YtniagnldiegamaaGreat
open Go.RowKit

/-- The ratio of n / d, as it is reckoned. -/
theorem make_parts (n d : Int) (h : d ≠ 0) :
    (Rp.q n d).num = sg (ngB n d) ((n.natAbs : Int) / ((n.natAbs.gcd d.natAbs : Nat) : Int)) ∧ ((Rp.q n d).den : Int) = (d.natAbs : Int) / ((n.natAbs.gcd d.natAbs : Nat) : Int) ∧
    1 ≤ n.natAbs.gcd d.natAbs ∧ n.natAbs.gcd d.natAbs ≤ d.natAbs := by
  have g1 : 0 < n.natAbs.gcd d.natAbs := Nat.gcd_pos_of_pos_right _ (by omega); have gn : ((n.natAbs.gcd d.natAbs : Nat) : Int) ∣ n := Int.ofNat_dvd_left.2 (Nat.gcd_dvd_left ..)
  have gi : Int.gcd d n = n.natAbs.gcd d.natAbs := by rw [Int.gcd_comm]; rfl
  refine ⟨?_, ?_, g1, Nat.le_of_dvd (by omega) (Nat.gcd_dvd_right ..)⟩
  · unfold Rp.q
    rw [Rat.num_divInt, gi]
    unfold sg ngB
    by_cases hd : d < 0
    · rw [Int.sign_eq_neg_one_of_neg hd, Int.neg_one_mul]
      by_cases hn : n < 0
      · simp [hn, hd]
        rw [show ((n.natAbs : Nat) : Int) = -n by omega]
      · simp [hn, hd]
        rw [show ((n.natAbs : Nat) : Int) = n by omega, Int.neg_ediv_of_dvd gn]
    · rw [Int.sign_eq_one_of_pos (by omega), Int.one_mul]
      by_cases hn : n < 0
      · simp [hn, hd]
        rw [show ((n.natAbs : Nat) : Int) = -n by omega, Int.neg_ediv_of_dvd gn, Int.neg_neg]
      · simp [hn, hd]
        rw [show ((n.natAbs : Nat) : Int) = n by omega]
  · unfold Rp.q
    rw [Rat.den_divInt, if_neg h, gi]
    simp

set_option maxHeartbeats 2000000 in
theorem Make_core (n d A1 D1 : Int) (G : Nat) (n0 : -9223372036854775808 ≤ n) (n1 : n ≤ 9223372036854775807) (d0 : -9223372036854775808 ≤ d) (d1 : d ≤ 9223372036854775807)
    (hz : d ≠ 0) (hG : n.natAbs.gcd d.natAbs = G) (g0 : 1 ≤ (G : Int)) (g1 : (G : Int) < 18446744073709551616) (e1 : (n.natAbs : Int) / (G : Int) = A1) (e2 : (d.natAbs : Int) / (G : Int) = D1)
    (A0 : 0 ≤ A1) (AU : A1 ≤ 9223372036854775808) (D0 : 0 ≤ D1) (DU : D1 ≤ 9223372036854775808) (w : World) :
    Calls Tryz.prog 105 #[.int .i64 n, .int .i64 d] w fun e w' => e = .returned (.tuple #[.agg #[.int .i64 (Rp.low (sg (ngB n d) A1) D1).1, .int .i64 (Rp.low (sg (ngB n d) A1) D1).2.1], .int .i64 (Rp.low (sg (ngB n d) A1) D1).2.2]) ∧ Below w.heap.size w w' := by
  have w1 : IntKind.u64.wrap ((n.natAbs : Int) / (G : Int)) = A1 := by rw [e1]; exact IntWalk.u64_in _ (by omega)
  have w2 : IntKind.u64.wrap ((d.natAbs : Int) / (G : Int)) = D1 := by rw [e2]; exact IntWalk.u64_in _ (by omega)
  have nG : ¬ G = 0 := by omega
  have nG' : ¬ (G : Int) = 0 := by omega
  have hb : (d == 0) = false := by rw [beq_eq_false_iff_ne]; exact hz
  have cl := fun w => lowest_any (ngB n d) A1 D1 A0 (by omega) D0 (by omega) w
  simp only [show A1 / 18446744073709551616 = 0 by omega, show A1 % 18446744073709551616 = A1 by omega, show D1 / 18446744073709551616 = 0 by omega, show D1 % 18446744073709551616 = D1 by omega] at cl
  have hs : (!(decide (n < 0) == decide (d < 0))) = ngB n d := rfl
  generalize ngB n d = sN at *
  have CL := Lib.hid cl; clear cl hz e1 e2
  go_enter Tryz.func105, Tryz.ntmps105
  go_wp2_with (first
    | (go_at_call 126; refine (magnitude_any _ (by omega) (by omega) _).mono ?_; rintro e w' ⟨rfl, rfl⟩)
    | (go_at_call 127; refine (gcd_any _ _ (by omega) (by omega) _).mono ?_; rintro e w' ⟨rfl, nd, rfl⟩))
  try simp only [hG]
  clear hG; refine at_world (fun v => Below w.heap.size w v ∧ v.cell? ⟨w.heap.size, 0, none⟩ = some (.int .i64 0) ∧ v.cell? ⟨w.heap.size, 1, none⟩ = some (.int .i64 0) ∧ v.frozen? ⟨w.heap.size, 0, none⟩ = false ∧ v.frozen? ⟨w.heap.size, 1, none⟩ = false) ⟨(below_drewN ((Below.refl _ _).alloc (Nat.le_refl _) _) _), (by go_simp), (by go_simp), (by go_simp), (by go_simp)⟩ (fun V hS => ?_); obtain ⟨hbb, z0, z1, fz0, fz1⟩ := hS; have hsz := lt_of_cell z0
  go_region_held3 (fun v => Below w.heap.size w v ∧ v.cell? ⟨w.heap.size, 0, none⟩ = some (vat v (w.heap.size) 0) ∧ v.cell? ⟨w.heap.size, 1, none⟩ = some (vat v (w.heap.size) 1) ∧ v.frozen? ⟨w.heap.size, 0, none⟩ = false ∧ v.frozen? ⟨w.heap.size, 1, none⟩ = false)
    (first | (exact ⟨hbb.drew, vat_of (z0), vat_of (z1), fz0, fz1⟩) | (obtain ⟨k0, kz0, kz1, kfz0, kfz1⟩ := ‹Below w.heap.size w _ ∧ _›; exact ⟨keepB k0 hb3, vat_of (keepC hb3 kz0), vat_of (keepC hb3 kz1), keepF hb3 kz0 kfz0, keepF hb3 kz1 kfz1⟩) | (obtain ⟨k0, kz0, kz1, kfz0, kfz1⟩ := ‹Below w.heap.size w _ ∧ _›; exact ⟨below_set (below_set (k0) (by omega) _) (by omega) _, vat_set (vat_set (kz0) _ _) _ _, vat_set (vat_set (kz1) _ _) _ _, froz_set (froz_set (kfz0) _ _) _ _, froz_set (froz_set (kfz1) _ _) _ _⟩))
    (first
      | (go_at_call 128; refine (CL.out _).mono ?_; rintro e w3 ⟨rfl, hb3⟩))
  go_wp2
  obtain ⟨k0', k1', k2', _, _⟩ := ‹Below w.heap.size w _ ∧ _›; have r0 := res_far (by simp) k1'; have r1 := res_last k2'; exact bodyPost_ret (v := .tuple #[.agg #[.int .i64 (Rp.low (sg sN A1) D1).1, .int .i64 (Rp.low (sg sN A1) D1).2.1], .int .i64 (Rp.low (sg sN A1) D1).2.2]) (by simp [results, Tryz.results105, go_sem, r0, r1]) rfl ⟨rfl, k0'⟩

theorem Make_any (n d : Int) (n0 : -9223372036854775808 ≤ n) (n1 : n ≤ 9223372036854775807) (d0 : -9223372036854775808 ≤ d) (d1 : d ≤ 9223372036854775807) (w : World) :
    Calls Tryz.prog 105 #[.int .i64 n, .int .i64 d] w fun e w' => e = .returned (.tuple #[.agg #[.int .i64 (Rp.makeS n d).1, .int .i64 (Rp.makeS n d).2.1], .int .i64 (Rp.makeS n d).2.2]) ∧ Below w.heap.size w w' := by
  by_cases hz : d = 0
  · have e : Rp.makeS n d = (0, 0, 18) := by unfold Rp.makeS; rw [if_pos hz]
    rw [e]
    have hb : (d == 0) = true := by rw [beq_iff_eq]; exact hz
    clear hz e
    go_enter Tryz.func105, Tryz.ntmps105
    go_wp2
    exact bodyPost_ret (v := .tuple #[.agg #[.int .i64 0, .int .i64 0], .int .i64 18]) (by simp [results, Tryz.results105, go_sem]) rfl ⟨rfl, (Below.refl _ _).alloc (Nat.le_refl _) _⟩
  · obtain ⟨p1, p2, p3, p4⟩ := make_parts n d hz
    have e : Rp.makeS n d = Rp.low (sg (ngB n d) ((n.natAbs : Int) / ((n.natAbs.gcd d.natAbs : Nat) : Int))) ((d.natAbs : Int) / ((n.natAbs.gcd d.natAbs : Nat) : Int)) := by
      unfold Rp.makeS Rp.ofQ; rw [if_neg hz, p1, p2]
    rw [e]; have a1 : (n.natAbs : Int) / ((n.natAbs.gcd d.natAbs : Nat) : Int) ≤ n.natAbs := Int.ediv_le_self _ (by omega); have a2 : (d.natAbs : Int) / ((n.natAbs.gcd d.natAbs : Nat) : Int) ≤ d.natAbs := Int.ediv_le_self _ (by omega); exact Make_core n d _ _ _ n0 n1 d0 d1 hz rfl (by omega) (by omega) rfl rfl (Int.ediv_nonneg (by omega) (by omega)) (by omega) (Int.ediv_nonneg (by omega) (by omega)) (by omega) w

set_option maxHeartbeats 2000000 in
theorem rMake_core (n d A1 D1 : Int) (G : Nat) (n0 : -9223372036854775808 ≤ n) (n1 : n ≤ 9223372036854775807) (d0 : -9223372036854775808 ≤ d) (d1 : d ≤ 9223372036854775807)
    (hz : d ≠ 0) (hG : n.natAbs.gcd d.natAbs = G) (g0 : 1 ≤ (G : Int)) (g1 : (G : Int) < 18446744073709551616) (e1 : (n.natAbs : Int) / (G : Int) = A1) (e2 : (d.natAbs : Int) / (G : Int) = D1)
    (A0 : 0 ≤ A1) (AU : A1 ≤ 9223372036854775808) (D0 : 0 ≤ D1) (DU : D1 ≤ 9223372036854775808) (w : World) :
    Calls Tryz.prog 80 #[.int .i64 n, .int .i64 d] w fun e w' => e = .returned (.tuple #[.agg #[.int .i64 (Rp.low (sg (ngB n d) A1) D1).1, .int .i64 (Rp.low (sg (ngB n d) A1) D1).2.1], .int .i64 (Rp.low (sg (ngB n d) A1) D1).2.2]) ∧ Below w.heap.size w w' := by
  have w1 : IntKind.u64.wrap ((n.natAbs : Int) / (G : Int)) = A1 := by rw [e1]; exact IntWalk.u64_in _ (by omega)
  have w2 : IntKind.u64.wrap ((d.natAbs : Int) / (G : Int)) = D1 := by rw [e2]; exact IntWalk.u64_in _ (by omega)
  have nG : ¬ G = 0 := by omega
  have nG' : ¬ (G : Int) = 0 := by omega
  have hb : (d == 0) = false := by rw [beq_eq_false_iff_ne]; exact hz
  have cl := fun w => made_any (ngB n d) A1 D1 A0 (by omega) D0 (by omega) w
  simp only [show A1 / 18446744073709551616 = 0 by omega, show A1 % 18446744073709551616 = A1 by omega, show D1 / 18446744073709551616 = 0 by omega, show D1 % 18446744073709551616 = D1 by omega] at cl
  have hs : (!(decide (n < 0) == decide (d < 0))) = ngB n d := rfl
  generalize ngB n d = sN at *
  have CL := Lib.hid cl; clear cl hz e1 e2
  go_enter Tryz.func80, Tryz.ntmps80
  go_wp2_with (first
    | (go_at_call 83; refine (rabs_any _ (by omega) (by omega) _).mono ?_; rintro e w' ⟨rfl, rfl⟩)
    | (go_at_call 109; refine (rgcd_any _ _ (by omega) (by omega) _).mono ?_; rintro e w' ⟨rfl, nd, rfl⟩))
  try simp only [hG]
  clear hG; refine at_world (fun v => Below w.heap.size w v ∧ v.cell? ⟨w.heap.size, 0, none⟩ = some (.int .i64 0) ∧ v.cell? ⟨w.heap.size, 1, none⟩ = some (.int .i64 0) ∧ v.frozen? ⟨w.heap.size, 0, none⟩ = false ∧ v.frozen? ⟨w.heap.size, 1, none⟩ = false) ⟨(below_drewN ((Below.refl _ _).alloc (Nat.le_refl _) _) _), (by go_simp), (by go_simp), (by go_simp), (by go_simp)⟩ (fun V hS => ?_); obtain ⟨hbb, z0, z1, fz0, fz1⟩ := hS; have hsz := lt_of_cell z0
  go_region_held3 (fun v => Below w.heap.size w v ∧ v.cell? ⟨w.heap.size, 0, none⟩ = some (vat v (w.heap.size) 0) ∧ v.cell? ⟨w.heap.size, 1, none⟩ = some (vat v (w.heap.size) 1) ∧ v.frozen? ⟨w.heap.size, 0, none⟩ = false ∧ v.frozen? ⟨w.heap.size, 1, none⟩ = false)
    (first | (exact ⟨hbb.drew, vat_of (z0), vat_of (z1), fz0, fz1⟩) | (obtain ⟨k0, kz0, kz1, kfz0, kfz1⟩ := ‹Below w.heap.size w _ ∧ _›; exact ⟨keepB k0 hb3, vat_of (keepC hb3 kz0), vat_of (keepC hb3 kz1), keepF hb3 kz0 kfz0, keepF hb3 kz1 kfz1⟩) | (obtain ⟨k0, kz0, kz1, kfz0, kfz1⟩ := ‹Below w.heap.size w _ ∧ _›; exact ⟨below_set (below_set (k0) (by omega) _) (by omega) _, vat_set (vat_set (kz0) _ _) _ _, vat_set (vat_set (kz1) _ _) _ _, froz_set (froz_set (kfz0) _ _) _ _, froz_set (froz_set (kfz1) _ _) _ _⟩))
    (first
      | (go_at_call 110; refine (CL.out _).mono ?_; rintro e w3 ⟨rfl, hb3⟩))
  go_wp2
  obtain ⟨k0', k1', k2', _, _⟩ := ‹Below w.heap.size w _ ∧ _›; have r0 := res_far (by simp) k1'; have r1 := res_last k2'; exact bodyPost_ret (v := .tuple #[.agg #[.int .i64 (Rp.low (sg sN A1) D1).1, .int .i64 (Rp.low (sg sN A1) D1).2.1], .int .i64 (Rp.low (sg sN A1) D1).2.2]) (by simp [results, Tryz.results80, go_sem, r0, r1]) rfl ⟨rfl, k0'⟩

theorem rMake_any (n d : Int) (n0 : -9223372036854775808 ≤ n) (n1 : n ≤ 9223372036854775807) (d0 : -9223372036854775808 ≤ d) (d1 : d ≤ 9223372036854775807) (w : World) :
    Calls Tryz.prog 80 #[.int .i64 n, .int .i64 d] w fun e w' => e = .returned (.tuple #[.agg #[.int .i64 (Rp.makeS n d).1, .int .i64 (Rp.makeS n d).2.1], .int .i64 (Rp.makeS n d).2.2]) ∧ Below w.heap.size w w' := by
  by_cases hz : d = 0
  · have e : Rp.makeS n d = (0, 0, 18) := by unfold Rp.makeS; rw [if_pos hz]
    rw [e]
    have hb : (d == 0) = true := by rw [beq_iff_eq]; exact hz
    clear hz e
    go_enter Tryz.func80, Tryz.ntmps80
    go_wp2
    exact bodyPost_ret (v := .tuple #[.agg #[.int .i64 0, .int .i64 0], .int .i64 18]) (by simp [results, Tryz.results80, go_sem]) rfl ⟨rfl, (Below.refl _ _).alloc (Nat.le_refl _) _⟩
  · obtain ⟨p1, p2, p3, p4⟩ := make_parts n d hz
    have e : Rp.makeS n d = Rp.low (sg (ngB n d) ((n.natAbs : Int) / ((n.natAbs.gcd d.natAbs : Nat) : Int))) ((d.natAbs : Int) / ((n.natAbs.gcd d.natAbs : Nat) : Int)) := by
      unfold Rp.makeS Rp.ofQ; rw [if_neg hz, p1, p2]
    rw [e]; have a1 : (n.natAbs : Int) / ((n.natAbs.gcd d.natAbs : Nat) : Int) ≤ n.natAbs := Int.ediv_le_self _ (by omega); have a2 : (d.natAbs : Int) / ((n.natAbs.gcd d.natAbs : Nat) : Int) ≤ d.natAbs := Int.ediv_le_self _ (by omega); exact rMake_core n d _ _ _ n0 n1 d0 d1 hz rfl (by omega) (by omega) rfl rfl (Int.ediv_nonneg (by omega) (by omega)) (by omega) (Int.ediv_nonneg (by omega) (by omega)) (by omega) w
end Go.Proofs.YtniagnldiegamaaGreat

