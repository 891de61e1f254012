/- Contract of package ratio's add: the sum of two valid ratios. Contracts of package ratio's Add, Sub and Cmp, for all arguments. -/
import Derived.Test.YtncmffhoodfhjaaYj
namespace Go.Proofs.Ytncmffhoodfhjaa
open Go.RowKit

set_option maxHeartbeats 2000000 in
set_option maxRecDepth 100000 in
theorem add_core (n d m c A B N : Int) (G K : Nat) (n0 : -1000000000000000000 ≤ n) (n1 : n ≤ 1000000000000000000) (d0 : 1 ≤ d) (d1 : d ≤ 1000000000000000000)
    (m0 : -1000000000000000000 ≤ m) (m1 : m ≤ 1000000000000000000) (c0 : 1 ≤ c) (c1 : c ≤ 1000000000000000000)
    (hG : d.natAbs.gcd c.natAbs = G) (g0 : 1 ≤ (G : Int)) (g1 : (G : Int) ≤ 1000000000000000000) (hA : d / (G : Int) = A) (hB : c / (G : Int) = B)
    (A0 : 0 ≤ A) (A1 : A ≤ 1000000000000000000) (B0 : 0 ≤ B) (B1 : B ≤ 1000000000000000000)
    (hN : N = n * B + m * A) (hK : K = G.gcd (N.natAbs % G)) (hKN : (K : Int) ∣ N) (k0 : 1 ≤ (K : Int)) (k1 : (K : Int) ≤ 1000000000000000000) (w : World) :
    Calls Try.prog 82 #[.agg #[.int .i64 n, .int .i64 d], .agg #[.int .i64 m, .int .i64 c]] w fun e w' =>
      e = .returned (.tuple #[.agg #[.int .i64 (Rp.low (N / (K : Int)) (A * (c / (K : Int)))).1, .int .i64 (Rp.low (N / (K : Int)) (A * (c / (K : Int)))).2.1], .int .i64 (Rp.low (N / (K : Int)) (A * (c / (K : Int)))).2.2]) ∧ Below w.heap.size w w' := by
  have HN := Lib.hid hN
  have HK := Lib.hid hK
  have HD := Lib.hid hKN
  clear hN hK hKN
  go_enter Try.func82, Try.ntmps82
  go_wp2_with fail
  go_quiet ((first
    | (go_at_call 85; exact quietL (magnitude_any _ (by omega) (by omega) _))
    | (go_at_call 86; exact Calls.quiet_of (gcd_any _ _ (by omega) (by omega) _))))
  go_wp2_with fail
  go_quiet (fail)
  go_wp2_with fail
  simp only [hG, hA, hB]
  clear hG hA hB
  refine at_world (fun v => Below w.heap.size w v ∧ v.cell? ⟨w.heap.size, 0, none⟩ = some (.int .i64 n) ∧ v.cell? ⟨w.heap.size + 1, 0, none⟩ = some (.int .i64 m) ∧ v.cell? ⟨w.heap.size + 1, 1, none⟩ = some (.int .i64 c) ∧ v.cell? ⟨w.heap.size + 1 + 1, 0, none⟩ = some (.int .i64 0) ∧ v.cell? ⟨w.heap.size + 1 + 1, 1, none⟩ = some (.int .i64 0) ∧ v.frozen? ⟨w.heap.size + 1 + 1, 0, none⟩ = false ∧ v.frozen? ⟨w.heap.size + 1 + 1, 1, none⟩ = false) ⟨(below_drewN (below_drewN ((((Below.refl _ _).alloc (Nat.le_refl _) _).alloc (by simp) _).alloc (by simp; omega) _) _) _), (by go_simp), (by go_simp), (by go_simp), (by go_simp), (by go_simp), (by go_simp), (by go_simp)⟩ (fun V hS => ?_)
  obtain ⟨hbb, an, bn, bd, z0, z1, fz0, fz1⟩ := hS
  have hsz := lt_of_cell z0
  have pn := fun w => product_any n B (by omega) (by omega) (by omega) (by omega) w
  have pm := fun w => product_any m A (by omega) (by omega) (by omega) (by omega) w
  have x0 : 0 ≤ (n.natAbs : Int) * B.natAbs := Int.mul_nonneg (by omega) (by omega)
  have x1 : (n.natAbs : Int) * B.natAbs ≤ 1000000000000000000 * 1000000000000000000 := Int.mul_le_mul (by omega) (by omega) (by omega) (by omega)
  have y0 : 0 ≤ (m.natAbs : Int) * A.natAbs := Int.mul_nonneg (by omega) (by omega)
  have y1 : (m.natAbs : Int) * A.natAbs ≤ 1000000000000000000 * 1000000000000000000 := Int.mul_le_mul (by omega) (by omega) (by omega) (by omega)
  have hsp := sg_product n B
  have hsq := sg_product m A
  generalize (n.natAbs : Int) * B.natAbs = X at *
  generalize (m.natAbs : Int) * A.natAbs = Y at *
  generalize ngB n B = sX at *
  generalize ngB m A = sY at *
  have pp := fun w => plus_any sX sY (X / 18446744073709551616) (X % 18446744073709551616) (Y / 18446744073709551616) (Y % 18446744073709551616) (by omega) (by omega) (by omega) (by omega) (by omega) (by omega) (by omega) (by omega) (by rw [W_split, W_split]; omega) w
  have hss := sg_plus sX sY X Y
  have hbd := plM_bd sX sY X Y x0 y0
  rw [hsp, hsq] at hss
  simp only [W_split] at pp
  generalize plS sX X sY Y = sN at *
  generalize plM sX X sY Y = M at *
  obtain ⟨M0, M1⟩ := hbd
  have HS := Lib.hid hss
  clear hss hsp hsq
  go_cut [9] (fun x v => ∃ p : Nat, x = .pointer (some ⟨p, 0, none⟩) ∧ Below w.heap.size w v ∧ v.cell? ⟨w.heap.size + 1, 1, none⟩ = some (.int .i64 c) ∧ v.cell? ⟨p, 0, none⟩ = some (.bool sN) ∧ v.cell? ⟨p, 1, none⟩ = some (.int .u64 (M / 18446744073709551616)) ∧ v.cell? ⟨p, 2, none⟩ = some (.int .u64 (M % 18446744073709551616)) ∧ v.cell? ⟨w.heap.size + 1 + 1, 0, none⟩ = some (.int .i64 0) ∧ v.cell? ⟨w.heap.size + 1 + 1, 1, none⟩ = some (.int .i64 0) ∧ v.frozen? ⟨w.heap.size + 1 + 1, 0, none⟩ = false ∧ v.frozen? ⟨w.heap.size + 1 + 1, 1, none⟩ = false)
  case first =>
    go_region_held3 (fun v => Below w.heap.size w v ∧ v.cell? ⟨w.heap.size, 0, none⟩ = some (.int .i64 n) ∧ v.cell? ⟨w.heap.size + 1, 0, none⟩ = some (.int .i64 m) ∧ v.cell? ⟨w.heap.size + 1, 1, none⟩ = some (.int .i64 c) ∧ v.cell? ⟨w.heap.size + 1 + 1, 0, none⟩ = some (.int .i64 0) ∧ v.cell? ⟨w.heap.size + 1 + 1, 1, none⟩ = some (.int .i64 0) ∧ v.frozen? ⟨w.heap.size + 1 + 1, 0, none⟩ = false ∧ v.frozen? ⟨w.heap.size + 1 + 1, 1, none⟩ = false)
      (first | (exact ⟨hbb.drew, an, bn, bd, z0, z1, fz0, fz1⟩) | (obtain ⟨k0, kan, kbn, kbd, kz0, kz1, kfz0, kfz1⟩ := ‹Below w.heap.size w _ ∧ _›; exact ⟨keepB k0 hb3, keepC hb3 kan, keepC hb3 kbn, keepC hb3 kbd, keepC hb3 kz0, keepC hb3 kz1, keepF hb3 kz0 kfz0, keepF hb3 kz1 kfz1⟩) | (exact ⟨j0.out.alloc j0.out.size _, cell_alloc jan.out _, cell_alloc jbn.out _, cell_alloc jbd.out _, cell_alloc jz0.out _, cell_alloc jz1.out _, froz_alloc jz0.out jfz0.out _, froz_alloc jz1.out jfz1.out _⟩) | (obtain ⟨k0, kan, kbn, kbd, kz0, kz1, kfz0, kfz1⟩ := ‹Below w.heap.size w _ ∧ _›; exact ⟨k0.alloc k0.size _, cell_alloc kan _, cell_alloc kbn _, cell_alloc kbd _, cell_alloc kz0 _, cell_alloc kz1 _, froz_alloc kz0 kfz0 _, froz_alloc kz1 kfz1 _⟩) | (exact ⟨below_set (below_set (below_set (j0.out) (by omega) _) (by omega) _) (by omega) _, cell_far (cell_far (cell_far (jan.out) (by omega) _) (by omega) _) (by omega) _, cell_far (cell_far (cell_far (jbn.out) (by omega) _) (by omega) _) (by omega) _, cell_far (cell_far (cell_far (jbd.out) (by omega) _) (by omega) _) (by omega) _, cell_far (cell_far (cell_far (jz0.out) (by omega) _) (by omega) _) (by omega) _, cell_far (cell_far (cell_far (jz1.out) (by omega) _) (by omega) _) (by omega) _, froz_set (froz_set (froz_set (jfz0.out) _ _) _ _) _ _, froz_set (froz_set (froz_set (jfz1.out) _ _) _ _) _ _⟩))
      (first
        | (go_at_call_of 94 (Value.int .i64 n); refine (pn _).mono ?_; rintro e w3 ⟨rfl, hb3⟩; (first | (replace fnb0 := keepF hb3 nb0 fnb0; replace fnb1 := keepF hb3 nb1 fnb1; replace fnb2 := keepF hb3 nb2 fnb2; replace nb0 := keepC hb3 nb0; replace nb1 := keepC hb3 nb1; replace nb2 := keepC hb3 nb2) | (obtain ⟨k0, kan, kbn, kbd, kz0, kz1, kfz0, kfz1⟩ := ‹Below w.heap.size w _ ∧ _›; have nb0 := keepC hb3 (new0 _ _ _ _ _); have nb1 := keepC hb3 (new1 _ _ _ _ _); have nb2 := keepC hb3 (new2 _ _ _ _ _); have fnb0 := keepF hb3 (new0 _ _ _ _ _) (newf _ _ _ _ _ 0); have fnb1 := keepF hb3 (new1 _ _ _ _ _) (newf _ _ _ _ _ 1); have fnb2 := keepF hb3 (new2 _ _ _ _ _) (newf _ _ _ _ _ 2); have hu := lt_alloc' kz0 (new0 _ _ _ _ _) (by simp); clear k0 kan kbn kbd kz0 kz1 kfz0 kfz1) | skip))
        | (go_at_call_of 94 (Value.int .i64 m); refine (pm _).mono ?_; rintro e w3 ⟨rfl, hb3⟩; (first | (replace fnb0 := keepF hb3 nb0 fnb0; replace fnb1 := keepF hb3 nb1 fnb1; replace fnb2 := keepF hb3 nb2 fnb2; replace nb0 := keepC hb3 nb0; replace nb1 := keepC hb3 nb1; replace nb2 := keepC hb3 nb2) | (obtain ⟨k0, kan, kbn, kbd, kz0, kz1, kfz0, kfz1⟩ := ‹Below w.heap.size w _ ∧ _›; have nb0 := keepC hb3 (new0 _ _ _ _ _); have nb1 := keepC hb3 (new1 _ _ _ _ _); have nb2 := keepC hb3 (new2 _ _ _ _ _); have fnb0 := keepF hb3 (new0 _ _ _ _ _) (newf _ _ _ _ _ 0); have fnb1 := keepF hb3 (new1 _ _ _ _ _) (newf _ _ _ _ _ 1); have fnb2 := keepF hb3 (new2 _ _ _ _ _) (newf _ _ _ _ _ 2); have hu := lt_alloc' kz0 (new0 _ _ _ _ _) (by simp); clear k0 kan kbn kbd kz0 kz1 kfz0 kfz1) | skip))
        | (go_at_call 93; refine (pp _).mono ?_; rintro e w3 ⟨rfl, hb3⟩; (first | (replace fnb0 := keepF hb3 nb0 fnb0; replace fnb1 := keepF hb3 nb1 fnb1; replace fnb2 := keepF hb3 nb2 fnb2; replace nb0 := keepC hb3 nb0; replace nb1 := keepC hb3 nb1; replace nb2 := keepC hb3 nb2) | (obtain ⟨k0, kan, kbn, kbd, kz0, kz1, kfz0, kfz1⟩ := ‹Below w.heap.size w _ ∧ _›; have nb0 := keepC hb3 (new0 _ _ _ _ _); have nb1 := keepC hb3 (new1 _ _ _ _ _); have nb2 := keepC hb3 (new2 _ _ _ _ _); have fnb0 := keepF hb3 (new0 _ _ _ _ _) (newf _ _ _ _ _ 0); have fnb1 := keepF hb3 (new1 _ _ _ _ _) (newf _ _ _ _ _ 1); have fnb2 := keepF hb3 (new2 _ _ _ _ _) (newf _ _ _ _ _ 2); have hu := lt_alloc' kz0 (new0 _ _ _ _ _) (by simp); clear k0 kan kbn kbd kz0 kz1 kfz0 kfz1) | skip); obtain ⟨k0, kan, kbn, kbd, kz0, kz1, kfz0, kfz1⟩ := ‹Below w.heap.size w _ ∧ _›; have j0 := Lib.hid (keepB k0 hb3); have jan := Lib.hid (keepC hb3 kan); have jbn := Lib.hid (keepC hb3 kbn); have jbd := Lib.hid (keepC hb3 kbd); have jz0 := Lib.hid (keepC hb3 kz0); have jz1 := Lib.hid (keepC hb3 kz1); have jfz0 := Lib.hid (keepF hb3 kz0 kfz0); have jfz1 := Lib.hid (keepF hb3 kz1 kfz1); clear k0 kan kbn kbd kz0 kz1 kfz0 kfz1))
    all_goals
      go_wp2_with fail
      go_meet
      refine ⟨_, rfl, ?_, ?_, ?_, ?_, ?_, ?_, ?_, ?_, ?_⟩
      · obtain ⟨k0, kan, kbn, kbd, kz0, kz1, kfz0, kfz1⟩ := ‹Below w.heap.size w _ ∧ _›; exact k0
      · obtain ⟨k0, kan, kbn, kbd, kz0, kz1, kfz0, kfz1⟩ := ‹Below w.heap.size w _ ∧ _›; exact kbd
      · go_simp
      · go_simp
      · go_simp
      · obtain ⟨k0, kan, kbn, kbd, kz0, kz1, kfz0, kfz1⟩ := ‹Below w.heap.size w _ ∧ _›; exact kz0
      · obtain ⟨k0, kan, kbn, kbd, kz0, kz1, kfz0, kfz1⟩ := ‹Below w.heap.size w _ ∧ _›; exact kz1
      · obtain ⟨k0, kan, kbn, kbd, kz0, kz1, kfz0, kfz1⟩ := ‹Below w.heap.size w _ ∧ _›; exact kfz0
      · obtain ⟨k0, kan, kbn, kbd, kz0, kz1, kfz0, kfz1⟩ := ‹Below w.heap.size w _ ∧ _›; exact kfz1
  case rest =>
    clear an bn z0 z1 fz0 fz1 hbb hsz bd pn pm pp
    obtain ⟨p, rfl, hbb, bd, q0, q1, q2, z0, z1, fz0, fz1⟩ := hcut
    have rm := fun w => remainder_any sN (M / 18446744073709551616) (M % 18446744073709551616) G (by omega) (by omega) (by omega) (by omega) (by omega) (by omega) w
    simp only [W_split] at rm
    have RM := Lib.hid rm
    clear rm
    go_wp2_with fail
    refine (RM.out _).mono ?_
    rintro e w1 ⟨rfl, hb1⟩
    replace bd := keepC hb1 bd
    replace q0 := keepC hb1 q0
    replace q1 := keepC hb1 q1
    replace q2 := keepC hb1 q2
    replace fz0 := keepF hb1 z0 fz0
    replace z0 := keepC hb1 z0
    replace fz1 := keepF hb1 z1 fz1
    replace z1 := keepC hb1 z1
    replace hbb := keepB hbb hb1
    clear hb1
    have hpz := cells_apart z0 q0 (by simp)
    have hNM : sg sN M = N := HS.out.trans HN.out.symm
    have hMN : M = (N.natAbs : Int) := by rw [← hNM]; unfold sg; split <;> omega
    have eMG : ((N.natAbs % G : Nat) : Int) = M % (G : Int) := by rw [hMN]; simp
    have lMG : N.natAbs % G < 18446744073709551616 := Nat.lt_of_lt_of_le (Nat.mod_lt _ (by omega)) (by omega)
    have gg := fun w => gcd_any G (N.natAbs % G) (by omega) lMG w
    rw [← HK.out] at gg
    simp only [eMG] at gg
    have GG := Lib.hid gg
    have eL : N / (K : Int) = sg sN (M / (K : Int)) := by
      rw [← hNM]
      have hd : (K : Int) ∣ M := by rw [hMN]; exact Int.dvd_natAbs.2 HD.out
      unfold sg
      split
      · exact Int.neg_ediv_of_dvd hd
      · rfl
    have Q0 : 0 ≤ c / (K : Int) := Int.ediv_nonneg (by omega) (by omega)
    have Q1 : c / (K : Int) ≤ c := Int.ediv_le_self _ (by omega)
    have R0 : 0 ≤ A * (c / (K : Int)) := Int.mul_nonneg A0 Q0
    have R1 : A * (c / (K : Int)) ≤ 1000000000000000000 * 1000000000000000000 := Int.mul_le_mul A1 (by omega) Q0 (by omega)
    have M2 : 0 ≤ M / (K : Int) := Int.ediv_nonneg M0 (by omega)
    have M3 : M / (K : Int) ≤ M := Int.ediv_le_self _ M0
    have pd := fun w => product_any A (c / (K : Int)) (by omega) (by omega) (by omega) (by omega) w
    have en : ngB A (c / (K : Int)) = false := by unfold ngB; rw [decide_eq_false (by omega), decide_eq_false (by omega)]; rfl
    simp only [en, show (A.natAbs : Int) = A by omega, show ((c / (K : Int)).natAbs : Int) = c / (K : Int) by omega] at pd
    have PD := Lib.hid pd
    have ov := fun w => over_any sN (M / 18446744073709551616) (M % 18446744073709551616) K (by omega) (by omega) (by omega) (by omega) (by omega) (by omega) w
    simp only [W_split] at ov
    have OV := Lib.hid ov
    have lw := fun w => lowest_any sN (M / (K : Int)) (A * (c / (K : Int))) M2 (by omega) R0 (by omega) w
    rw [← eL] at lw
    have LW := Lib.hid lw
    clear gg pd ov lw eL hNM hMN eMG lMG HS HN HK HD en
    go_wp2_with fail
    refine (GG.out _).mono ?_
    rintro e w1' ⟨rfl, nd, rfl⟩
    go_wp2_with fail
    refine (PD.out _).mono ?_
    rintro e w2 ⟨rfl, hb2⟩
    replace bd := keepC hb2 bd
    replace q0 := keepC hb2 q0
    replace q1 := keepC hb2 q1
    replace q2 := keepC hb2 q2
    replace fz0 := keepF hb2 z0 fz0
    replace z0 := keepC hb2 z0
    replace fz1 := keepF hb2 z1 fz1
    replace z1 := keepC hb2 z1
    replace hbb := keepB (below_drewN hbb nd) hb2
    clear hb2
    go_wp2_with fail
    have hlt := lt_of_cell z0
    refine at_world (fun v => Below w.heap.size w v ∧ v.cell? ⟨p, 0, none⟩ = some (.bool sN) ∧ v.cell? ⟨p, 1, none⟩ = some (.int .u64 (M / 18446744073709551616)) ∧ v.cell? ⟨p, 2, none⟩ = some (.int .u64 (M % 18446744073709551616)) ∧ v.cell? ⟨w2.heap.size, 0, none⟩ = some (.bool false) ∧ v.cell? ⟨w2.heap.size, 1, none⟩ = some (.int .u64 (A * (c / (K : Int)) / 18446744073709551616)) ∧ v.cell? ⟨w2.heap.size, 2, none⟩ = some (.int .u64 (A * (c / (K : Int)) % 18446744073709551616)) ∧ v.cell? ⟨w.heap.size + 1 + 1, 0, none⟩ = some (.int .i64 0) ∧ v.cell? ⟨w.heap.size + 1 + 1, 1, none⟩ = some (.int .i64 0) ∧ v.frozen? ⟨w.heap.size + 1 + 1, 0, none⟩ = false ∧ v.frozen? ⟨w.heap.size + 1 + 1, 1, none⟩ = false) ⟨hbb.alloc hbb.size _, cell_alloc q0 _, cell_alloc q1 _, cell_alloc q2 _, new0 _ _ _ _ _, new1 _ _ _ _ _, new2 _ _ _ _ _, cell_alloc z0 _, cell_alloc z1 _, froz_alloc z0 fz0 _, froz_alloc z1 fz1 _⟩ (fun V2 hS => ?_)
    obtain ⟨hbb, q0, q1, q2, e0, e1, e2, z0, z1, fz0, fz1⟩ := hS
    go_region_held3 (fun v => Below w.heap.size w v ∧ v.cell? ⟨p, 0, none⟩ = some (.bool sN) ∧ v.cell? ⟨p, 1, none⟩ = some (.int .u64 (M / 18446744073709551616)) ∧ v.cell? ⟨p, 2, none⟩ = some (.int .u64 (M % 18446744073709551616)) ∧ v.cell? ⟨w2.heap.size, 0, none⟩ = some (.bool false) ∧ v.cell? ⟨w2.heap.size, 1, none⟩ = some (.int .u64 (A * (c / (K : Int)) / 18446744073709551616)) ∧ v.cell? ⟨w2.heap.size, 2, none⟩ = some (.int .u64 (A * (c / (K : Int)) % 18446744073709551616)) ∧ v.cell? ⟨w.heap.size + 1 + 1, 0, none⟩ = some (vat v (w.heap.size + 1 + 1) 0) ∧ v.cell? ⟨w.heap.size + 1 + 1, 1, none⟩ = some (vat v (w.heap.size + 1 + 1) 1) ∧ v.frozen? ⟨w.heap.size + 1 + 1, 0, none⟩ = false ∧ v.frozen? ⟨w.heap.size + 1 + 1, 1, none⟩ = false)
      (first | (exact ⟨hbb.drew, q0, q1, q2, e0, e1, e2, vat_of z0, vat_of z1, fz0, fz1⟩) | (obtain ⟨k0, kq0, kq1, kq2, ke0, ke1, ke2, kz0, kz1, kfz0, kfz1⟩ := ‹Below w.heap.size w _ ∧ _›; exact ⟨keepB k0 hb3, keepC hb3 kq0, keepC hb3 kq1, keepC hb3 kq2, keepC hb3 ke0, keepC hb3 ke1, keepC hb3 ke2, vat_of (keepC hb3 kz0), vat_of (keepC hb3 kz1), keepF hb3 kz0 kfz0, keepF hb3 kz1 kfz1⟩) | (obtain ⟨k0, kq0, kq1, kq2, ke0, ke1, ke2, kz0, kz1, kfz0, kfz1⟩ := ‹Below w.heap.size w _ ∧ _›; exact ⟨below_set (below_set (k0) (by omega) _) (by omega) _, cell_far (cell_far (kq0) (by omega) _) (by omega) _, cell_far (cell_far (kq1) (by omega) _) (by omega) _, cell_far (cell_far (kq2) (by omega) _) (by omega) _, cell_far (cell_far (ke0) (by omega) _) (by omega) _, cell_far (cell_far (ke1) (by omega) _) (by omega) _, cell_far (cell_far (ke2) (by omega) _) (by omega) _, vat_set (vat_set (kz0) _ _) _ _, vat_set (vat_set (kz1) _ _) _ _, froz_set (froz_set (kfz0) _ _) _ _, froz_set (froz_set (kfz1) _ _) _ _⟩))
      (first
        | (go_at_call 96; refine (OV.out _).mono ?_; rintro e w3 ⟨rfl, hb3⟩)
        | (go_at_call 87; refine (LW.out _).mono ?_; rintro e w3 ⟨rfl, hb3⟩))
    go_wp2
    obtain ⟨k0', _, _, _, _, _, _, k1', k2', _, _⟩ := ‹Below w.heap.size w _ ∧ _›
    have r0 := res_far (by simp) k1'
    have r1 := res_last k2'
    exact bodyPost_ret (v := .tuple #[.agg #[.int .i64 (Rp.low (N / (K : Int)) (A * (c / (K : Int)))).1, .int .i64 (Rp.low (N / (K : Int)) (A * (c / (K : Int)))).2.1], .int .i64 (Rp.low (N / (K : Int)) (A * (c / (K : Int)))).2.2]) (by simp [results, Try.results82, go_sem, r0, r1]) rfl ⟨rfl, k0'⟩

theorem add_any (n d m c : Int) (h : Rp.Ok n d) (k : Rp.Ok m c) (w : World) :
    Calls Try.prog 82 #[.agg #[.int .i64 n, .int .i64 d], .agg #[.int .i64 m, .int .i64 c]] w fun e w' =>
      e = .returned (.tuple #[.agg #[.int .i64 (Rp.add n d m c).1, .int .i64 (Rp.add n d m c).2.1], .int .i64 (Rp.add n d m c).2.2]) ∧ Below w.heap.size w w' := by
  obtain ⟨h1, h2, h3, h4, h5⟩ := h
  obtain ⟨k1, k2, k3, k4, k5⟩ := k
  obtain ⟨p1, p2, p3, p4, p5, p6⟩ := Rp.add_parts ⟨h1, h2, h3, h4, h5⟩ ⟨k1, k2, k3, k4, k5⟩ (Nat.gcd d.natAbs c.natAbs) rfl _ rfl _ rfl
  have hgd : (Nat.gcd d.natAbs c.natAbs : Int) ≤ d := by
    have := Nat.gcd_le_left c.natAbs (m := d.natAbs) (by omega)
    omega
  generalize hG : Nat.gcd d.natAbs c.natAbs = G at *
  have A0 : 0 ≤ d / (G : Int) := Int.ediv_nonneg (by omega) (by omega)
  have A1 : d / (G : Int) ≤ d := Int.ediv_le_self _ (by omega)
  have B0 : 0 ≤ c / (G : Int) := Int.ediv_nonneg (by omega) (by omega)
  have B1 : c / (G : Int) ≤ c := Int.ediv_le_self _ (by omega)
  have c1 := add_core n d m c (d / (G : Int)) (c / (G : Int)) _ G _ h3 h4 h1 h2 k3 k4 k1 k2 hG (by omega) (by omega) rfl rfl A0 (by omega) B0 (by omega) rfl rfl p3 (by omega) (by omega) w
  have e : Rp.add n d m c = Rp.low ((n * (c / (G : Int)) + m * (d / (G : Int))) / ((G.gcd ((n * (c / (G : Int)) + m * (d / (G : Int))).natAbs % G) : Nat) : Int)) (d / (G : Int) * (c / ((G.gcd ((n * (c / (G : Int)) + m * (d / (G : Int))).natAbs % G) : Nat) : Int))) := by
    unfold Rp.add Rp.ofQ
    rw [p1, p2]
  rw [e]
  exact c1
end Go.Proofs.Ytncmffhoodfhjaa
namespace Go.Proofs.Ytncmffhoodfhjaa
open Go.RowKit

theorem both_cases (n d m c : Int) : (Rp.both n d m c = 0 ∧ Rp.Ok n d ∧ Rp.Ok m c) ∨ Rp.both n d m c = 8 := by
  unfold Rp.both Rp.chk
  by_cases h : Rp.Ok n d
  · by_cases k : Rp.Ok m c
    · left; rw [if_pos h, if_pos k]; exact ⟨rfl, h, k⟩
    · right; rw [if_pos h, if_neg k]
  · right; rw [if_neg h]

theorem Ok_neg {n d : Int} (h : Rp.Ok n d) : Rp.Ok (-n) d := by
  obtain ⟨h1, h2, h3, h4, h5⟩ := h
  exact ⟨h1, h2, by omega, by omega, by rw [Int.natAbs_neg]; exact h5⟩

theorem q_neg (n d : Int) : Rp.q (-n) d = -Rp.q n d := by unfold Rp.q; rw [Rat.neg_divInt]


set_option maxHeartbeats 1000000 in
theorem Sub_any (n d m c : Int) (w : World) (n0 : -9223372036854775808 ≤ n) (n1 : n ≤ 9223372036854775807) (d0 : -9223372036854775808 ≤ d) (d1 : d ≤ 9223372036854775807)
    (m0 : -9223372036854775808 ≤ m) (m1 : m ≤ 9223372036854775807) (c0 : -9223372036854775808 ≤ c) (c1 : c ≤ 9223372036854775807) :
    Calls Try.prog 67 #[.agg #[.int .i64 n, .int .i64 d], .agg #[.int .i64 m, .int .i64 c]] w fun e w' => e = .returned (.tuple #[.agg #[.int .i64 (Rp.subS n d m c).1, .int .i64 (Rp.subS n d m c).2.1], .int .i64 (Rp.subS n d m c).2.2]) ∧ Below w.heap.size w w' := by
  have cb := fun w => checkBoth_any n d m c w n0 n1 d0 d1 m0 m1 c0 c1
  rcases both_cases n d m c with ⟨h, hx, hy⟩ | h
  · have e : Rp.subS n d m c = Rp.add n d (-m) c := by unfold Rp.subS Rp.add; rw [if_pos h, q_neg, Rat.sub_eq_add_neg]
    rw [h] at cb
    have CB := Lib.hid cb
    have AD := Lib.hid (fun w => add_any n d (-m) c hx (Ok_neg hy) w)
    have OP := Lib.hid (fun w => opposite_any m c w hy.2.2.1 hy.2.2.2.1)
    clear cb h
    obtain ⟨o1, o2, o3, o4, _⟩ := hx
    obtain ⟨u1, u2, u3, u4, _⟩ := hy
    rw [e]
    clear e
    go_enter Try.func67, Try.ntmps67
    go_wp2_with fail
    refine (CB.out _).mono ?_
    rintro e w1 ⟨rfl, hb1⟩
    have x0 : w1.cell? ⟨w.heap.size, 0, none⟩ = some (.int .i64 n) := keepC hb1 (by go_simp)
    have x1 : w1.cell? ⟨w.heap.size, 1, none⟩ = some (.int .i64 d) := keepC hb1 (by go_simp)
    have y0 : w1.cell? ⟨w.heap.size + 1, 0, none⟩ = some (.int .i64 m) := keepC hb1 (by go_simp)
    have y1 : w1.cell? ⟨w.heap.size + 1, 1, none⟩ = some (.int .i64 c) := keepC hb1 (by go_simp)
    have z0 : w1.cell? ⟨w.heap.size + 1 + 1, 0, none⟩ = some (.int .i64 0) := keepC hb1 (by go_simp)
    have fz0 : w1.frozen? ⟨w.heap.size + 1 + 1, 0, none⟩ = false := keepF hb1 (v := .int .i64 0) (by go_simp) (by go_simp)
    have z1 : w1.cell? ⟨w.heap.size + 1 + 1, 1, none⟩ = some (.int .i64 0) := keepC hb1 (by go_simp)
    have fz1 : w1.frozen? ⟨w.heap.size + 1 + 1, 1, none⟩ = false := keepF hb1 (v := .int .i64 0) (by go_simp) (by go_simp)
    have hbb : Below w.heap.size w w1 := keepB ((((Below.refl _ _).alloc (Nat.le_refl _) _).alloc (by simp) _).alloc (by simp; omega) _) hb1
    clear hb1
    go_wp2_with fail
    have hsz := lt_of_cell z0
    go_region_held3 (fun v => Below w.heap.size w v ∧ v.cell? ⟨w.heap.size, 0, none⟩ = some (.int .i64 n) ∧ v.cell? ⟨w.heap.size, 1, none⟩ = some (.int .i64 d) ∧ v.cell? ⟨w.heap.size + 1, 0, none⟩ = some (.int .i64 m) ∧ v.cell? ⟨w.heap.size + 1, 1, none⟩ = some (.int .i64 c) ∧ v.cell? ⟨w.heap.size + 1 + 1, 0, none⟩ = some (vat v (w.heap.size + 1 + 1) 0) ∧ v.cell? ⟨w.heap.size + 1 + 1, 1, none⟩ = some (vat v (w.heap.size + 1 + 1) 1) ∧ v.frozen? ⟨w.heap.size + 1 + 1, 0, none⟩ = false ∧ v.frozen? ⟨w.heap.size + 1 + 1, 1, none⟩ = false)
      (first | (exact ⟨hbb.drew, x0, x1, y0, y1, vat_of (z0), vat_of (z1), fz0, fz1⟩) | (obtain ⟨k0, kx0, kx1, ky0, ky1, kz0, kz1, kfz0, kfz1⟩ := ‹Below w.heap.size w _ ∧ _›; exact ⟨keepB k0 hb3, keepC hb3 kx0, keepC hb3 kx1, keepC hb3 ky0, keepC hb3 ky1, vat_of (keepC hb3 kz0), vat_of (keepC hb3 kz1), keepF hb3 kz0 kfz0, keepF hb3 kz1 kfz1⟩) | (obtain ⟨k0, kx0, kx1, ky0, ky1, kz0, kz1, kfz0, kfz1⟩ := ‹Below w.heap.size w _ ∧ _›; exact ⟨below_set (below_set (k0) (by omega) _) (by omega) _, cell_far (cell_far (kx0) (by omega) _) (by omega) _, cell_far (cell_far (kx1) (by omega) _) (by omega) _, cell_far (cell_far (ky0) (by omega) _) (by omega) _, cell_far (cell_far (ky1) (by omega) _) (by omega) _, vat_set (vat_set (kz0) _ _) _ _, vat_set (vat_set (kz1) _ _) _ _, froz_set (froz_set (kfz0) _ _) _ _, froz_set (froz_set (kfz1) _ _) _ _⟩))
      (first
        | (go_at_call 83; refine (OP.out _).mono ?_; rintro e w3 ⟨rfl, hb3⟩)
        | (go_at_call 82; refine (AD.out _).mono ?_; rintro e w3 ⟨rfl, hb3⟩))
    go_wp2
    obtain ⟨k0', _, _, _, _, k1', k2', _, _⟩ := ‹Below w.heap.size w _ ∧ _›
    have r0 := res_far (by simp) k1'
    have r1 := res_last k2'
    exact bodyPost_ret (v := .tuple #[.agg #[.int .i64 (Rp.add n d (-m) c).1, .int .i64 (Rp.add n d (-m) c).2.1], .int .i64 (Rp.add n d (-m) c).2.2]) (by simp [results, Try.results67, go_sem, r0, r1]) rfl ⟨rfl, k0'⟩
  · have e : Rp.subS n d m c = (0, 0, 8) := by unfold Rp.subS; rw [h]; rfl
    rw [e]
    rw [h] at cb
    have CB := Lib.hid cb
    clear cb h e
    go_enter Try.func67, Try.ntmps67
    go_wp2_with fail
    refine (CB.out _).mono ?_
    rintro e w1 ⟨rfl, hb1⟩
    have z0 : w1.cell? ⟨w.heap.size + 1 + 1, 0, none⟩ = some (.int .i64 0) := keepC hb1 (by go_simp)
    have fz0 : w1.frozen? ⟨w.heap.size + 1 + 1, 0, none⟩ = false := keepF hb1 (v := .int .i64 0) (by go_simp) (by go_simp)
    have z1 : w1.cell? ⟨w.heap.size + 1 + 1, 1, none⟩ = some (.int .i64 0) := keepC hb1 (by go_simp)
    have fz1 : w1.frozen? ⟨w.heap.size + 1 + 1, 1, none⟩ = false := keepF hb1 (v := .int .i64 0) (by go_simp) (by go_simp)
    have hbb : Below w.heap.size w w1 := keepB ((((Below.refl _ _).alloc (Nat.le_refl _) _).alloc (by simp) _).alloc (by simp; omega) _) hb1
    clear hb1
    go_wp2
    exact bodyPost_ret (v := .tuple #[.agg #[.int .i64 0, .int .i64 0], .int .i64 8]) (by simp [results, Try.results67, go_sem, z0, z1]) rfl ⟨rfl, below_set (below_set hbb (by omega) _) (by omega) _⟩

theorem sign_cmp {n d m c : Int} (h : Rp.Ok n d) (k : Rp.Ok m c) (s : Bool) (M : Int) (M0 : 0 ≤ M) (e : sg s M = n * c + -m * d) :
    (if M = 0 then 0 else if s then -1 else 1 : Int) = Rp.cmpQ (Rp.q n d) (Rp.q m c) := by
  have l1 : (Rp.q n d < Rp.q m c) ↔ n * c < m * d := by rw [Rat.lt_iff, Rp.q_num h, Rp.q_num k, Rp.q_denI h, Rp.q_denI k]
  have l2 : (Rp.q m c < Rp.q n d) ↔ m * d < n * c := by rw [Rat.lt_iff, Rp.q_num h, Rp.q_num k, Rp.q_denI h, Rp.q_denI k]
  unfold Rp.cmpQ
  simp only [l1, l2]
  rw [Int.neg_mul] at e
  generalize n * c = X at *
  generalize m * d = Y at *
  cases s
  · have e : M = X + -Y := e
    simp only [Bool.false_eq_true, if_false]
    (repeat' split) <;> omega
  · have e : -M = X + -Y := e
    simp only [if_true]
    (repeat' split) <;> omega

end Go.Proofs.Ytncmffhoodfhjaa
