/- Contract of package ratio's multiply: the product of two valid ratios. Contracts of package ratio's Mul and Div, for all arguments. -/
import Derived.Test.YtniagnldiegamaaGreatGe
import Derived.Test.YtniagnldiegamaaGreatGf
namespace Go.Proofs.YtniagnldiegamaaGreat
open Go.RowKit

set_option maxHeartbeats 4000000 in
set_option maxRecDepth 100000 in
theorem multiply_core (n d m c N1 M1 D1 C1 : Int) (A B : Nat) (n0 : -1000000000000000000 ≤ n) (n1 : n ≤ 1000000000000000000) (d0 : 1 ≤ d) (d1 : d ≤ 1000000000000000000)
    (m0 : -1000000000000000000 ≤ m) (m1 : m ≤ 1000000000000000000) (c0 : 1 ≤ c) (c1 : c ≤ 1000000000000000000)
    (hA : n.natAbs.gcd c.natAbs = A) (hB : m.natAbs.gcd d.natAbs = B) (a0 : 1 ≤ (A : Int)) (a1 : (A : Int) ≤ 1000000000000000000) (b0 : 1 ≤ (B : Int)) (b1 : (B : Int) ≤ 1000000000000000000)
    (e1 : n.tdiv (A : Int) = N1) (e2 : m.tdiv (B : Int) = M1) (e3 : d / (B : Int) = D1) (e4 : c / (A : Int) = C1)
    (N1l : -1000000000000000000 ≤ N1) (N1u : N1 ≤ 1000000000000000000) (M1l : -1000000000000000000 ≤ M1) (M1u : M1 ≤ 1000000000000000000)
    (D1l : 0 ≤ D1) (D1u : D1 ≤ 1000000000000000000) (C1l : 0 ≤ C1) (C1u : C1 ≤ 1000000000000000000) (w : World) :
    Calls Tryz.prog 158 #[.agg #[.int .i64 n, .int .i64 d], .agg #[.int .i64 m, .int .i64 c]] w fun e w' =>
      e = .returned (.tuple #[.agg #[.int .i64 (Rp.low (N1 * M1) (D1 * C1)).1, .int .i64 (Rp.low (N1 * M1) (D1 * C1)).2.1], .int .i64 (Rp.low (N1 * M1) (D1 * C1)).2.2]) ∧ Below w.heap.size w w' := by
  have w1 : IntKind.i64.wrap (n.tdiv (A : Int)) = N1 := by rw [e1]; exact IntWalk.i64_in _ (by omega)
  have w2 : IntKind.i64.wrap (m.tdiv (B : Int)) = M1 := by rw [e2]; exact IntWalk.i64_in _ (by omega)
  have w3 : IntKind.i64.wrap (d.tdiv (B : Int)) = D1 := by rw [Int.tdiv_eq_ediv_of_nonneg (by omega), e3]; exact IntWalk.i64_in _ (by omega)
  have w4 : IntKind.i64.wrap (c.tdiv (A : Int)) = C1 := by rw [Int.tdiv_eq_ediv_of_nonneg (by omega), e4]; exact IntWalk.i64_in _ (by omega)
  have nA : ¬ A = 0 := by omega
  have nB : ¬ B = 0 := by omega
  have nA' : ¬ (A : Int) = 0 := by omega
  have nB' : ¬ (B : Int) = 0 := by omega
  have pn := fun w => product_any N1 M1 (by omega) (by omega) (by omega) (by omega) w
  have pd := fun w => product_any D1 C1 (by omega) (by omega) (by omega) (by omega) w
  have M0 : 0 ≤ (N1.natAbs : Int) * M1.natAbs := Int.mul_nonneg (by omega) (by omega); have MU : (N1.natAbs : Int) * M1.natAbs ≤ 1000000000000000000 * 1000000000000000000 := Int.mul_le_mul (by omega) (by omega) (by omega) (by omega); have D0 : 0 ≤ D1 * C1 := Int.mul_nonneg (by omega) (by omega); have DU : D1 * C1 ≤ 1000000000000000000 * 1000000000000000000 := Int.mul_le_mul (by omega) (by omega) (by omega) (by omega)
  have en : ngB D1 C1 = false := by unfold ngB; rw [decide_eq_false (by omega), decide_eq_false (by omega)]; rfl
  simp only [en, show (D1.natAbs : Int) = D1 by omega, show (C1.natAbs : Int) = C1 by omega] at pd
  have hsg := sg_product N1 M1
  generalize (N1.natAbs : Int) * M1.natAbs = M at *
  generalize ngB N1 M1 = sN at *
  have lw := fun w => lowest_any sN M (D1 * C1) M0 (by omega) D0 (by omega) w
  rw [hsg] at lw
  generalize D1 * C1 = D at *
  generalize N1 * M1 = NN at *
  have PN := Lib.hid pn; have PD := Lib.hid pd; have LW := Lib.hid lw; clear pn pd lw hsg en e1 e2 e3 e4
  go_enter Tryz.func158, Tryz.ntmps158
  go_wp2_with fail
  go_quiet ((first
    | (go_at_call 126; exact quietL (magnitude_any _ (by omega) (by omega) _))
    | (go_at_call 127; exact Calls.quiet_of (gcd_any _ _ (by omega) (by omega) _))))
  (go_wp2_with fail); refine at_world (fun v => Below w.heap.size w v ∧ v.cell? ⟨w.heap.size, 0, none⟩ = some (.int .i64 n) ∧ v.cell? ⟨w.heap.size, 1, none⟩ = some (.int .i64 d) ∧ v.cell? ⟨w.heap.size + 1, 0, none⟩ = some (.int .i64 m) ∧ v.cell? ⟨w.heap.size + 1, 1, none⟩ = some (.int .i64 c) ∧ v.cell? ⟨w.heap.size + 1 + 1, 0, none⟩ = some (.int .i64 0) ∧ v.cell? ⟨w.heap.size + 1 + 1, 1, none⟩ = some (.int .i64 0) ∧ v.frozen? ⟨w.heap.size + 1 + 1, 0, none⟩ = false ∧ v.frozen? ⟨w.heap.size + 1 + 1, 1, none⟩ = false) ⟨(below_drewN ((((Below.refl _ _).alloc (Nat.le_refl _) _).alloc (by simp) _).alloc (by simp; omega) _) _), (by go_simp), (by go_simp), (by go_simp), (by go_simp), (by go_simp), (by go_simp), (by go_simp), (by go_simp)⟩ (fun V0 hS => ?_); obtain ⟨hbb, an, ad, bn, bd, z0, z1, fz0, fz1⟩ := hS
  go_quiet ((first
    | (go_at_call 126; exact quietL (magnitude_any _ (by omega) (by omega) _))
    | (go_at_call 127; exact Calls.quiet_of (gcd_any _ _ (by omega) (by omega) _))))
  go_wp2_with fail
  simp only [hA, hB]
  clear hA hB; refine at_world (fun v => Below w.heap.size w v ∧ v.cell? ⟨w.heap.size, 0, none⟩ = some (.int .i64 n) ∧ v.cell? ⟨w.heap.size, 1, none⟩ = some (.int .i64 d) ∧ v.cell? ⟨w.heap.size + 1, 0, none⟩ = some (.int .i64 m) ∧ v.cell? ⟨w.heap.size + 1, 1, none⟩ = some (.int .i64 c) ∧ v.cell? ⟨w.heap.size + 1 + 1, 0, none⟩ = some (.int .i64 0) ∧ v.cell? ⟨w.heap.size + 1 + 1, 1, none⟩ = some (.int .i64 0) ∧ v.frozen? ⟨w.heap.size + 1 + 1, 0, none⟩ = false ∧ v.frozen? ⟨w.heap.size + 1 + 1, 1, none⟩ = false) ⟨(below_drewN hbb _), an, ad, bn, bd, z0, z1, fz0, fz1⟩ (fun V hS => ?_); obtain ⟨hbb, an, ad, bn, bd, z0, z1, fz0, fz1⟩ := hS

  have hsz := lt_of_cell z0
  go_cut [8] (fun x v => ∃ p : Nat, x = .pointer (some ⟨p, 0, none⟩) ∧ Below w.heap.size w v ∧ v.cell? ⟨w.heap.size, 0, none⟩ = some (.int .i64 n) ∧ v.cell? ⟨w.heap.size, 1, none⟩ = some (.int .i64 d) ∧ v.cell? ⟨w.heap.size + 1, 0, none⟩ = some (.int .i64 m) ∧ v.cell? ⟨w.heap.size + 1, 1, none⟩ = some (.int .i64 c) ∧ v.cell? ⟨p, 0, none⟩ = some (.bool sN) ∧ v.cell? ⟨p, 1, none⟩ = some (.int .u64 (M / 18446744073709551616)) ∧ v.cell? ⟨p, 2, none⟩ = some (.int .u64 (M % 18446744073709551616)) ∧ v.cell? ⟨w.heap.size + 1 + 1, 0, none⟩ = some (.int .i64 0) ∧ v.cell? ⟨w.heap.size + 1 + 1, 1, none⟩ = some (.int .i64 0) ∧ v.frozen? ⟨w.heap.size + 1 + 1, 0, none⟩ = false ∧ v.frozen? ⟨w.heap.size + 1 + 1, 1, none⟩ = false)
  case first =>
    go_region_held3 (fun v => Below w.heap.size w v ∧ v.cell? ⟨w.heap.size, 0, none⟩ = some (.int .i64 n) ∧ v.cell? ⟨w.heap.size, 1, none⟩ = some (.int .i64 d) ∧ v.cell? ⟨w.heap.size + 1, 0, none⟩ = some (.int .i64 m) ∧ v.cell? ⟨w.heap.size + 1, 1, none⟩ = some (.int .i64 c) ∧ v.cell? ⟨w.heap.size + 1 + 1, 0, none⟩ = some (.int .i64 0) ∧ v.cell? ⟨w.heap.size + 1 + 1, 1, none⟩ = some (.int .i64 0) ∧ v.frozen? ⟨w.heap.size + 1 + 1, 0, none⟩ = false ∧ v.frozen? ⟨w.heap.size + 1 + 1, 1, none⟩ = false)
      (first | (exact ⟨hbb.drew, an, ad, bn, bd, z0, z1, fz0, fz1⟩) | (obtain ⟨k0, kan, kad, kbn, kbd, kz0, kz1, kfz0, kfz1⟩ := ‹Below w.heap.size w _ ∧ _›; exact ⟨keepB k0 hb3, keepC hb3 kan, keepC hb3 kad, keepC hb3 kbn, keepC hb3 kbd, keepC hb3 kz0, keepC hb3 kz1, keepF hb3 kz0 kfz0, keepF hb3 kz1 kfz1⟩) | (exact ⟨j0.out.alloc j0.out.size _, cell_alloc jan.out _, cell_alloc jad.out _, cell_alloc jbn.out _, cell_alloc jbd.out _, cell_alloc jz0.out _, cell_alloc jz1.out _, froz_alloc jz0.out jfz0.out _, froz_alloc jz1.out jfz1.out _⟩) | (obtain ⟨k0, kan, kad, kbn, kbd, kz0, kz1, kfz0, kfz1⟩ := ‹Below w.heap.size w _ ∧ _›; exact ⟨k0.alloc k0.size _, cell_alloc kan _, cell_alloc kad _, cell_alloc kbn _, cell_alloc kbd _, cell_alloc kz0 _, cell_alloc kz1 _, froz_alloc kz0 kfz0 _, froz_alloc kz1 kfz1 _⟩) | (exact ⟨below_set (below_set (below_set (j0.out) (by omega) _) (by omega) _) (by omega) _, cell_far (cell_far (cell_far (jan.out) (by omega) _) (by omega) _) (by omega) _, cell_far (cell_far (cell_far (jad.out) (by omega) _) (by omega) _) (by omega) _, cell_far (cell_far (cell_far (jbn.out) (by omega) _) (by omega) _) (by omega) _, cell_far (cell_far (cell_far (jbd.out) (by omega) _) (by omega) _) (by omega) _, cell_far (cell_far (cell_far (jz0.out) (by omega) _) (by omega) _) (by omega) _, cell_far (cell_far (cell_far (jz1.out) (by omega) _) (by omega) _) (by omega) _, froz_set (froz_set (froz_set (jfz0.out) _ _) _ _) _ _, froz_set (froz_set (froz_set (jfz1.out) _ _) _ _) _ _⟩))
      (first
        | (go_at_call 133; refine (PN.out _).mono ?_; rintro e w3 ⟨rfl, hb3⟩; (first | (replace fnb0 := keepF hb3 nb0 fnb0; replace fnb1 := keepF hb3 nb1 fnb1; replace fnb2 := keepF hb3 nb2 fnb2; replace nb0 := keepC hb3 nb0; replace nb1 := keepC hb3 nb1; replace nb2 := keepC hb3 nb2) | (obtain ⟨k0, kan, kad, kbn, kbd, kz0, kz1, kfz0, kfz1⟩ := ‹Below w.heap.size w _ ∧ _›; have nb0 := keepC hb3 (new0 _ _ _ _ _); have nb1 := keepC hb3 (new1 _ _ _ _ _); have nb2 := keepC hb3 (new2 _ _ _ _ _); have fnb0 := keepF hb3 (new0 _ _ _ _ _) (newf _ _ _ _ _ 0); have fnb1 := keepF hb3 (new1 _ _ _ _ _) (newf _ _ _ _ _ 1); have fnb2 := keepF hb3 (new2 _ _ _ _ _) (newf _ _ _ _ _ 2); have hu := lt_alloc' kz0 (new0 _ _ _ _ _) (by simp); clear k0 kan kad kbn kbd kz0 kz1 kfz0 kfz1) | skip); obtain ⟨k0, kan, kad, kbn, kbd, kz0, kz1, kfz0, kfz1⟩ := ‹Below w.heap.size w _ ∧ _›; have j0 := Lib.hid (keepB k0 hb3); have jan := Lib.hid (keepC hb3 kan); have jad := Lib.hid (keepC hb3 kad); have jbn := Lib.hid (keepC hb3 kbn); have jbd := Lib.hid (keepC hb3 kbd); have jz0 := Lib.hid (keepC hb3 kz0); have jz1 := Lib.hid (keepC hb3 kz1); have jfz0 := Lib.hid (keepF hb3 kz0 kfz0); have jfz1 := Lib.hid (keepF hb3 kz1 kfz1); clear k0 kan kad kbn kbd kz0 kz1 kfz0 kfz1))
    all_goals
      go_wp2_with fail
      go_meet
      refine ⟨_, rfl, ?_, ?_, ?_, ?_, ?_, ?_, ?_, ?_, ?_, ?_, ?_, ?_⟩
      · obtain ⟨k0, kan, kad, kbn, kbd, kz0, kz1, kfz0, kfz1⟩ := ‹Below w.heap.size w _ ∧ _›; exact k0
      · obtain ⟨k0, kan, kad, kbn, kbd, kz0, kz1, kfz0, kfz1⟩ := ‹Below w.heap.size w _ ∧ _›; exact kan
      · obtain ⟨k0, kan, kad, kbn, kbd, kz0, kz1, kfz0, kfz1⟩ := ‹Below w.heap.size w _ ∧ _›; exact kad
      · obtain ⟨k0, kan, kad, kbn, kbd, kz0, kz1, kfz0, kfz1⟩ := ‹Below w.heap.size w _ ∧ _›; exact kbn
      · obtain ⟨k0, kan, kad, kbn, kbd, kz0, kz1, kfz0, kfz1⟩ := ‹Below w.heap.size w _ ∧ _›; exact kbd
      · go_simp
      · go_simp
      · go_simp
      · obtain ⟨k0, kan, kad, kbn, kbd, kz0, kz1, kfz0, kfz1⟩ := ‹Below w.heap.size w _ ∧ _›; exact kz0
      · obtain ⟨k0, kan, kad, kbn, kbd, kz0, kz1, kfz0, kfz1⟩ := ‹Below w.heap.size w _ ∧ _›; exact kz1
      · obtain ⟨k0, kan, kad, kbn, kbd, kz0, kz1, kfz0, kfz1⟩ := ‹Below w.heap.size w _ ∧ _›; exact kfz0
      · obtain ⟨k0, kan, kad, kbn, kbd, kz0, kz1, kfz0, kfz1⟩ := ‹Below w.heap.size w _ ∧ _›; exact kfz1
  case rest =>
    clear an ad bn bd z0 z1 fz0 fz1 hbb hsz; obtain ⟨p, rfl, hbb, an, ad, bn, bd, q0, q1, q2, z0, z1, fz0, fz1⟩ := hcut; have hsz := lt_of_cell z0; have hpz := lt_of_cell q0; (go_wp2_with fail)
    go_cut [9] (fun x v => ∃ p2 : Nat, x = .pointer (some ⟨p2, 0, none⟩) ∧ Below w.heap.size w v ∧ v.cell? ⟨w.heap.size, 0, none⟩ = some (.int .i64 n) ∧ v.cell? ⟨w.heap.size, 1, none⟩ = some (.int .i64 d) ∧ v.cell? ⟨w.heap.size + 1, 0, none⟩ = some (.int .i64 m) ∧ v.cell? ⟨w.heap.size + 1, 1, none⟩ = some (.int .i64 c) ∧ v.cell? ⟨p, 0, none⟩ = some (.bool sN) ∧ v.cell? ⟨p, 1, none⟩ = some (.int .u64 (M / 18446744073709551616)) ∧ v.cell? ⟨p, 2, none⟩ = some (.int .u64 (M % 18446744073709551616)) ∧ v.cell? ⟨p2, 0, none⟩ = some (.bool false) ∧ v.cell? ⟨p2, 1, none⟩ = some (.int .u64 (D / 18446744073709551616)) ∧ v.cell? ⟨p2, 2, none⟩ = some (.int .u64 (D % 18446744073709551616)) ∧ v.cell? ⟨w.heap.size + 1 + 1, 0, none⟩ = some (.int .i64 0) ∧ v.cell? ⟨w.heap.size + 1 + 1, 1, none⟩ = some (.int .i64 0) ∧ v.frozen? ⟨w.heap.size + 1 + 1, 0, none⟩ = false ∧ v.frozen? ⟨w.heap.size + 1 + 1, 1, none⟩ = false)
    case first =>
      go_region_held3 (fun v => Below w.heap.size w v ∧ v.cell? ⟨w.heap.size, 0, none⟩ = some (.int .i64 n) ∧ v.cell? ⟨w.heap.size, 1, none⟩ = some (.int .i64 d) ∧ v.cell? ⟨w.heap.size + 1, 0, none⟩ = some (.int .i64 m) ∧ v.cell? ⟨w.heap.size + 1, 1, none⟩ = some (.int .i64 c) ∧ v.cell? ⟨p, 0, none⟩ = some (.bool sN) ∧ v.cell? ⟨p, 1, none⟩ = some (.int .u64 (M / 18446744073709551616)) ∧ v.cell? ⟨p, 2, none⟩ = some (.int .u64 (M % 18446744073709551616)) ∧ v.cell? ⟨w.heap.size + 1 + 1, 0, none⟩ = some (.int .i64 0) ∧ v.cell? ⟨w.heap.size + 1 + 1, 1, none⟩ = some (.int .i64 0) ∧ v.frozen? ⟨w.heap.size + 1 + 1, 0, none⟩ = false ∧ v.frozen? ⟨w.heap.size + 1 + 1, 1, none⟩ = false)
        (first | (exact ⟨hbb.drew, an, ad, bn, bd, q0, q1, q2, z0, z1, fz0, fz1⟩) | (obtain ⟨k0, kan, kad, kbn, kbd, kq0, kq1, kq2, kz0, kz1, kfz0, kfz1⟩ := ‹Below w.heap.size w _ ∧ _›; exact ⟨keepB k0 hb3, keepC hb3 kan, keepC hb3 kad, keepC hb3 kbn, keepC hb3 kbd, keepC hb3 kq0, keepC hb3 kq1, keepC hb3 kq2, keepC hb3 kz0, keepC hb3 kz1, keepF hb3 kz0 kfz0, keepF hb3 kz1 kfz1⟩) | (exact ⟨j0.out.alloc j0.out.size _, cell_alloc jan.out _, cell_alloc jad.out _, cell_alloc jbn.out _, cell_alloc jbd.out _, cell_alloc jq0.out _, cell_alloc jq1.out _, cell_alloc jq2.out _, cell_alloc jz0.out _, cell_alloc jz1.out _, froz_alloc jz0.out jfz0.out _, froz_alloc jz1.out jfz1.out _⟩) | (obtain ⟨k0, kan, kad, kbn, kbd, kq0, kq1, kq2, kz0, kz1, kfz0, kfz1⟩ := ‹Below w.heap.size w _ ∧ _›; exact ⟨k0.alloc k0.size _, cell_alloc kan _, cell_alloc kad _, cell_alloc kbn _, cell_alloc kbd _, cell_alloc kq0 _, cell_alloc kq1 _, cell_alloc kq2 _, cell_alloc kz0 _, cell_alloc kz1 _, froz_alloc kz0 kfz0 _, froz_alloc kz1 kfz1 _⟩) | (exact ⟨below_set (below_set (below_set (j0.out) (by omega) _) (by omega) _) (by omega) _, cell_far (cell_far (cell_far (jan.out) (by omega) _) (by omega) _) (by omega) _, cell_far (cell_far (cell_far (jad.out) (by omega) _) (by omega) _) (by omega) _, cell_far (cell_far (cell_far (jbn.out) (by omega) _) (by omega) _) (by omega) _, cell_far (cell_far (cell_far (jbd.out) (by omega) _) (by omega) _) (by omega) _, cell_far (cell_far (cell_far (jq0.out) (by omega) _) (by omega) _) (by omega) _, cell_far (cell_far (cell_far (jq1.out) (by omega) _) (by omega) _) (by omega) _, cell_far (cell_far (cell_far (jq2.out) (by omega) _) (by omega) _) (by omega) _, cell_far (cell_far (cell_far (jz0.out) (by omega) _) (by omega) _) (by omega) _, cell_far (cell_far (cell_far (jz1.out) (by omega) _) (by omega) _) (by omega) _, froz_set (froz_set (froz_set (jfz0.out) _ _) _ _) _ _, froz_set (froz_set (froz_set (jfz1.out) _ _) _ _) _ _⟩))
        (first
          | (go_at_call 133; refine (PD.out _).mono ?_; rintro e w3 ⟨rfl, hb3⟩; (first | (replace fnb0 := keepF hb3 nb0 fnb0; replace fnb1 := keepF hb3 nb1 fnb1; replace fnb2 := keepF hb3 nb2 fnb2; replace nb0 := keepC hb3 nb0; replace nb1 := keepC hb3 nb1; replace nb2 := keepC hb3 nb2) | (obtain ⟨k0, kan, kad, kbn, kbd, kq0, kq1, kq2, kz0, kz1, kfz0, kfz1⟩ := ‹Below w.heap.size w _ ∧ _›; have nb0 := keepC hb3 (new0 _ _ _ _ _); have nb1 := keepC hb3 (new1 _ _ _ _ _); have nb2 := keepC hb3 (new2 _ _ _ _ _); have fnb0 := keepF hb3 (new0 _ _ _ _ _) (newf _ _ _ _ _ 0); have fnb1 := keepF hb3 (new1 _ _ _ _ _) (newf _ _ _ _ _ 1); have fnb2 := keepF hb3 (new2 _ _ _ _ _) (newf _ _ _ _ _ 2); have hu := lt_alloc' kz0 (new0 _ _ _ _ _) (by simp); clear k0 kan kad kbn kbd kq0 kq1 kq2 kz0 kz1 kfz0 kfz1) | skip); obtain ⟨k0, kan, kad, kbn, kbd, kq0, kq1, kq2, kz0, kz1, kfz0, kfz1⟩ := ‹Below w.heap.size w _ ∧ _›; have j0 := Lib.hid (keepB k0 hb3); have jan := Lib.hid (keepC hb3 kan); have jad := Lib.hid (keepC hb3 kad); have jbn := Lib.hid (keepC hb3 kbn); have jbd := Lib.hid (keepC hb3 kbd); have jq0 := Lib.hid (keepC hb3 kq0); have jq1 := Lib.hid (keepC hb3 kq1); have jq2 := Lib.hid (keepC hb3 kq2); have jz0 := Lib.hid (keepC hb3 kz0); have jz1 := Lib.hid (keepC hb3 kz1); have jfz0 := Lib.hid (keepF hb3 kz0 kfz0); have jfz1 := Lib.hid (keepF hb3 kz1 kfz1); clear k0 kan kad kbn kbd kq0 kq1 kq2 kz0 kz1 kfz0 kfz1))
      all_goals
        go_wp2_with fail
        go_meet
        refine ⟨_, rfl, ?_, ?_, ?_, ?_, ?_, ?_, ?_, ?_, ?_, ?_, ?_, ?_, ?_, ?_, ?_⟩
        · obtain ⟨k0, kan, kad, kbn, kbd, kq0, kq1, kq2, kz0, kz1, kfz0, kfz1⟩ := ‹Below w.heap.size w _ ∧ _›; exact k0
        · obtain ⟨k0, kan, kad, kbn, kbd, kq0, kq1, kq2, kz0, kz1, kfz0, kfz1⟩ := ‹Below w.heap.size w _ ∧ _›; exact kan
        · obtain ⟨k0, kan, kad, kbn, kbd, kq0, kq1, kq2, kz0, kz1, kfz0, kfz1⟩ := ‹Below w.heap.size w _ ∧ _›; exact kad
        · obtain ⟨k0, kan, kad, kbn, kbd, kq0, kq1, kq2, kz0, kz1, kfz0, kfz1⟩ := ‹Below w.heap.size w _ ∧ _›; exact kbn
        · obtain ⟨k0, kan, kad, kbn, kbd, kq0, kq1, kq2, kz0, kz1, kfz0, kfz1⟩ := ‹Below w.heap.size w _ ∧ _›; exact kbd
        · obtain ⟨k0, kan, kad, kbn, kbd, kq0, kq1, kq2, kz0, kz1, kfz0, kfz1⟩ := ‹Below w.heap.size w _ ∧ _›; exact kq0
        · obtain ⟨k0, kan, kad, kbn, kbd, kq0, kq1, kq2, kz0, kz1, kfz0, kfz1⟩ := ‹Below w.heap.size w _ ∧ _›; exact kq1
        · obtain ⟨k0, kan, kad, kbn, kbd, kq0, kq1, kq2, kz0, kz1, kfz0, kfz1⟩ := ‹Below w.heap.size w _ ∧ _›; exact kq2
        · go_simp
        · go_simp
        · go_simp
        · obtain ⟨k0, kan, kad, kbn, kbd, kq0, kq1, kq2, kz0, kz1, kfz0, kfz1⟩ := ‹Below w.heap.size w _ ∧ _›; exact kz0
        · obtain ⟨k0, kan, kad, kbn, kbd, kq0, kq1, kq2, kz0, kz1, kfz0, kfz1⟩ := ‹Below w.heap.size w _ ∧ _›; exact kz1
        · obtain ⟨k0, kan, kad, kbn, kbd, kq0, kq1, kq2, kz0, kz1, kfz0, kfz1⟩ := ‹Below w.heap.size w _ ∧ _›; exact kfz0
        · obtain ⟨k0, kan, kad, kbn, kbd, kq0, kq1, kq2, kz0, kz1, kfz0, kfz1⟩ := ‹Below w.heap.size w _ ∧ _›; exact kfz1
    case rest =>
      clear an ad bn bd z0 z1 fz0 fz1 hbb q0 q1 q2 hsz hpz; obtain ⟨p2, rfl, hbb, an, ad, bn, bd, q0, q1, q2, e0, e1, e2, z0, z1, fz0, fz1⟩ := hcut; (go_wp2_with fail); refine (LW.out _).mono ?_; rintro e w5 ⟨rfl, hb5⟩; replace fz0 := keepF hb5 z0 fz0; replace z0 := keepC hb5 z0; replace fz1 := keepF hb5 z1 fz1; replace z1 := keepC hb5 z1; replace hbb := keepB hbb hb5; clear hb5
      go_wp2
      exact bodyPost_ret (v := .tuple #[.agg #[.int .i64 (Rp.low NN D).1, .int .i64 (Rp.low NN D).2.1], .int .i64 (Rp.low NN D).2.2]) (by simp [results, Tryz.results158, go_sem, z0, z1]) rfl ⟨rfl, below_set (below_set hbb (by omega) _) (by omega) _⟩

theorem tdiv_bd (n : Int) (a : Nat) (h1 : -1000000000000000000 ≤ n) (h2 : n ≤ 1000000000000000000) : -1000000000000000000 ≤ n.tdiv (a : Int) ∧ n.tdiv (a : Int) ≤ 1000000000000000000 := by
  have e : (n.tdiv (a : Int)).natAbs = n.natAbs / (a : Int).natAbs := Int.natAbs_tdiv ..; have := Nat.div_le_self n.natAbs (a : Int).natAbs
  omega

theorem multiply_any (n d m c : Int) (h : Rp.Ok n d) (k : Rp.Ok m c) (w : World) :
    Calls Tryz.prog 158 #[.agg #[.int .i64 n, .int .i64 d], .agg #[.int .i64 m, .int .i64 c]] w fun e w' =>
      e = .returned (.tuple #[.agg #[.int .i64 (Rp.mul n d m c).1, .int .i64 (Rp.mul n d m c).2.1], .int .i64 (Rp.mul n d m c).2.2]) ∧ Below w.heap.size w w' := by
  obtain ⟨p1, p2, p3, p4, _, _, p7, p8⟩ := Rp.mul_parts h k _ _ rfl rfl; obtain ⟨h1, h2, h3, h4, _⟩ := h; obtain ⟨k1, k2, k3, k4, _⟩ := k
  have e : Rp.mul n d m c = Rp.low (n.tdiv ((Nat.gcd n.natAbs c.natAbs : Nat) : Int) * m.tdiv ((Nat.gcd m.natAbs d.natAbs : Nat) : Int)) (d / ((Nat.gcd m.natAbs d.natAbs : Nat) : Int) * (c / ((Nat.gcd n.natAbs c.natAbs : Nat) : Int))) := by
    unfold Rp.mul Rp.ofQ
    rw [p1, p2]
  rw [e]
  generalize hA : Nat.gcd n.natAbs c.natAbs = A at *
  generalize hB : Nat.gcd m.natAbs d.natAbs = B at *
  obtain ⟨t1, t2⟩ := tdiv_bd n A h3 h4; obtain ⟨t3, t4⟩ := tdiv_bd m B k3 k4; have D0 : 0 ≤ d / (B : Int) := Int.ediv_nonneg (by omega) (by omega); have D1 : d / (B : Int) ≤ d := Int.ediv_le_self _ (by omega); have C0 : 0 ≤ c / (A : Int) := Int.ediv_nonneg (by omega) (by omega); have C1 : c / (A : Int) ≤ c := Int.ediv_le_self _ (by omega); exact multiply_core n d m c _ _ _ _ A B h3 h4 h1 h2 k3 k4 k1 k2 hA hB (by omega) (by omega) (by omega) (by omega) rfl rfl rfl rfl t1 t2 t3 t4 D0 (by omega) C0 (by omega) w
end Go.Proofs.YtniagnldiegamaaGreat
namespace Go.Proofs.YtniagnldiegamaaGreat
open Go.RowKit

theorem Ok_inv {m c : Int} (h : Rp.Ok m c) (hz : m ≠ 0) : Rp.Ok (if m < 0 then -c else c) (if m < 0 then -m else m) := by
  obtain ⟨h1, h2, h3, h4, h5⟩ := h
  by_cases hn : m < 0
  · simp only [if_pos hn]
    exact ⟨by omega, by omega, by omega, by omega, by rw [Int.natAbs_neg, Int.natAbs_neg, Nat.gcd_comm]; exact h5⟩
  · simp only [if_neg hn]
    exact ⟨by omega, by omega, by omega, by omega, by rw [Nat.gcd_comm]; exact h5⟩
theorem q_inv (m c : Int) : Rp.q (if m < 0 then -c else c) (if m < 0 then -m else m) = (Rp.q m c)⁻¹ := by
  unfold Rp.q
  rw [Rat.inv_divInt]
  by_cases hn : m < 0
  · simp only [if_pos hn]; exact Rat.neg_divInt_neg c m
  · simp only [if_neg hn]

set_option maxHeartbeats 1000000 in
theorem Mul_any (n d m c : Int) (w : World) (n0 : -9223372036854775808 ≤ n) (n1 : n ≤ 9223372036854775807) (d0 : -9223372036854775808 ≤ d) (d1 : d ≤ 9223372036854775807)
    (m0 : -9223372036854775808 ≤ m) (m1 : m ≤ 9223372036854775807) (c0 : -9223372036854775808 ≤ c) (c1 : c ≤ 9223372036854775807) :
    Calls Tryz.prog 139 #[.agg #[.int .i64 n, .int .i64 d], .agg #[.int .i64 m, .int .i64 c]] w fun e w' => e = .returned (.tuple #[.agg #[.int .i64 (Rp.mulS n d m c).1, .int .i64 (Rp.mulS n d m c).2.1], .int .i64 (Rp.mulS n d m c).2.2]) ∧ Below w.heap.size w w' := by
  have cb := fun w => checkBoth_any n d m c w n0 n1 d0 d1 m0 m1 c0 c1
  rcases both_cases n d m c with ⟨h, hx, hy⟩ | h
  · have e : Rp.mulS n d m c = Rp.mul n d m c := by unfold Rp.mulS; rw [if_pos h]
    rw [h] at cb; have CB := Lib.hid cb; have AD := Lib.hid (fun w => multiply_any n d m c hx hy w); clear cb h; obtain ⟨o1, o2, o3, o4, _⟩ := hx; obtain ⟨u1, u2, u3, u4, _⟩ := hy; rw [e]; clear e
    go_enter Tryz.func139, Tryz.ntmps139
    (go_wp2_with fail); refine (CB.out _).mono ?_; rintro e w1 ⟨rfl, hb1⟩; have x0 : w1.cell? ⟨w.heap.size, 0, none⟩ = some (.int .i64 n) := keepC hb1 (by go_simp); have x1 : w1.cell? ⟨w.heap.size, 1, none⟩ = some (.int .i64 d) := keepC hb1 (by go_simp); have y0 : w1.cell? ⟨w.heap.size + 1, 0, none⟩ = some (.int .i64 m) := keepC hb1 (by go_simp); have y1 : w1.cell? ⟨w.heap.size + 1, 1, none⟩ = some (.int .i64 c) := keepC hb1 (by go_simp); have z0 : w1.cell? ⟨w.heap.size + 1 + 1, 0, none⟩ = some (.int .i64 0) := keepC hb1 (by go_simp); have fz0 : w1.frozen? ⟨w.heap.size + 1 + 1, 0, none⟩ = false := keepF hb1 (v := .int .i64 0) (by go_simp) (by go_simp); have z1 : w1.cell? ⟨w.heap.size + 1 + 1, 1, none⟩ = some (.int .i64 0) := keepC hb1 (by go_simp); have fz1 : w1.frozen? ⟨w.heap.size + 1 + 1, 1, none⟩ = false := keepF hb1 (v := .int .i64 0) (by go_simp) (by go_simp); have hbb : Below w.heap.size w w1 := keepB ((((Below.refl _ _).alloc (Nat.le_refl _) _).alloc (by simp) _).alloc (by simp; omega) _) hb1; clear hb1; (go_wp2_with fail); refine (AD.out _).mono ?_; rintro e w2 ⟨rfl, hb2⟩; replace fz0 := keepF hb2 z0 fz0; replace z0 := keepC hb2 z0; replace fz1 := keepF hb2 z1 fz1; replace z1 := keepC hb2 z1; replace hbb := keepB hbb hb2; clear hb2
    go_wp2
    exact bodyPost_ret (v := .tuple #[.agg #[.int .i64 (Rp.mul n d m c).1, .int .i64 (Rp.mul n d m c).2.1], .int .i64 (Rp.mul n d m c).2.2]) (by simp [results, Tryz.results139, go_sem, z0, z1]) rfl ⟨rfl, below_set (below_set hbb (by omega) _) (by omega) _⟩
  · have e : Rp.mulS n d m c = (0, 0, 8) := by unfold Rp.mulS; rw [h]; rfl
    rw [e]; rw [h] at cb; have CB := Lib.hid cb; clear cb h e
    go_enter Tryz.func139, Tryz.ntmps139
    (go_wp2_with fail); refine (CB.out _).mono ?_; rintro e w1 ⟨rfl, hb1⟩; have z0 : w1.cell? ⟨w.heap.size + 1 + 1, 0, none⟩ = some (.int .i64 0) := keepC hb1 (by go_simp); have fz0 : w1.frozen? ⟨w.heap.size + 1 + 1, 0, none⟩ = false := keepF hb1 (v := .int .i64 0) (by go_simp) (by go_simp); have z1 : w1.cell? ⟨w.heap.size + 1 + 1, 1, none⟩ = some (.int .i64 0) := keepC hb1 (by go_simp); have fz1 : w1.frozen? ⟨w.heap.size + 1 + 1, 1, none⟩ = false := keepF hb1 (v := .int .i64 0) (by go_simp) (by go_simp); have hbb : Below w.heap.size w w1 := keepB ((((Below.refl _ _).alloc (Nat.le_refl _) _).alloc (by simp) _).alloc (by simp; omega) _) hb1; clear hb1
    go_wp2
    exact bodyPost_ret (v := .tuple #[.agg #[.int .i64 0, .int .i64 0], .int .i64 8]) (by simp [results, Tryz.results139, go_sem, z0, z1]) rfl ⟨rfl, below_set (below_set hbb (by omega) _) (by omega) _⟩

set_option maxHeartbeats 1000000 in
theorem Div_any (n d m c : Int) (w : World) (n0 : -9223372036854775808 ≤ n) (n1 : n ≤ 9223372036854775807) (d0 : -9223372036854775808 ≤ d) (d1 : d ≤ 9223372036854775807)
    (m0 : -9223372036854775808 ≤ m) (m1 : m ≤ 9223372036854775807) (c0 : -9223372036854775808 ≤ c) (c1 : c ≤ 9223372036854775807) :
    Calls Tryz.prog 194 #[.agg #[.int .i64 n, .int .i64 d], .agg #[.int .i64 m, .int .i64 c]] w fun e w' => e = .returned (.tuple #[.agg #[.int .i64 (Rp.divS n d m c).1, .int .i64 (Rp.divS n d m c).2.1], .int .i64 (Rp.divS n d m c).2.2]) ∧ Below w.heap.size w w' := by
  have cb := fun w => checkBoth_any n d m c w n0 n1 d0 d1 m0 m1 c0 c1
  rcases both_cases n d m c with ⟨h, hx, hy⟩ | h
  · rw [h] at cb
    have CB := Lib.hid cb
    by_cases hz : m = 0
    · have e : Rp.divS n d m c = (0, 0, 18) := by unfold Rp.divS; rw [if_pos h, if_pos hz]
      rw [e]
      have hb : ((m : Int) == 0) = true := by rw [beq_iff_eq]; exact hz
      clear cb h hx hy e hz
      go_enter Tryz.func194, Tryz.ntmps194
      (go_wp2_with fail); refine (CB.out _).mono ?_; rintro e w1 ⟨rfl, hb1⟩; have x0 : w1.cell? ⟨w.heap.size, 0, none⟩ = some (.int .i64 n) := keepC hb1 (by go_simp); have x1 : w1.cell? ⟨w.heap.size, 1, none⟩ = some (.int .i64 d) := keepC hb1 (by go_simp); have y0 : w1.cell? ⟨w.heap.size + 1, 0, none⟩ = some (.int .i64 m) := keepC hb1 (by go_simp); have y1 : w1.cell? ⟨w.heap.size + 1, 1, none⟩ = some (.int .i64 c) := keepC hb1 (by go_simp); have z0 : w1.cell? ⟨w.heap.size + 1 + 1, 0, none⟩ = some (.int .i64 0) := keepC hb1 (by go_simp); have fz0 : w1.frozen? ⟨w.heap.size + 1 + 1, 0, none⟩ = false := keepF hb1 (v := .int .i64 0) (by go_simp) (by go_simp); have z1 : w1.cell? ⟨w.heap.size + 1 + 1, 1, none⟩ = some (.int .i64 0) := keepC hb1 (by go_simp); have fz1 : w1.frozen? ⟨w.heap.size + 1 + 1, 1, none⟩ = false := keepF hb1 (v := .int .i64 0) (by go_simp) (by go_simp); have hbb : Below w.heap.size w w1 := keepB ((((Below.refl _ _).alloc (Nat.le_refl _) _).alloc (by simp) _).alloc (by simp; omega) _) hb1; clear hb1
      go_wp2
      exact bodyPost_ret (v := .tuple #[.agg #[.int .i64 0, .int .i64 0], .int .i64 18]) (by simp [results, Tryz.results194, go_sem, z0, z1]) rfl ⟨rfl, below_set (below_set hbb (by omega) _) (by omega) _⟩
    · have e : Rp.divS n d m c = Rp.mul n d (if m < 0 then -c else c) (if m < 0 then -m else m) := by
        unfold Rp.divS Rp.mul; rw [if_pos h, if_neg hz, q_inv, Rat.div_def]
      rw [e]; have AD := Lib.hid (fun w => multiply_any n d _ _ hx (Ok_inv hy hz) w); have IV := Lib.hid (fun w => inverse_any m c w hy.2.2.1 hy.2.2.2.1 (by have := hy.1; omega) hy.2.1)
      have hb : ((m : Int) == 0) = false := by rw [beq_eq_false_iff_ne]; exact hz
      generalize (if m < 0 then -c else c) = I1 at *
      generalize (if m < 0 then -m else m) = I2 at *
      clear cb h hx hy e hz
      go_enter Tryz.func194, Tryz.ntmps194
      (go_wp2_with fail); refine (CB.out _).mono ?_; rintro e w1 ⟨rfl, hb1⟩; have x0 : w1.cell? ⟨w.heap.size, 0, none⟩ = some (.int .i64 n) := keepC hb1 (by go_simp); have x1 : w1.cell? ⟨w.heap.size, 1, none⟩ = some (.int .i64 d) := keepC hb1 (by go_simp); have y0 : w1.cell? ⟨w.heap.size + 1, 0, none⟩ = some (.int .i64 m) := keepC hb1 (by go_simp); have y1 : w1.cell? ⟨w.heap.size + 1, 1, none⟩ = some (.int .i64 c) := keepC hb1 (by go_simp); have z0 : w1.cell? ⟨w.heap.size + 1 + 1, 0, none⟩ = some (.int .i64 0) := keepC hb1 (by go_simp); have fz0 : w1.frozen? ⟨w.heap.size + 1 + 1, 0, none⟩ = false := keepF hb1 (v := .int .i64 0) (by go_simp) (by go_simp); have z1 : w1.cell? ⟨w.heap.size + 1 + 1, 1, none⟩ = some (.int .i64 0) := keepC hb1 (by go_simp); have fz1 : w1.frozen? ⟨w.heap.size + 1 + 1, 1, none⟩ = false := keepF hb1 (v := .int .i64 0) (by go_simp) (by go_simp); have hbb : Below w.heap.size w w1 := keepB ((((Below.refl _ _).alloc (Nat.le_refl _) _).alloc (by simp) _).alloc (by simp; omega) _) hb1; clear hb1; (go_wp2_with fail); have hsz := lt_of_cell z0
      go_region_held3 (fun v => Below w.heap.size w v ∧ v.cell? ⟨w.heap.size, 0, none⟩ = some (.int .i64 n) ∧ v.cell? ⟨w.heap.size, 1, none⟩ = some (.int .i64 d) ∧ v.cell? ⟨w.heap.size + 1, 0, none⟩ = some (.int .i64 m) ∧ v.cell? ⟨w.heap.size + 1, 1, none⟩ = some (.int .i64 c) ∧ v.cell? ⟨w.heap.size + 1 + 1, 0, none⟩ = some (vat v (w.heap.size + 1 + 1) 0) ∧ v.cell? ⟨w.heap.size + 1 + 1, 1, none⟩ = some (vat v (w.heap.size + 1 + 1) 1) ∧ v.frozen? ⟨w.heap.size + 1 + 1, 0, none⟩ = false ∧ v.frozen? ⟨w.heap.size + 1 + 1, 1, none⟩ = false)
        (first | (exact ⟨hbb.drew, x0, x1, y0, y1, vat_of (z0), vat_of (z1), fz0, fz1⟩) | (obtain ⟨k0, kx0, kx1, ky0, ky1, kz0, kz1, kfz0, kfz1⟩ := ‹Below w.heap.size w _ ∧ _›; exact ⟨keepB k0 hb3, keepC hb3 kx0, keepC hb3 kx1, keepC hb3 ky0, keepC hb3 ky1, vat_of (keepC hb3 kz0), vat_of (keepC hb3 kz1), keepF hb3 kz0 kfz0, keepF hb3 kz1 kfz1⟩) | (obtain ⟨k0, kx0, kx1, ky0, ky1, kz0, kz1, kfz0, kfz1⟩ := ‹Below w.heap.size w _ ∧ _›; exact ⟨below_set (below_set (k0) (by omega) _) (by omega) _, cell_far (cell_far (kx0) (by omega) _) (by omega) _, cell_far (cell_far (kx1) (by omega) _) (by omega) _, cell_far (cell_far (ky0) (by omega) _) (by omega) _, cell_far (cell_far (ky1) (by omega) _) (by omega) _, vat_set (vat_set (kz0) _ _) _ _, vat_set (vat_set (kz1) _ _) _ _, froz_set (froz_set (kfz0) _ _) _ _, froz_set (froz_set (kfz1) _ _) _ _⟩))
        (first
          | (go_at_call 200; refine (IV.out _).mono ?_; rintro e w3 ⟨rfl, hb3⟩)
          | (go_at_call 158; refine (AD.out _).mono ?_; rintro e w3 ⟨rfl, hb3⟩))
      go_wp2
      obtain ⟨k0', _, _, _, _, k1', k2', _, _⟩ := ‹Below w.heap.size w _ ∧ _›; have r0 := res_far (by simp) k1'; have r1 := res_last k2'; exact bodyPost_ret (v := .tuple #[.agg #[.int .i64 (Rp.mul n d I1 I2).1, .int .i64 (Rp.mul n d I1 I2).2.1], .int .i64 (Rp.mul n d I1 I2).2.2]) (by simp [results, Tryz.results194, go_sem, r0, r1]) rfl ⟨rfl, k0'⟩
  · have e : Rp.divS n d m c = (0, 0, 8) := by unfold Rp.divS; rw [h]; rfl
    rw [e]; rw [h] at cb; have CB := Lib.hid cb; clear cb h e
    go_enter Tryz.func194, Tryz.ntmps194
    (go_wp2_with fail); refine (CB.out _).mono ?_; rintro e w1 ⟨rfl, hb1⟩; have z0 : w1.cell? ⟨w.heap.size + 1 + 1, 0, none⟩ = some (.int .i64 0) := keepC hb1 (by go_simp); have fz0 : w1.frozen? ⟨w.heap.size + 1 + 1, 0, none⟩ = false := keepF hb1 (v := .int .i64 0) (by go_simp) (by go_simp); have z1 : w1.cell? ⟨w.heap.size + 1 + 1, 1, none⟩ = some (.int .i64 0) := keepC hb1 (by go_simp); have fz1 : w1.frozen? ⟨w.heap.size + 1 + 1, 1, none⟩ = false := keepF hb1 (v := .int .i64 0) (by go_simp) (by go_simp); have hbb : Below w.heap.size w w1 := keepB ((((Below.refl _ _).alloc (Nat.le_refl _) _).alloc (by simp) _).alloc (by simp; omega) _) hb1; clear hb1
    go_wp2
    exact bodyPost_ret (v := .tuple #[.agg #[.int .i64 0, .int .i64 0], .int .i64 8]) (by simp [results, Tryz.results194, go_sem, z0, z1]) rfl ⟨rfl, below_set (below_set hbb (by omega) _) (by omega) _⟩
end Go.Proofs.YtniagnldiegamaaGreat

