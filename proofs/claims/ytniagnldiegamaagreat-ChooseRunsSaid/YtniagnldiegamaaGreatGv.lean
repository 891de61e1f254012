/- Contract of the reference's Mul. The reference's Mul, for all ratios, valid or not. -/
import Derived.Test.YtniagnldiegamaaGreatGe
import Derived.Test.YtniagnldiegamaaGreatGf
namespace Go.Proofs.YtniagnldiegamaaGreat
open Go.RowKit

set_option maxHeartbeats 4000000 in
set_option maxRecDepth 100000 in
theorem rMul_apart (n d m c N1 M1 D1 C1 : Int) (A B : Nat) (n0 : -1000000000000000000 ≤ n) (n1 : n ≤ 1000000000000000000) (d0 : 1 ≤ d) (d1 : d ≤ 1000000000000000000)
    (m0 : -1000000000000000000 ≤ m) (m1 : m ≤ 1000000000000000000) (c0 : 1 ≤ c) (c1 : c ≤ 1000000000000000000)
    (hA : n.natAbs.gcd c.natAbs = A) (hB : m.natAbs.gcd d.natAbs = B) (a0 : 1 ≤ (A : Int)) (b0 : 1 ≤ (B : Int))
    (e1 : (n.natAbs : Int) / (A : Int) = N1) (e2 : (m.natAbs : Int) / (B : Int) = M1) (e3 : (d.natAbs : Int) / (B : Int) = D1) (e4 : (c.natAbs : Int) / (A : Int) = C1)
    (N1l : 0 ≤ N1) (N1u : N1 ≤ 1000000000000000000) (M1l : 0 ≤ M1) (M1u : M1 ≤ 1000000000000000000)
    (D1l : 0 ≤ D1) (D1u : D1 ≤ 1000000000000000000) (C1l : 0 ≤ C1) (C1u : C1 ≤ 1000000000000000000) (hb : (decide (n < 0) == decide (m < 0)) = false) (hn : (n != 0) = true) (hm : (m != 0) = true) (w : World)
    (CB : Hid (∀ w, Calls Tryz.prog 142 #[.agg #[.int .i64 n, .int .i64 d], .agg #[.int .i64 m, .int .i64 c]] w fun e w' => e = .returned (.int .i64 0) ∧ Below w.heap.size w w')) :
    Calls Tryz.prog 122 #[.agg #[.int .i64 n, .int .i64 d], .agg #[.int .i64 m, .int .i64 c]] w fun e w' => e = .returned (.tuple #[.agg #[.int .i64 (Rp.low (sg true (N1 * M1)) (D1 * C1)).1, .int .i64 (Rp.low (sg true (N1 * M1)) (D1 * C1)).2.1], .int .i64 (Rp.low (sg true (N1 * M1)) (D1 * C1)).2.2]) ∧ Below w.heap.size w w' := by
  have wc : IntKind.u64.wrap c = (c.natAbs : Int) := by rw [IntKind.wrap_u64]; omega
  have wd : IntKind.u64.wrap d = (d.natAbs : Int) := by rw [IntKind.wrap_u64]; omega
  have w1 : IntKind.u64.wrap ((n.natAbs : Int) / (A : Int)) = N1 := by rw [e1]; exact IntWalk.u64_in _ (by omega)
  have w2 : IntKind.u64.wrap ((m.natAbs : Int) / (B : Int)) = M1 := by rw [e2]; exact IntWalk.u64_in _ (by omega)
  have w3 : IntKind.u64.wrap ((d.natAbs : Int) / (B : Int)) = D1 := by rw [e3]; exact IntWalk.u64_in _ (by omega)
  have w4 : IntKind.u64.wrap ((c.natAbs : Int) / (A : Int)) = C1 := by rw [e4]; exact IntWalk.u64_in _ (by omega)
  have nA : ¬ A = 0 := by omega
  have nB : ¬ B = 0 := by omega
  have nA' : ¬ (A : Int) = 0 := by omega
  have nB' : ¬ (B : Int) = 0 := by omega
  have M0 : 0 ≤ N1 * M1 := Int.mul_nonneg (by omega) (by omega); have MU : N1 * M1 ≤ 1000000000000000000 * 1000000000000000000 := Int.mul_le_mul (by omega) (by omega) (by omega) (by omega); have D0 : 0 ≤ D1 * C1 := Int.mul_nonneg (by omega) (by omega); have DU : D1 * C1 ≤ 1000000000000000000 * 1000000000000000000 := Int.mul_le_mul (by omega) (by omega) (by omega) (by omega); have TN := Lib.hid (fun w => times_any N1 M1 (by omega) (by omega) (by omega) (by omega) w); have TD := Lib.hid (fun w => times_any D1 C1 (by omega) (by omega) (by omega) (by omega) w); have MA := Lib.hid (fun w => made_any true (N1 * M1) (D1 * C1) M0 (by omega) D0 (by omega) w); clear e1 e2 e3 e4
  go_enter Tryz.func122, Tryz.ntmps122
  (go_wp2_with fail); refine (CB.out _).mono ?_; rintro e w1' ⟨rfl, hb1⟩; have an : w1'.cell? ⟨w.heap.size, 0, none⟩ = some (.int .i64 n) := keepC hb1 (by go_simp); have ad : w1'.cell? ⟨w.heap.size, 1, none⟩ = some (.int .i64 d) := keepC hb1 (by go_simp); have bn : w1'.cell? ⟨w.heap.size + 1, 0, none⟩ = some (.int .i64 m) := keepC hb1 (by go_simp); have bd : w1'.cell? ⟨w.heap.size + 1, 1, none⟩ = some (.int .i64 c) := keepC hb1 (by go_simp); have z0 : w1'.cell? ⟨w.heap.size + 1 + 1, 0, none⟩ = some (.int .i64 0) := keepC hb1 (by go_simp); have fz0 : w1'.frozen? ⟨w.heap.size + 1 + 1, 0, none⟩ = false := keepF hb1 (v := .int .i64 0) (by go_simp) (by go_simp); have z1 : w1'.cell? ⟨w.heap.size + 1 + 1, 1, none⟩ = some (.int .i64 0) := keepC hb1 (by go_simp); have fz1 : w1'.frozen? ⟨w.heap.size + 1 + 1, 1, none⟩ = false := keepF hb1 (v := .int .i64 0) (by go_simp) (by go_simp); have hbb : Below w.heap.size w w1' := keepB ((((Below.refl _ _).alloc (Nat.le_refl _) _).alloc (by simp) _).alloc (by simp; omega) _) hb1; clear hb1; (go_wp2_with fail)
  go_quiet ((first
    | (go_at_call 83; exact quietL (rabs_any _ (by omega) (by omega) _))
    | (go_at_call 109; exact Calls.quiet_of (rgcd_any _ _ (by omega) (by omega) _))))
  go_wp2_with fail
  try simp only [hA, hB]
  clear hA hB; refine at_world (fun v => Below w.heap.size w v ∧ v.cell? ⟨w.heap.size, 0, none⟩ = some (.int .i64 n) ∧ v.cell? ⟨w.heap.size, 1, none⟩ = some (.int .i64 d) ∧ v.cell? ⟨w.heap.size + 1, 0, none⟩ = some (.int .i64 m) ∧ v.cell? ⟨w.heap.size + 1, 1, none⟩ = some (.int .i64 c) ∧ v.cell? ⟨w.heap.size + 1 + 1, 0, none⟩ = some (.int .i64 0) ∧ v.cell? ⟨w.heap.size + 1 + 1, 1, none⟩ = some (.int .i64 0) ∧ v.frozen? ⟨w.heap.size + 1 + 1, 0, none⟩ = false ∧ v.frozen? ⟨w.heap.size + 1 + 1, 1, none⟩ = false) ⟨(below_drewN hbb _), an, ad, bn, bd, z0, z1, fz0, fz1⟩ (fun V hS => ?_); obtain ⟨hbb, an, ad, bn, bd, z0, z1, fz0, fz1⟩ := hS; have hsz := lt_of_cell z0
  go_region_held3 (fun v => Below w.heap.size w v ∧ v.cell? ⟨w.heap.size, 0, none⟩ = some (.int .i64 n) ∧ v.cell? ⟨w.heap.size, 1, none⟩ = some (.int .i64 d) ∧ v.cell? ⟨w.heap.size + 1, 0, none⟩ = some (.int .i64 m) ∧ v.cell? ⟨w.heap.size + 1, 1, none⟩ = some (.int .i64 c) ∧ v.cell? ⟨w.heap.size + 1 + 1, 0, none⟩ = some (vat v (w.heap.size + 1 + 1) 0) ∧ v.cell? ⟨w.heap.size + 1 + 1, 1, none⟩ = some (vat v (w.heap.size + 1 + 1) 1) ∧ v.frozen? ⟨w.heap.size + 1 + 1, 0, none⟩ = false ∧ v.frozen? ⟨w.heap.size + 1 + 1, 1, none⟩ = false)
    (first | (exact ⟨hbb.drew, an, ad, bn, bd, vat_of (z0), vat_of (z1), fz0, fz1⟩) | (with_reducible assumption) | (obtain ⟨k0, kan, kad, kbn, kbd, kz0, kz1, kfz0, kfz1⟩ := ‹Below w.heap.size w _ ∧ _›; exact ⟨keepB k0 hb3, keepC hb3 kan, keepC hb3 kad, keepC hb3 kbn, keepC hb3 kbd, vat_of (keepC hb3 kz0), vat_of (keepC hb3 kz1), keepF hb3 kz0 kfz0, keepF hb3 kz1 kfz1⟩) | (obtain ⟨k0, kan, kad, kbn, kbd, kz0, kz1, kfz0, kfz1⟩ := ‹Below w.heap.size w _ ∧ _›; exact ⟨below_set (below_set (k0) (by omega) _) (by omega) _, cell_far (cell_far (kan) (by omega) _) (by omega) _, cell_far (cell_far (kad) (by omega) _) (by omega) _, cell_far (cell_far (kbn) (by omega) _) (by omega) _, cell_far (cell_far (kbd) (by omega) _) (by omega) _, vat_set (vat_set (kz0) _ _) _ _, vat_set (vat_set (kz1) _ _) _ _, froz_set (froz_set (kfz0) _ _) _ _, froz_set (froz_set (kfz1) _ _) _ _⟩))
    (first
      | (go_at_call 83; refine (rabs_any _ (by omega) (by omega) _).mono ?_; rintro e w' ⟨rfl, rfl⟩)
      | (go_at_call_of 82 (Value.int .u64 N1); refine (TN.out _).mono ?_; rintro e w3 ⟨rfl, hb3⟩)
      | (go_at_call_of 82 (Value.int .u64 D1); refine (TD.out _).mono ?_; rintro e w3 ⟨rfl, hb3⟩)
      | (go_at_call 110; refine (MA.out _).mono ?_; rintro e w3 ⟨rfl, hb3⟩))
  go_wp2
  obtain ⟨k0', _, _, _, _, k1', k2', _, _⟩ := ‹Below w.heap.size w _ ∧ _›; have r0 := res_far (by simp) k1'; have r1 := res_last k2'; exact bodyPost_ret (v := .tuple #[.agg #[.int .i64 (Rp.low (sg true (N1 * M1)) (D1 * C1)).1, .int .i64 (Rp.low (sg true (N1 * M1)) (D1 * C1)).2.1], .int .i64 (Rp.low (sg true (N1 * M1)) (D1 * C1)).2.2]) (by simp [results, Tryz.results122, go_sem, r0, r1]) rfl ⟨rfl, k0'⟩
end Go.Proofs.YtniagnldiegamaaGreat
namespace Go.Proofs.YtniagnldiegamaaGreat
open Go.RowKit

set_option linter.unusedSimpArgs false in
set_option maxHeartbeats 4000000 in
set_option maxRecDepth 100000 in
theorem rMul_alike (n d m c N1 M1 D1 C1 : Int) (A B : Nat) (n0 : -1000000000000000000 ≤ n) (n1 : n ≤ 1000000000000000000) (d0 : 1 ≤ d) (d1 : d ≤ 1000000000000000000)
    (m0 : -1000000000000000000 ≤ m) (m1 : m ≤ 1000000000000000000) (c0 : 1 ≤ c) (c1 : c ≤ 1000000000000000000)
    (hA : n.natAbs.gcd c.natAbs = A) (hB : m.natAbs.gcd d.natAbs = B) (a0 : 1 ≤ (A : Int)) (b0 : 1 ≤ (B : Int))
    (e1 : (n.natAbs : Int) / (A : Int) = N1) (e2 : (m.natAbs : Int) / (B : Int) = M1) (e3 : (d.natAbs : Int) / (B : Int) = D1) (e4 : (c.natAbs : Int) / (A : Int) = C1)
    (N1l : 0 ≤ N1) (N1u : N1 ≤ 1000000000000000000) (M1l : 0 ≤ M1) (M1u : M1 ≤ 1000000000000000000)
    (D1l : 0 ≤ D1) (D1u : D1 ≤ 1000000000000000000) (C1l : 0 ≤ C1) (C1u : C1 ≤ 1000000000000000000) (hb : (!(decide (n < 0) == decide (m < 0))) = false) (w : World)
    (CB : Hid (∀ w, Calls Tryz.prog 142 #[.agg #[.int .i64 n, .int .i64 d], .agg #[.int .i64 m, .int .i64 c]] w fun e w' => e = .returned (.int .i64 0) ∧ Below w.heap.size w w')) :
    Calls Tryz.prog 122 #[.agg #[.int .i64 n, .int .i64 d], .agg #[.int .i64 m, .int .i64 c]] w fun e w' => e = .returned (.tuple #[.agg #[.int .i64 (Rp.low (sg false (N1 * M1)) (D1 * C1)).1, .int .i64 (Rp.low (sg false (N1 * M1)) (D1 * C1)).2.1], .int .i64 (Rp.low (sg false (N1 * M1)) (D1 * C1)).2.2]) ∧ Below w.heap.size w w' := by
  have wc : IntKind.u64.wrap c = (c.natAbs : Int) := by rw [IntKind.wrap_u64]; omega
  have wd : IntKind.u64.wrap d = (d.natAbs : Int) := by rw [IntKind.wrap_u64]; omega
  have w1 : IntKind.u64.wrap ((n.natAbs : Int) / (A : Int)) = N1 := by rw [e1]; exact IntWalk.u64_in _ (by omega)
  have w2 : IntKind.u64.wrap ((m.natAbs : Int) / (B : Int)) = M1 := by rw [e2]; exact IntWalk.u64_in _ (by omega)
  have w3 : IntKind.u64.wrap ((d.natAbs : Int) / (B : Int)) = D1 := by rw [e3]; exact IntWalk.u64_in _ (by omega)
  have w4 : IntKind.u64.wrap ((c.natAbs : Int) / (A : Int)) = C1 := by rw [e4]; exact IntWalk.u64_in _ (by omega)
  have nA : ¬ A = 0 := by omega
  have nB : ¬ B = 0 := by omega
  have nA' : ¬ (A : Int) = 0 := by omega
  have nB' : ¬ (B : Int) = 0 := by omega
  have M0 : 0 ≤ N1 * M1 := Int.mul_nonneg (by omega) (by omega); have MU : N1 * M1 ≤ 1000000000000000000 * 1000000000000000000 := Int.mul_le_mul (by omega) (by omega) (by omega) (by omega); have D0 : 0 ≤ D1 * C1 := Int.mul_nonneg (by omega) (by omega); have DU : D1 * C1 ≤ 1000000000000000000 * 1000000000000000000 := Int.mul_le_mul (by omega) (by omega) (by omega) (by omega); have TN := Lib.hid (fun w => times_any N1 M1 (by omega) (by omega) (by omega) (by omega) w); have TD := Lib.hid (fun w => times_any D1 C1 (by omega) (by omega) (by omega) (by omega) w); have MA := Lib.hid (fun w => made_any false (N1 * M1) (D1 * C1) M0 (by omega) D0 (by omega) w); clear e1 e2 e3 e4
  go_enter Tryz.func122, Tryz.ntmps122
  (go_wp2_with fail); refine (CB.out _).mono ?_; rintro e w1' ⟨rfl, hb1⟩; have an : w1'.cell? ⟨w.heap.size, 0, none⟩ = some (.int .i64 n) := keepC hb1 (by go_simp); have ad : w1'.cell? ⟨w.heap.size, 1, none⟩ = some (.int .i64 d) := keepC hb1 (by go_simp); have bn : w1'.cell? ⟨w.heap.size + 1, 0, none⟩ = some (.int .i64 m) := keepC hb1 (by go_simp); have bd : w1'.cell? ⟨w.heap.size + 1, 1, none⟩ = some (.int .i64 c) := keepC hb1 (by go_simp); have z0 : w1'.cell? ⟨w.heap.size + 1 + 1, 0, none⟩ = some (.int .i64 0) := keepC hb1 (by go_simp); have fz0 : w1'.frozen? ⟨w.heap.size + 1 + 1, 0, none⟩ = false := keepF hb1 (v := .int .i64 0) (by go_simp) (by go_simp); have z1 : w1'.cell? ⟨w.heap.size + 1 + 1, 1, none⟩ = some (.int .i64 0) := keepC hb1 (by go_simp); have fz1 : w1'.frozen? ⟨w.heap.size + 1 + 1, 1, none⟩ = false := keepF hb1 (v := .int .i64 0) (by go_simp) (by go_simp); have hbb : Below w.heap.size w w1' := keepB ((((Below.refl _ _).alloc (Nat.le_refl _) _).alloc (by simp) _).alloc (by simp; omega) _) hb1; clear hb1; (go_wp2_with fail)
  go_quiet ((first
    | (go_at_call 83; exact quietL (rabs_any _ (by omega) (by omega) _))
    | (go_at_call 109; exact Calls.quiet_of (rgcd_any _ _ (by omega) (by omega) _))))
  go_wp2_with fail
  try simp only [hA, hB]
  clear hA hB; refine at_world (fun v => Below w.heap.size w v ∧ v.cell? ⟨w.heap.size, 0, none⟩ = some (.int .i64 n) ∧ v.cell? ⟨w.heap.size, 1, none⟩ = some (.int .i64 d) ∧ v.cell? ⟨w.heap.size + 1, 0, none⟩ = some (.int .i64 m) ∧ v.cell? ⟨w.heap.size + 1, 1, none⟩ = some (.int .i64 c) ∧ v.cell? ⟨w.heap.size + 1 + 1, 0, none⟩ = some (.int .i64 0) ∧ v.cell? ⟨w.heap.size + 1 + 1, 1, none⟩ = some (.int .i64 0) ∧ v.frozen? ⟨w.heap.size + 1 + 1, 0, none⟩ = false ∧ v.frozen? ⟨w.heap.size + 1 + 1, 1, none⟩ = false) ⟨(below_drewN hbb _), an, ad, bn, bd, z0, z1, fz0, fz1⟩ (fun V hS => ?_); obtain ⟨hbb, an, ad, bn, bd, z0, z1, fz0, fz1⟩ := hS; have hsz := lt_of_cell z0; refine wp_region_held_drew (S := (fun v => Below w.heap.size w v ∧ v.cell? ⟨w.heap.size, 0, none⟩ = some (.int .i64 n) ∧ v.cell? ⟨w.heap.size, 1, none⟩ = some (.int .i64 d) ∧ v.cell? ⟨w.heap.size + 1, 0, none⟩ = some (.int .i64 m) ∧ v.cell? ⟨w.heap.size + 1, 1, none⟩ = some (.int .i64 c) ∧ v.cell? ⟨w.heap.size + 1 + 1, 0, none⟩ = some (vat v (w.heap.size + 1 + 1) 0) ∧ v.cell? ⟨w.heap.size + 1 + 1, 1, none⟩ = some (vat v (w.heap.size + 1 + 1) 1) ∧ v.frozen? ⟨w.heap.size + 1 + 1, 0, none⟩ = false ∧ v.frozen? ⟨w.heap.size + 1 + 1, 1, none⟩ = false)) (by kernel_rfl) ?_ (fun hHeld => ?_)
  · exact ⟨hbb.drew, an, ad, bn, bd, vat_of z0, vat_of z1, fz0, fz1⟩
  refine tkna 0 ?v0 rfl ?hy0 ?rest0
  case hy0 => (intro w hSw; (try dsimp only at hSw); go_simp <;> with_reducible rfl)
  (try simp only [PPz]); refine tkna 1 ?v1 rfl ?hy1 ?rest1
  case hy1 => (intro w hSw; (try dsimp only at hSw); go_simp <;> with_reducible rfl)
  (try simp only [PPz]); refine tkna 2 ?v2 rfl ?hy2 ?rest2
  case hy2 => (intro w hSw; (try dsimp only at hSw); go_simp <;> with_reducible rfl)
  (try simp only [PPz]); refine tkna 3 ?v3 rfl ?hy3 ?rest3
  case hy3 => (intro w hSw; (try dsimp only at hSw); go_simp <;> with_reducible rfl)
  (try simp only [PPz]); refine tkna 4 ?v4 rfl ?hy4 ?rest4
  case hy4 => (intro w hSw; (try dsimp only at hSw); go_simp <;> with_reducible rfl)
  (try simp only [PPz]); refine tkna 5 ?v5 rfl ?hy5 ?rest5
  case hy5 => (intro w hSw; (try dsimp only at hSw); go_simp <;> with_reducible rfl)
  (try simp only [PPz]); refine tkna 6 (.bool false) rfl ?hy6 ?rest6
  case hy6 => (intro w hSw; (try dsimp only at hSw); (go_simp; first | done | exact congrArg (fun b => Result.ok (Next.value (Value.bool b)) w) hb | (rw [hb])))
  (try simp only [PPz]); refine tkna 7 ?v7 rfl ?hy7 ?rest7
  case hy7 => (intro w hSw; (try dsimp only at hSw); go_simp <;> with_reducible rfl)
  (try simp only [PPz]); refine tkns 8 rfl (by assumption) ?rest8; (try simp only [PPz]); refine tkns 9 rfl (by assumption) ?rest9; (try simp only [PPz]); refine tkns 10 rfl (by assumption) ?rest10; (try simp only [PPz]); refine tkna 11 ?v11 rfl ?hy11 ?rest11
  case hy11 => (intro w hSw; (try dsimp only at hSw); go_simp <;> with_reducible rfl)
  (try simp only [PPz]); refine tkna 12 ?v12 rfl ?hy12 ?rest12
  case hy12 => (intro w hSw; (try dsimp only at hSw); go_simp <;> with_reducible rfl)
  (try simp only [PPz]); refine tkns 13 rfl (by assumption) ?rest13; (try simp only [PPz]); refine tkns 14 rfl (by assumption) ?rest14; (try simp only [PPz]); refine tkns 15 rfl (by assumption) ?rest15; (try simp only [PPz]); refine tkna 16 ?v16 rfl ?hy16 ?rest16
  case hy16 => (intro w hSw; (try dsimp only at hSw); go_simp <;> with_reducible rfl)
  (try simp only [PPz]); refine tkna 17 ?v17 rfl ?hy17 ?rest17
  case hy17 => (intro w hSw; (try dsimp only at hSw); go_simp <;> with_reducible rfl)
  (try simp only [PPz]); refine tkna 18 ?v18 rfl ?hy18 ?rest18
  case hy18 => (intro w hSw; (try dsimp only at hSw); go_simp <;> with_reducible rfl)
  (try simp only [PPz]); refine tkna 20 ?v20 rfl ?hy20 ?rest20
  case hy20 => (intro w hSw; (try dsimp only at hSw); go_simp <;> with_reducible rfl)
  (try simp only [PPz]); refine tkna 22 ?v22 rfl ?hy22 ?rest22
  case hy22 => (intro w hSw; (try dsimp only at hSw); go_simp <;> with_reducible rfl)
  (try simp only [PPz]); refine tkna 23 ?v23 rfl ?hy23 ?rest23
  case hy23 => (intro w hSw; (try dsimp only at hSw); go_simp <;> with_reducible rfl)
  (try simp only [PPz]); refine tkna 25 ?v25 rfl ?hy25 ?rest25
  case hy25 => (intro w hSw; (try dsimp only at hSw); go_simp <;> with_reducible rfl)
  (try simp only [PPz]); refine tkna 28 ?v28 rfl ?hy28 ?rest28
  case hy28 => (intro w hSw; (try dsimp only at hSw); go_simp <;> with_reducible rfl)
  (try simp only [PPz]); refine tkna 29 ?v29 rfl ?hy29 ?rest29
  case hy29 => (intro w hSw; (try dsimp only at hSw); go_simp <;> with_reducible rfl)
  (try simp only [PPz]); refine tkna 30 ?v30 rfl ?hy30 ?rest30
  case hy30 => (intro w hSw; (try dsimp only at hSw); go_simp <;> with_reducible rfl)
  (try simp only [PPz]); refine tkna 31 ?v31 rfl ?hy31 ?rest31
  case hy31 => (intro w hSw; (try dsimp only at hSw); go_simp <;> with_reducible rfl)
  (try simp only [PPz]); refine tkna 32 ?v32 rfl ?hy32 ?rest32
  case hy32 => (intro w hSw; (try dsimp only at hSw); go_simp <;> with_reducible rfl)
  (try simp only [PPz]); refine tkna 33 ?v33 rfl ?hy33 ?rest33
  case hy33 => (intro w hSw; (try dsimp only at hSw); go_simp <;> with_reducible rfl)
  (try simp only [PPz]); refine tkna 34 ?v34 rfl ?hy34 ?rest34
  case hy34 => (intro w hSw; (try dsimp only at hSw); go_simp <;> with_reducible rfl)
  (try simp only [PPz]); refine tkna 35 ?v35 rfl ?hy35 ?rest35
  case hy35 => (intro w hSw; (try dsimp only at hSw); go_simp <;> with_reducible rfl)
  (try simp only [PPz]); refine tkna 36 ?v36 rfl ?hy36 ?rest36
  case hy36 => (intro w hSw; (try dsimp only at hSw); go_simp <;> with_reducible rfl)
  (try simp only [PPz]); refine tkna 37 ?v37 rfl ?hy37 ?rest37
  case hy37 => (intro w hSw; (try dsimp only at hSw); go_simp <;> with_reducible rfl)
  (try simp only [PPz]); refine wpAnyH_ready (rs := [19]) (by kernel_rfl) (by simp) ?_; refine AllReadyH.cons (o := _) rfl (fun K hK => ?_) AllReadyH.nil; go_simp; refine (rabs_any _ (by omega) (by omega) _).mono ?_; rintro e w' ⟨rfl, rfl⟩; (go_wp2_with fail); refine hK.out _ _ ?_ (fun hHeld => ?_)
  · exact hHeld
  clear hK K; (try simp only [PPz]); refine tkna 21 ?v21 rfl ?hy21 ?rest21
  case hy21 => (intro w hSw; (try dsimp only at hSw); go_simp <;> with_reducible rfl)
  (try simp only [PPz]); refine wpAnyH_ready (rs := [24]) (by kernel_rfl) (by simp) ?_; refine AllReadyH.cons (o := _) rfl (fun K hK => ?_) AllReadyH.nil; go_simp; refine (rabs_any _ (by omega) (by omega) _).mono ?_; rintro e w' ⟨rfl, rfl⟩; (go_wp2_with fail); refine hK.out _ _ ?_ (fun hHeld => ?_)
  · exact hHeld
  clear hK K; (try simp only [PPz]); refine tkna 26 ?v26 rfl ?hy26 ?rest26
  case hy26 => (intro w hSw; (try dsimp only at hSw); go_simp <;> with_reducible rfl)
  (try simp only [PPz]); refine wpAnyH_ready (rs := [27]) (by kernel_rfl) (by simp) ?_; refine AllReadyH.cons (o := _) rfl (fun K hK => ?_) AllReadyH.nil; go_simp; refine (TN.out _).mono ?_; rintro e w3 ⟨rfl, hb3⟩; (go_wp2_with fail); refine hK.out _ _ ?_ (fun hHeld => ?_)
  · obtain ⟨k0, kan, kad, kbn, kbd, kz0, kz1, kfz0, kfz1⟩ := hHeld; exact ⟨keepB k0 hb3, keepC hb3 kan, keepC hb3 kad, keepC hb3 kbn, keepC hb3 kbd, vat_of (keepC hb3 kz0), vat_of (keepC hb3 kz1), keepF hb3 kz0 kfz0, keepF hb3 kz1 kfz1⟩
  clear hK K; (try simp only [PPz]); refine wpAnyH_ready (rs := [38]) (by kernel_rfl) (by simp) ?_; refine AllReadyH.cons (o := _) rfl (fun K hK => ?_) AllReadyH.nil; go_simp; refine (TD.out _).mono ?_; rintro e w3 ⟨rfl, hb3⟩; (go_wp2_with fail); refine hK.out _ _ ?_ (fun hHeld => ?_)
  · obtain ⟨k0, kan, kad, kbn, kbd, kz0, kz1, kfz0, kfz1⟩ := hHeld; exact ⟨keepB k0 hb3, keepC hb3 kan, keepC hb3 kad, keepC hb3 kbn, keepC hb3 kbd, vat_of (keepC hb3 kz0), vat_of (keepC hb3 kz1), keepF hb3 kz0 kfz0, keepF hb3 kz1 kfz1⟩
  clear hK K; (try simp only [PPz]); refine wpAnyH_ready (rs := [39]) (by kernel_rfl) (by simp) ?_; refine AllReadyH.cons (o := _) rfl (fun K hK => ?_) AllReadyH.nil; go_simp; refine (MA.out _).mono ?_; rintro e w3 ⟨rfl, hb3⟩; (go_wp2_with fail); refine hK.out _ _ ?_ (fun hHeld => ?_)
  · obtain ⟨k0, kan, kad, kbn, kbd, kz0, kz1, kfz0, kfz1⟩ := hHeld; exact ⟨keepB k0 hb3, keepC hb3 kan, keepC hb3 kad, keepC hb3 kbn, keepC hb3 kbd, vat_of (keepC hb3 kz0), vat_of (keepC hb3 kz1), keepF hb3 kz0 kfz0, keepF hb3 kz1 kfz1⟩
  clear hK K; (try simp only [PPz]); refine tkna 40 ?v40 rfl ?hy40 ?rest40
  case hy40 => (intro w hSw; (try dsimp only at hSw); go_simp <;> with_reducible rfl)
  (try simp only [PPz]); refine tkna 41 ?v41 rfl ?hy41 ?rest41
  case hy41 => (intro w hSw; (try dsimp only at hSw); go_simp <;> with_reducible rfl)
  (try simp only [PPz]); refine wpAnyH_ready (rs := [42]) (by kernel_rfl) (by simp) ?_; refine AllReadyH.cons (o := _) rfl (fun K hK => ?_) AllReadyH.nil; go_simp; refine hK.out _ _ ?_ (fun hHeld => ?_)
  · obtain ⟨k0, kan, kad, kbn, kbd, kz0, kz1, kfz0, kfz1⟩ := hHeld; exact ⟨below_set (below_set (k0) (by omega) _) (by omega) _, cell_far (cell_far (kan) (by omega) _) (by omega) _, cell_far (cell_far (kad) (by omega) _) (by omega) _, cell_far (cell_far (kbn) (by omega) _) (by omega) _, cell_far (cell_far (kbd) (by omega) _) (by omega) _, vat_set (vat_set (kz0) _ _) _ _, vat_set (vat_set (kz1) _ _) _ _, froz_set (froz_set (kfz0) _ _) _ _, froz_set (froz_set (kfz1) _ _) _ _⟩
  clear hK K; (try simp only [PPz]); refine tkna 43 ?v43 rfl ?hy43 ?rest43
  case hy43 => (intro w hSw; (try dsimp only at hSw); go_simp <;> with_reducible rfl)
  (try simp only [PPz]); refine wpAnyH_done (by kernel_rfl) ?_ _
  go_wp2
  obtain ⟨k0', _, _, _, _, k1', k2', _, _⟩ := hHeld; have r0 := res_far (by simp) k1'; have r1 := res_last k2'; exact bodyPost_ret (v := .tuple #[.agg #[.int .i64 (Rp.low (sg false (N1 * M1)) (D1 * C1)).1, .int .i64 (Rp.low (sg false (N1 * M1)) (D1 * C1)).2.1], .int .i64 (Rp.low (sg false (N1 * M1)) (D1 * C1)).2.2]) (by simp [results, Tryz.results122, go_sem, r0, r1]) rfl ⟨rfl, k0'⟩

set_option linter.unusedSimpArgs false in
set_option maxHeartbeats 4000000 in
set_option maxRecDepth 100000 in
theorem rMul_zero (n d m c N1 M1 D1 C1 : Int) (A B : Nat) (n0 : -1000000000000000000 ≤ n) (n1 : n ≤ 1000000000000000000) (d0 : 1 ≤ d) (d1 : d ≤ 1000000000000000000)
    (m0 : -1000000000000000000 ≤ m) (m1 : m ≤ 1000000000000000000) (c0 : 1 ≤ c) (c1 : c ≤ 1000000000000000000)
    (hA : n.natAbs.gcd c.natAbs = A) (hB : m.natAbs.gcd d.natAbs = B) (a0 : 1 ≤ (A : Int)) (b0 : 1 ≤ (B : Int))
    (e1 : (n.natAbs : Int) / (A : Int) = N1) (e2 : (m.natAbs : Int) / (B : Int) = M1) (e3 : (d.natAbs : Int) / (B : Int) = D1) (e4 : (c.natAbs : Int) / (A : Int) = C1)
    (N1l : 0 ≤ N1) (N1u : N1 ≤ 1000000000000000000) (M1l : 0 ≤ M1) (M1u : M1 ≤ 1000000000000000000)
    (D1l : 0 ≤ D1) (D1u : D1 ≤ 1000000000000000000) (C1l : 0 ≤ C1) (C1u : C1 ≤ 1000000000000000000) (hb : (!(decide (n < 0) == decide (m < 0))) = true) (hn : (n != 0) = false) (w : World)
    (CB : Hid (∀ w, Calls Tryz.prog 142 #[.agg #[.int .i64 n, .int .i64 d], .agg #[.int .i64 m, .int .i64 c]] w fun e w' => e = .returned (.int .i64 0) ∧ Below w.heap.size w w')) :
    Calls Tryz.prog 122 #[.agg #[.int .i64 n, .int .i64 d], .agg #[.int .i64 m, .int .i64 c]] w fun e w' => e = .returned (.tuple #[.agg #[.int .i64 (Rp.low (sg false (N1 * M1)) (D1 * C1)).1, .int .i64 (Rp.low (sg false (N1 * M1)) (D1 * C1)).2.1], .int .i64 (Rp.low (sg false (N1 * M1)) (D1 * C1)).2.2]) ∧ Below w.heap.size w w' := by
  have wc : IntKind.u64.wrap c = (c.natAbs : Int) := by rw [IntKind.wrap_u64]; omega
  have wd : IntKind.u64.wrap d = (d.natAbs : Int) := by rw [IntKind.wrap_u64]; omega
  have w1 : IntKind.u64.wrap ((n.natAbs : Int) / (A : Int)) = N1 := by rw [e1]; exact IntWalk.u64_in _ (by omega)
  have w2 : IntKind.u64.wrap ((m.natAbs : Int) / (B : Int)) = M1 := by rw [e2]; exact IntWalk.u64_in _ (by omega)
  have w3 : IntKind.u64.wrap ((d.natAbs : Int) / (B : Int)) = D1 := by rw [e3]; exact IntWalk.u64_in _ (by omega)
  have w4 : IntKind.u64.wrap ((c.natAbs : Int) / (A : Int)) = C1 := by rw [e4]; exact IntWalk.u64_in _ (by omega)
  have nA : ¬ A = 0 := by omega
  have nB : ¬ B = 0 := by omega
  have nA' : ¬ (A : Int) = 0 := by omega
  have nB' : ¬ (B : Int) = 0 := by omega
  have M0 : 0 ≤ N1 * M1 := Int.mul_nonneg (by omega) (by omega); have MU : N1 * M1 ≤ 1000000000000000000 * 1000000000000000000 := Int.mul_le_mul (by omega) (by omega) (by omega) (by omega); have D0 : 0 ≤ D1 * C1 := Int.mul_nonneg (by omega) (by omega); have DU : D1 * C1 ≤ 1000000000000000000 * 1000000000000000000 := Int.mul_le_mul (by omega) (by omega) (by omega) (by omega); have TN := Lib.hid (fun w => times_any N1 M1 (by omega) (by omega) (by omega) (by omega) w); have TD := Lib.hid (fun w => times_any D1 C1 (by omega) (by omega) (by omega) (by omega) w); have MA := Lib.hid (fun w => made_any false (N1 * M1) (D1 * C1) M0 (by omega) D0 (by omega) w); clear e1 e2 e3 e4
  go_enter Tryz.func122, Tryz.ntmps122
  (go_wp2_with fail); refine (CB.out _).mono ?_; rintro e w1' ⟨rfl, hb1⟩; have an : w1'.cell? ⟨w.heap.size, 0, none⟩ = some (.int .i64 n) := keepC hb1 (by go_simp); have ad : w1'.cell? ⟨w.heap.size, 1, none⟩ = some (.int .i64 d) := keepC hb1 (by go_simp); have bn : w1'.cell? ⟨w.heap.size + 1, 0, none⟩ = some (.int .i64 m) := keepC hb1 (by go_simp); have bd : w1'.cell? ⟨w.heap.size + 1, 1, none⟩ = some (.int .i64 c) := keepC hb1 (by go_simp); have z0 : w1'.cell? ⟨w.heap.size + 1 + 1, 0, none⟩ = some (.int .i64 0) := keepC hb1 (by go_simp); have fz0 : w1'.frozen? ⟨w.heap.size + 1 + 1, 0, none⟩ = false := keepF hb1 (v := .int .i64 0) (by go_simp) (by go_simp); have z1 : w1'.cell? ⟨w.heap.size + 1 + 1, 1, none⟩ = some (.int .i64 0) := keepC hb1 (by go_simp); have fz1 : w1'.frozen? ⟨w.heap.size + 1 + 1, 1, none⟩ = false := keepF hb1 (v := .int .i64 0) (by go_simp) (by go_simp); have hbb : Below w.heap.size w w1' := keepB ((((Below.refl _ _).alloc (Nat.le_refl _) _).alloc (by simp) _).alloc (by simp; omega) _) hb1; clear hb1; (go_wp2_with fail)
  go_quiet ((first
    | (go_at_call 83; exact quietL (rabs_any _ (by omega) (by omega) _))
    | (go_at_call 109; exact Calls.quiet_of (rgcd_any _ _ (by omega) (by omega) _))))
  go_wp2_with fail
  try simp only [hA, hB]
  clear hA hB; refine at_world (fun v => Below w.heap.size w v ∧ v.cell? ⟨w.heap.size, 0, none⟩ = some (.int .i64 n) ∧ v.cell? ⟨w.heap.size, 1, none⟩ = some (.int .i64 d) ∧ v.cell? ⟨w.heap.size + 1, 0, none⟩ = some (.int .i64 m) ∧ v.cell? ⟨w.heap.size + 1, 1, none⟩ = some (.int .i64 c) ∧ v.cell? ⟨w.heap.size + 1 + 1, 0, none⟩ = some (.int .i64 0) ∧ v.cell? ⟨w.heap.size + 1 + 1, 1, none⟩ = some (.int .i64 0) ∧ v.frozen? ⟨w.heap.size + 1 + 1, 0, none⟩ = false ∧ v.frozen? ⟨w.heap.size + 1 + 1, 1, none⟩ = false) ⟨(below_drewN hbb _), an, ad, bn, bd, z0, z1, fz0, fz1⟩ (fun V hS => ?_); obtain ⟨hbb, an, ad, bn, bd, z0, z1, fz0, fz1⟩ := hS; have hsz := lt_of_cell z0; refine wp_region_held_drew (S := (fun v => Below w.heap.size w v ∧ v.cell? ⟨w.heap.size, 0, none⟩ = some (.int .i64 n) ∧ v.cell? ⟨w.heap.size, 1, none⟩ = some (.int .i64 d) ∧ v.cell? ⟨w.heap.size + 1, 0, none⟩ = some (.int .i64 m) ∧ v.cell? ⟨w.heap.size + 1, 1, none⟩ = some (.int .i64 c) ∧ v.cell? ⟨w.heap.size + 1 + 1, 0, none⟩ = some (vat v (w.heap.size + 1 + 1) 0) ∧ v.cell? ⟨w.heap.size + 1 + 1, 1, none⟩ = some (vat v (w.heap.size + 1 + 1) 1) ∧ v.frozen? ⟨w.heap.size + 1 + 1, 0, none⟩ = false ∧ v.frozen? ⟨w.heap.size + 1 + 1, 1, none⟩ = false)) (by kernel_rfl) ?_ (fun hHeld => ?_)
  · exact ⟨hbb.drew, an, ad, bn, bd, vat_of z0, vat_of z1, fz0, fz1⟩
  refine tkna 0 ?v0 rfl ?hy0 ?rest0
  case hy0 => (intro w hSw; (try dsimp only at hSw); go_simp <;> with_reducible rfl)
  (try simp only [PPz]); refine tkna 1 ?v1 rfl ?hy1 ?rest1
  case hy1 => (intro w hSw; (try dsimp only at hSw); go_simp <;> with_reducible rfl)
  (try simp only [PPz]); refine tkna 2 ?v2 rfl ?hy2 ?rest2
  case hy2 => (intro w hSw; (try dsimp only at hSw); go_simp <;> with_reducible rfl)
  (try simp only [PPz]); refine tkna 3 ?v3 rfl ?hy3 ?rest3
  case hy3 => (intro w hSw; (try dsimp only at hSw); go_simp <;> with_reducible rfl)
  (try simp only [PPz]); refine tkna 4 ?v4 rfl ?hy4 ?rest4
  case hy4 => (intro w hSw; (try dsimp only at hSw); go_simp <;> with_reducible rfl)
  (try simp only [PPz]); refine tkna 5 ?v5 rfl ?hy5 ?rest5
  case hy5 => (intro w hSw; (try dsimp only at hSw); go_simp <;> with_reducible rfl)
  (try simp only [PPz]); refine tkna 6 (.bool true) rfl ?hy6 ?rest6
  case hy6 => (intro w hSw; (try dsimp only at hSw); (go_simp; first | done | exact congrArg (fun b => Result.ok (Next.value (Value.bool b)) w) hb | (rw [hb])))
  (try simp only [PPz]); refine tkna 7 ?v7 rfl ?hy7 ?rest7
  case hy7 => (intro w hSw; (try dsimp only at hSw); go_simp <;> with_reducible rfl)
  (try simp only [PPz]); refine tkna 8 ?v8 rfl ?hy8 ?rest8
  case hy8 => (intro w hSw; (try dsimp only at hSw); go_simp <;> with_reducible rfl)
  (try simp only [PPz]); refine tkna 9 ?v9 rfl ?hy9 ?rest9
  case hy9 => (intro w hSw; (try dsimp only at hSw); go_simp <;> with_reducible rfl)
  (try simp only [PPz]); refine tkna 10 (.bool false) rfl ?hy10 ?rest10
  case hy10 => (intro w hSw; (try dsimp only at hSw); (go_simp; first | done | exact congrArg (fun b => Result.ok (Next.value (Value.bool b)) w) hn | (rw [hn])))
  (try simp only [PPz]); refine tkna 11 ?v11 rfl ?hy11 ?rest11
  case hy11 => (intro w hSw; (try dsimp only at hSw); go_simp <;> with_reducible rfl)
  (try simp only [PPz]); refine tkna 12 ?v12 rfl ?hy12 ?rest12
  case hy12 => (intro w hSw; (try dsimp only at hSw); go_simp <;> with_reducible rfl)
  (try simp only [PPz]); refine tkns 13 rfl (by assumption) ?rest13; (try simp only [PPz]); refine tkns 14 rfl (by assumption) ?rest14; (try simp only [PPz]); refine tkns 15 rfl (by assumption) ?rest15; (try simp only [PPz]); refine tkna 16 ?v16 rfl ?hy16 ?rest16
  case hy16 => (intro w hSw; (try dsimp only at hSw); go_simp <;> with_reducible rfl)
  (try simp only [PPz]); refine tkna 17 ?v17 rfl ?hy17 ?rest17
  case hy17 => (intro w hSw; (try dsimp only at hSw); go_simp <;> with_reducible rfl)
  (try simp only [PPz]); refine tkna 18 ?v18 rfl ?hy18 ?rest18
  case hy18 => (intro w hSw; (try dsimp only at hSw); go_simp <;> with_reducible rfl)
  (try simp only [PPz]); refine tkna 20 ?v20 rfl ?hy20 ?rest20
  case hy20 => (intro w hSw; (try dsimp only at hSw); go_simp <;> with_reducible rfl)
  (try simp only [PPz]); refine tkna 22 ?v22 rfl ?hy22 ?rest22
  case hy22 => (intro w hSw; (try dsimp only at hSw); go_simp <;> with_reducible rfl)
  (try simp only [PPz]); refine tkna 23 ?v23 rfl ?hy23 ?rest23
  case hy23 => (intro w hSw; (try dsimp only at hSw); go_simp <;> with_reducible rfl)
  (try simp only [PPz]); refine tkna 25 ?v25 rfl ?hy25 ?rest25
  case hy25 => (intro w hSw; (try dsimp only at hSw); go_simp <;> with_reducible rfl)
  (try simp only [PPz]); refine tkna 28 ?v28 rfl ?hy28 ?rest28
  case hy28 => (intro w hSw; (try dsimp only at hSw); go_simp <;> with_reducible rfl)
  (try simp only [PPz]); refine tkna 29 ?v29 rfl ?hy29 ?rest29
  case hy29 => (intro w hSw; (try dsimp only at hSw); go_simp <;> with_reducible rfl)
  (try simp only [PPz]); refine tkna 30 ?v30 rfl ?hy30 ?rest30
  case hy30 => (intro w hSw; (try dsimp only at hSw); go_simp <;> with_reducible rfl)
  (try simp only [PPz]); refine tkna 31 ?v31 rfl ?hy31 ?rest31
  case hy31 => (intro w hSw; (try dsimp only at hSw); go_simp <;> with_reducible rfl)
  (try simp only [PPz]); refine tkna 32 ?v32 rfl ?hy32 ?rest32
  case hy32 => (intro w hSw; (try dsimp only at hSw); go_simp <;> with_reducible rfl)
  (try simp only [PPz]); refine tkna 33 ?v33 rfl ?hy33 ?rest33
  case hy33 => (intro w hSw; (try dsimp only at hSw); go_simp <;> with_reducible rfl)
  (try simp only [PPz]); refine tkna 34 ?v34 rfl ?hy34 ?rest34
  case hy34 => (intro w hSw; (try dsimp only at hSw); go_simp <;> with_reducible rfl)
  (try simp only [PPz]); refine tkna 35 ?v35 rfl ?hy35 ?rest35
  case hy35 => (intro w hSw; (try dsimp only at hSw); go_simp <;> with_reducible rfl)
  (try simp only [PPz]); refine tkna 36 ?v36 rfl ?hy36 ?rest36
  case hy36 => (intro w hSw; (try dsimp only at hSw); go_simp <;> with_reducible rfl)
  (try simp only [PPz]); refine tkna 37 ?v37 rfl ?hy37 ?rest37
  case hy37 => (intro w hSw; (try dsimp only at hSw); go_simp <;> with_reducible rfl)
  (try simp only [PPz]); refine wpAnyH_ready (rs := [19]) (by kernel_rfl) (by simp) ?_; refine AllReadyH.cons (o := _) rfl (fun K hK => ?_) AllReadyH.nil; go_simp; refine (rabs_any _ (by omega) (by omega) _).mono ?_; rintro e w' ⟨rfl, rfl⟩; (go_wp2_with fail); refine hK.out _ _ ?_ (fun hHeld => ?_)
  · exact hHeld
  clear hK K; (try simp only [PPz]); refine tkna 21 ?v21 rfl ?hy21 ?rest21
  case hy21 => (intro w hSw; (try dsimp only at hSw); go_simp <;> with_reducible rfl)
  (try simp only [PPz]); refine wpAnyH_ready (rs := [24]) (by kernel_rfl) (by simp) ?_; refine AllReadyH.cons (o := _) rfl (fun K hK => ?_) AllReadyH.nil; go_simp; refine (rabs_any _ (by omega) (by omega) _).mono ?_; rintro e w' ⟨rfl, rfl⟩; (go_wp2_with fail); refine hK.out _ _ ?_ (fun hHeld => ?_)
  · exact hHeld
  clear hK K; (try simp only [PPz]); refine tkna 26 ?v26 rfl ?hy26 ?rest26
  case hy26 => (intro w hSw; (try dsimp only at hSw); go_simp <;> with_reducible rfl)
  (try simp only [PPz]); refine wpAnyH_ready (rs := [27]) (by kernel_rfl) (by simp) ?_; refine AllReadyH.cons (o := _) rfl (fun K hK => ?_) AllReadyH.nil; go_simp; refine (TN.out _).mono ?_; rintro e w3 ⟨rfl, hb3⟩; (go_wp2_with fail); refine hK.out _ _ ?_ (fun hHeld => ?_)
  · obtain ⟨k0, kan, kad, kbn, kbd, kz0, kz1, kfz0, kfz1⟩ := hHeld; exact ⟨keepB k0 hb3, keepC hb3 kan, keepC hb3 kad, keepC hb3 kbn, keepC hb3 kbd, vat_of (keepC hb3 kz0), vat_of (keepC hb3 kz1), keepF hb3 kz0 kfz0, keepF hb3 kz1 kfz1⟩
  clear hK K; (try simp only [PPz]); refine wpAnyH_ready (rs := [38]) (by kernel_rfl) (by simp) ?_; refine AllReadyH.cons (o := _) rfl (fun K hK => ?_) AllReadyH.nil; go_simp; refine (TD.out _).mono ?_; rintro e w3 ⟨rfl, hb3⟩; (go_wp2_with fail); refine hK.out _ _ ?_ (fun hHeld => ?_)
  · obtain ⟨k0, kan, kad, kbn, kbd, kz0, kz1, kfz0, kfz1⟩ := hHeld; exact ⟨keepB k0 hb3, keepC hb3 kan, keepC hb3 kad, keepC hb3 kbn, keepC hb3 kbd, vat_of (keepC hb3 kz0), vat_of (keepC hb3 kz1), keepF hb3 kz0 kfz0, keepF hb3 kz1 kfz1⟩
  clear hK K; (try simp only [PPz]); refine wpAnyH_ready (rs := [39]) (by kernel_rfl) (by simp) ?_; refine AllReadyH.cons (o := _) rfl (fun K hK => ?_) AllReadyH.nil; go_simp; refine (MA.out _).mono ?_; rintro e w3 ⟨rfl, hb3⟩; (go_wp2_with fail); refine hK.out _ _ ?_ (fun hHeld => ?_)
  · obtain ⟨k0, kan, kad, kbn, kbd, kz0, kz1, kfz0, kfz1⟩ := hHeld; exact ⟨keepB k0 hb3, keepC hb3 kan, keepC hb3 kad, keepC hb3 kbn, keepC hb3 kbd, vat_of (keepC hb3 kz0), vat_of (keepC hb3 kz1), keepF hb3 kz0 kfz0, keepF hb3 kz1 kfz1⟩
  clear hK K; (try simp only [PPz]); refine tkna 40 ?v40 rfl ?hy40 ?rest40
  case hy40 => (intro w hSw; (try dsimp only at hSw); go_simp <;> with_reducible rfl)
  (try simp only [PPz]); refine tkna 41 ?v41 rfl ?hy41 ?rest41
  case hy41 => (intro w hSw; (try dsimp only at hSw); go_simp <;> with_reducible rfl)
  (try simp only [PPz]); refine wpAnyH_ready (rs := [42]) (by kernel_rfl) (by simp) ?_; refine AllReadyH.cons (o := _) rfl (fun K hK => ?_) AllReadyH.nil; go_simp; refine hK.out _ _ ?_ (fun hHeld => ?_)
  · obtain ⟨k0, kan, kad, kbn, kbd, kz0, kz1, kfz0, kfz1⟩ := hHeld; exact ⟨below_set (below_set (k0) (by omega) _) (by omega) _, cell_far (cell_far (kan) (by omega) _) (by omega) _, cell_far (cell_far (kad) (by omega) _) (by omega) _, cell_far (cell_far (kbn) (by omega) _) (by omega) _, cell_far (cell_far (kbd) (by omega) _) (by omega) _, vat_set (vat_set (kz0) _ _) _ _, vat_set (vat_set (kz1) _ _) _ _, froz_set (froz_set (kfz0) _ _) _ _, froz_set (froz_set (kfz1) _ _) _ _⟩
  clear hK K; (try simp only [PPz]); refine tkna 43 ?v43 rfl ?hy43 ?rest43
  case hy43 => (intro w hSw; (try dsimp only at hSw); go_simp <;> with_reducible rfl)
  (try simp only [PPz]); refine wpAnyH_done (by kernel_rfl) ?_ _
  go_wp2
  obtain ⟨k0', _, _, _, _, k1', k2', _, _⟩ := hHeld; have r0 := res_far (by simp) k1'; have r1 := res_last k2'; exact bodyPost_ret (v := .tuple #[.agg #[.int .i64 (Rp.low (sg false (N1 * M1)) (D1 * C1)).1, .int .i64 (Rp.low (sg false (N1 * M1)) (D1 * C1)).2.1], .int .i64 (Rp.low (sg false (N1 * M1)) (D1 * C1)).2.2]) (by simp [results, Tryz.results122, go_sem, r0, r1]) rfl ⟨rfl, k0'⟩

set_option linter.unusedSimpArgs false in
set_option maxHeartbeats 4000000 in
set_option maxRecDepth 100000 in
theorem rMul_none (n d m c N1 M1 D1 C1 : Int) (A B : Nat) (n0 : -1000000000000000000 ≤ n) (n1 : n ≤ 1000000000000000000) (d0 : 1 ≤ d) (d1 : d ≤ 1000000000000000000)
    (m0 : -1000000000000000000 ≤ m) (m1 : m ≤ 1000000000000000000) (c0 : 1 ≤ c) (c1 : c ≤ 1000000000000000000)
    (hA : n.natAbs.gcd c.natAbs = A) (hB : m.natAbs.gcd d.natAbs = B) (a0 : 1 ≤ (A : Int)) (b0 : 1 ≤ (B : Int))
    (e1 : (n.natAbs : Int) / (A : Int) = N1) (e2 : (m.natAbs : Int) / (B : Int) = M1) (e3 : (d.natAbs : Int) / (B : Int) = D1) (e4 : (c.natAbs : Int) / (A : Int) = C1)
    (N1l : 0 ≤ N1) (N1u : N1 ≤ 1000000000000000000) (M1l : 0 ≤ M1) (M1u : M1 ≤ 1000000000000000000)
    (D1l : 0 ≤ D1) (D1u : D1 ≤ 1000000000000000000) (C1l : 0 ≤ C1) (C1u : C1 ≤ 1000000000000000000) (hb : (!(decide (n < 0) == decide (m < 0))) = true) (hn : (n != 0) = true) (hm : (m != 0) = false) (w : World)
    (CB : Hid (∀ w, Calls Tryz.prog 142 #[.agg #[.int .i64 n, .int .i64 d], .agg #[.int .i64 m, .int .i64 c]] w fun e w' => e = .returned (.int .i64 0) ∧ Below w.heap.size w w')) :
    Calls Tryz.prog 122 #[.agg #[.int .i64 n, .int .i64 d], .agg #[.int .i64 m, .int .i64 c]] w fun e w' => e = .returned (.tuple #[.agg #[.int .i64 (Rp.low (sg false (N1 * M1)) (D1 * C1)).1, .int .i64 (Rp.low (sg false (N1 * M1)) (D1 * C1)).2.1], .int .i64 (Rp.low (sg false (N1 * M1)) (D1 * C1)).2.2]) ∧ Below w.heap.size w w' := by
  have wc : IntKind.u64.wrap c = (c.natAbs : Int) := by rw [IntKind.wrap_u64]; omega
  have wd : IntKind.u64.wrap d = (d.natAbs : Int) := by rw [IntKind.wrap_u64]; omega
  have w1 : IntKind.u64.wrap ((n.natAbs : Int) / (A : Int)) = N1 := by rw [e1]; exact IntWalk.u64_in _ (by omega)
  have w2 : IntKind.u64.wrap ((m.natAbs : Int) / (B : Int)) = M1 := by rw [e2]; exact IntWalk.u64_in _ (by omega)
  have w3 : IntKind.u64.wrap ((d.natAbs : Int) / (B : Int)) = D1 := by rw [e3]; exact IntWalk.u64_in _ (by omega)
  have w4 : IntKind.u64.wrap ((c.natAbs : Int) / (A : Int)) = C1 := by rw [e4]; exact IntWalk.u64_in _ (by omega)
  have nA : ¬ A = 0 := by omega
  have nB : ¬ B = 0 := by omega
  have nA' : ¬ (A : Int) = 0 := by omega
  have nB' : ¬ (B : Int) = 0 := by omega
  have M0 : 0 ≤ N1 * M1 := Int.mul_nonneg (by omega) (by omega); have MU : N1 * M1 ≤ 1000000000000000000 * 1000000000000000000 := Int.mul_le_mul (by omega) (by omega) (by omega) (by omega); have D0 : 0 ≤ D1 * C1 := Int.mul_nonneg (by omega) (by omega); have DU : D1 * C1 ≤ 1000000000000000000 * 1000000000000000000 := Int.mul_le_mul (by omega) (by omega) (by omega) (by omega); have TN := Lib.hid (fun w => times_any N1 M1 (by omega) (by omega) (by omega) (by omega) w); have TD := Lib.hid (fun w => times_any D1 C1 (by omega) (by omega) (by omega) (by omega) w); have MA := Lib.hid (fun w => made_any false (N1 * M1) (D1 * C1) M0 (by omega) D0 (by omega) w); clear e1 e2 e3 e4
  go_enter Tryz.func122, Tryz.ntmps122
  (go_wp2_with fail); refine (CB.out _).mono ?_; rintro e w1' ⟨rfl, hb1⟩; have an : w1'.cell? ⟨w.heap.size, 0, none⟩ = some (.int .i64 n) := keepC hb1 (by go_simp); have ad : w1'.cell? ⟨w.heap.size, 1, none⟩ = some (.int .i64 d) := keepC hb1 (by go_simp); have bn : w1'.cell? ⟨w.heap.size + 1, 0, none⟩ = some (.int .i64 m) := keepC hb1 (by go_simp); have bd : w1'.cell? ⟨w.heap.size + 1, 1, none⟩ = some (.int .i64 c) := keepC hb1 (by go_simp); have z0 : w1'.cell? ⟨w.heap.size + 1 + 1, 0, none⟩ = some (.int .i64 0) := keepC hb1 (by go_simp); have fz0 : w1'.frozen? ⟨w.heap.size + 1 + 1, 0, none⟩ = false := keepF hb1 (v := .int .i64 0) (by go_simp) (by go_simp); have z1 : w1'.cell? ⟨w.heap.size + 1 + 1, 1, none⟩ = some (.int .i64 0) := keepC hb1 (by go_simp); have fz1 : w1'.frozen? ⟨w.heap.size + 1 + 1, 1, none⟩ = false := keepF hb1 (v := .int .i64 0) (by go_simp) (by go_simp); have hbb : Below w.heap.size w w1' := keepB ((((Below.refl _ _).alloc (Nat.le_refl _) _).alloc (by simp) _).alloc (by simp; omega) _) hb1; clear hb1; (go_wp2_with fail)
  go_quiet ((first
    | (go_at_call 83; exact quietL (rabs_any _ (by omega) (by omega) _))
    | (go_at_call 109; exact Calls.quiet_of (rgcd_any _ _ (by omega) (by omega) _))))
  go_wp2_with fail
  try simp only [hA, hB]
  clear hA hB; refine at_world (fun v => Below w.heap.size w v ∧ v.cell? ⟨w.heap.size, 0, none⟩ = some (.int .i64 n) ∧ v.cell? ⟨w.heap.size, 1, none⟩ = some (.int .i64 d) ∧ v.cell? ⟨w.heap.size + 1, 0, none⟩ = some (.int .i64 m) ∧ v.cell? ⟨w.heap.size + 1, 1, none⟩ = some (.int .i64 c) ∧ v.cell? ⟨w.heap.size + 1 + 1, 0, none⟩ = some (.int .i64 0) ∧ v.cell? ⟨w.heap.size + 1 + 1, 1, none⟩ = some (.int .i64 0) ∧ v.frozen? ⟨w.heap.size + 1 + 1, 0, none⟩ = false ∧ v.frozen? ⟨w.heap.size + 1 + 1, 1, none⟩ = false) ⟨(below_drewN hbb _), an, ad, bn, bd, z0, z1, fz0, fz1⟩ (fun V hS => ?_); obtain ⟨hbb, an, ad, bn, bd, z0, z1, fz0, fz1⟩ := hS; have hsz := lt_of_cell z0; refine wp_region_held_drew (S := (fun v => Below w.heap.size w v ∧ v.cell? ⟨w.heap.size, 0, none⟩ = some (.int .i64 n) ∧ v.cell? ⟨w.heap.size, 1, none⟩ = some (.int .i64 d) ∧ v.cell? ⟨w.heap.size + 1, 0, none⟩ = some (.int .i64 m) ∧ v.cell? ⟨w.heap.size + 1, 1, none⟩ = some (.int .i64 c) ∧ v.cell? ⟨w.heap.size + 1 + 1, 0, none⟩ = some (vat v (w.heap.size + 1 + 1) 0) ∧ v.cell? ⟨w.heap.size + 1 + 1, 1, none⟩ = some (vat v (w.heap.size + 1 + 1) 1) ∧ v.frozen? ⟨w.heap.size + 1 + 1, 0, none⟩ = false ∧ v.frozen? ⟨w.heap.size + 1 + 1, 1, none⟩ = false)) (by kernel_rfl) ?_ (fun hHeld => ?_)
  · exact ⟨hbb.drew, an, ad, bn, bd, vat_of z0, vat_of z1, fz0, fz1⟩
  refine tkna 0 ?v0 rfl ?hy0 ?rest0
  case hy0 => (intro w hSw; (try dsimp only at hSw); go_simp <;> with_reducible rfl)
  (try simp only [PPz]); refine tkna 1 ?v1 rfl ?hy1 ?rest1
  case hy1 => (intro w hSw; (try dsimp only at hSw); go_simp <;> with_reducible rfl)
  (try simp only [PPz]); refine tkna 2 ?v2 rfl ?hy2 ?rest2
  case hy2 => (intro w hSw; (try dsimp only at hSw); go_simp <;> with_reducible rfl)
  (try simp only [PPz]); refine tkna 3 ?v3 rfl ?hy3 ?rest3
  case hy3 => (intro w hSw; (try dsimp only at hSw); go_simp <;> with_reducible rfl)
  (try simp only [PPz]); refine tkna 4 ?v4 rfl ?hy4 ?rest4
  case hy4 => (intro w hSw; (try dsimp only at hSw); go_simp <;> with_reducible rfl)
  (try simp only [PPz]); refine tkna 5 ?v5 rfl ?hy5 ?rest5
  case hy5 => (intro w hSw; (try dsimp only at hSw); go_simp <;> with_reducible rfl)
  (try simp only [PPz]); refine tkna 6 (.bool true) rfl ?hy6 ?rest6
  case hy6 => (intro w hSw; (try dsimp only at hSw); (go_simp; first | done | exact congrArg (fun b => Result.ok (Next.value (Value.bool b)) w) hb | (rw [hb])))
  (try simp only [PPz]); refine tkna 7 ?v7 rfl ?hy7 ?rest7
  case hy7 => (intro w hSw; (try dsimp only at hSw); go_simp <;> with_reducible rfl)
  (try simp only [PPz]); refine tkna 8 ?v8 rfl ?hy8 ?rest8
  case hy8 => (intro w hSw; (try dsimp only at hSw); go_simp <;> with_reducible rfl)
  (try simp only [PPz]); refine tkna 9 ?v9 rfl ?hy9 ?rest9
  case hy9 => (intro w hSw; (try dsimp only at hSw); go_simp <;> with_reducible rfl)
  (try simp only [PPz]); refine tkna 10 (.bool true) rfl ?hy10 ?rest10
  case hy10 => (intro w hSw; (try dsimp only at hSw); (go_simp; first | done | exact congrArg (fun b => Result.ok (Next.value (Value.bool b)) w) hn | (rw [hn])))
  (try simp only [PPz]); refine tkna 11 ?v11 rfl ?hy11 ?rest11
  case hy11 => (intro w hSw; (try dsimp only at hSw); go_simp <;> with_reducible rfl)
  (try simp only [PPz]); refine tkna 12 ?v12 rfl ?hy12 ?rest12
  case hy12 => (intro w hSw; (try dsimp only at hSw); go_simp <;> with_reducible rfl)
  (try simp only [PPz]); refine tkna 13 ?v13 rfl ?hy13 ?rest13
  case hy13 => (intro w hSw; (try dsimp only at hSw); go_simp <;> with_reducible rfl)
  (try simp only [PPz]); refine tkna 14 ?v14 rfl ?hy14 ?rest14
  case hy14 => (intro w hSw; (try dsimp only at hSw); go_simp <;> with_reducible rfl)
  (try simp only [PPz]); refine tkna 15 (.bool false) rfl ?hy15 ?rest15
  case hy15 => (intro w hSw; (try dsimp only at hSw); (go_simp; first | done | exact congrArg (fun b => Result.ok (Next.value (Value.bool b)) w) hm | (rw [hm])))
  (try simp only [PPz]); refine tkna 16 ?v16 rfl ?hy16 ?rest16
  case hy16 => (intro w hSw; (try dsimp only at hSw); go_simp <;> with_reducible rfl)
  (try simp only [PPz]); refine tkna 17 ?v17 rfl ?hy17 ?rest17
  case hy17 => (intro w hSw; (try dsimp only at hSw); go_simp <;> with_reducible rfl)
  (try simp only [PPz]); refine tkna 18 ?v18 rfl ?hy18 ?rest18
  case hy18 => (intro w hSw; (try dsimp only at hSw); go_simp <;> with_reducible rfl)
  (try simp only [PPz]); refine tkna 20 ?v20 rfl ?hy20 ?rest20
  case hy20 => (intro w hSw; (try dsimp only at hSw); go_simp <;> with_reducible rfl)
  (try simp only [PPz]); refine tkna 22 ?v22 rfl ?hy22 ?rest22
  case hy22 => (intro w hSw; (try dsimp only at hSw); go_simp <;> with_reducible rfl)
  (try simp only [PPz]); refine tkna 23 ?v23 rfl ?hy23 ?rest23
  case hy23 => (intro w hSw; (try dsimp only at hSw); go_simp <;> with_reducible rfl)
  (try simp only [PPz]); refine tkna 25 ?v25 rfl ?hy25 ?rest25
  case hy25 => (intro w hSw; (try dsimp only at hSw); go_simp <;> with_reducible rfl)
  (try simp only [PPz]); refine tkna 28 ?v28 rfl ?hy28 ?rest28
  case hy28 => (intro w hSw; (try dsimp only at hSw); go_simp <;> with_reducible rfl)
  (try simp only [PPz]); refine tkna 29 ?v29 rfl ?hy29 ?rest29
  case hy29 => (intro w hSw; (try dsimp only at hSw); go_simp <;> with_reducible rfl)
  (try simp only [PPz]); refine tkna 30 ?v30 rfl ?hy30 ?rest30
  case hy30 => (intro w hSw; (try dsimp only at hSw); go_simp <;> with_reducible rfl)
  (try simp only [PPz]); refine tkna 31 ?v31 rfl ?hy31 ?rest31
  case hy31 => (intro w hSw; (try dsimp only at hSw); go_simp <;> with_reducible rfl)
  (try simp only [PPz]); refine tkna 32 ?v32 rfl ?hy32 ?rest32
  case hy32 => (intro w hSw; (try dsimp only at hSw); go_simp <;> with_reducible rfl)
  (try simp only [PPz]); refine tkna 33 ?v33 rfl ?hy33 ?rest33
  case hy33 => (intro w hSw; (try dsimp only at hSw); go_simp <;> with_reducible rfl)
  (try simp only [PPz]); refine tkna 34 ?v34 rfl ?hy34 ?rest34
  case hy34 => (intro w hSw; (try dsimp only at hSw); go_simp <;> with_reducible rfl)
  (try simp only [PPz]); refine tkna 35 ?v35 rfl ?hy35 ?rest35
  case hy35 => (intro w hSw; (try dsimp only at hSw); go_simp <;> with_reducible rfl)
  (try simp only [PPz]); refine tkna 36 ?v36 rfl ?hy36 ?rest36
  case hy36 => (intro w hSw; (try dsimp only at hSw); go_simp <;> with_reducible rfl)
  (try simp only [PPz]); refine tkna 37 ?v37 rfl ?hy37 ?rest37
  case hy37 => (intro w hSw; (try dsimp only at hSw); go_simp <;> with_reducible rfl)
  (try simp only [PPz]); refine wpAnyH_ready (rs := [19]) (by kernel_rfl) (by simp) ?_; refine AllReadyH.cons (o := _) rfl (fun K hK => ?_) AllReadyH.nil; go_simp; refine (rabs_any _ (by omega) (by omega) _).mono ?_; rintro e w' ⟨rfl, rfl⟩; (go_wp2_with fail); refine hK.out _ _ ?_ (fun hHeld => ?_)
  · exact hHeld
  clear hK K; (try simp only [PPz]); refine tkna 21 ?v21 rfl ?hy21 ?rest21
  case hy21 => (intro w hSw; (try dsimp only at hSw); go_simp <;> with_reducible rfl)
  (try simp only [PPz]); refine wpAnyH_ready (rs := [24]) (by kernel_rfl) (by simp) ?_; refine AllReadyH.cons (o := _) rfl (fun K hK => ?_) AllReadyH.nil; go_simp; refine (rabs_any _ (by omega) (by omega) _).mono ?_; rintro e w' ⟨rfl, rfl⟩; (go_wp2_with fail); refine hK.out _ _ ?_ (fun hHeld => ?_)
  · exact hHeld
  clear hK K; (try simp only [PPz]); refine tkna 26 ?v26 rfl ?hy26 ?rest26
  case hy26 => (intro w hSw; (try dsimp only at hSw); go_simp <;> with_reducible rfl)
  (try simp only [PPz]); refine wpAnyH_ready (rs := [27]) (by kernel_rfl) (by simp) ?_; refine AllReadyH.cons (o := _) rfl (fun K hK => ?_) AllReadyH.nil; go_simp; refine (TN.out _).mono ?_; rintro e w3 ⟨rfl, hb3⟩; (go_wp2_with fail); refine hK.out _ _ ?_ (fun hHeld => ?_)
  · obtain ⟨k0, kan, kad, kbn, kbd, kz0, kz1, kfz0, kfz1⟩ := hHeld; exact ⟨keepB k0 hb3, keepC hb3 kan, keepC hb3 kad, keepC hb3 kbn, keepC hb3 kbd, vat_of (keepC hb3 kz0), vat_of (keepC hb3 kz1), keepF hb3 kz0 kfz0, keepF hb3 kz1 kfz1⟩
  clear hK K; (try simp only [PPz]); refine wpAnyH_ready (rs := [38]) (by kernel_rfl) (by simp) ?_; refine AllReadyH.cons (o := _) rfl (fun K hK => ?_) AllReadyH.nil; go_simp; refine (TD.out _).mono ?_; rintro e w3 ⟨rfl, hb3⟩; (go_wp2_with fail); refine hK.out _ _ ?_ (fun hHeld => ?_)
  · obtain ⟨k0, kan, kad, kbn, kbd, kz0, kz1, kfz0, kfz1⟩ := hHeld; exact ⟨keepB k0 hb3, keepC hb3 kan, keepC hb3 kad, keepC hb3 kbn, keepC hb3 kbd, vat_of (keepC hb3 kz0), vat_of (keepC hb3 kz1), keepF hb3 kz0 kfz0, keepF hb3 kz1 kfz1⟩
  clear hK K; (try simp only [PPz]); refine wpAnyH_ready (rs := [39]) (by kernel_rfl) (by simp) ?_; refine AllReadyH.cons (o := _) rfl (fun K hK => ?_) AllReadyH.nil; go_simp; refine (MA.out _).mono ?_; rintro e w3 ⟨rfl, hb3⟩; (go_wp2_with fail); refine hK.out _ _ ?_ (fun hHeld => ?_)
  · obtain ⟨k0, kan, kad, kbn, kbd, kz0, kz1, kfz0, kfz1⟩ := hHeld; exact ⟨keepB k0 hb3, keepC hb3 kan, keepC hb3 kad, keepC hb3 kbn, keepC hb3 kbd, vat_of (keepC hb3 kz0), vat_of (keepC hb3 kz1), keepF hb3 kz0 kfz0, keepF hb3 kz1 kfz1⟩
  clear hK K; (try simp only [PPz]); refine tkna 40 ?v40 rfl ?hy40 ?rest40
  case hy40 => (intro w hSw; (try dsimp only at hSw); go_simp <;> with_reducible rfl)
  (try simp only [PPz]); refine tkna 41 ?v41 rfl ?hy41 ?rest41
  case hy41 => (intro w hSw; (try dsimp only at hSw); go_simp <;> with_reducible rfl)
  (try simp only [PPz]); refine wpAnyH_ready (rs := [42]) (by kernel_rfl) (by simp) ?_; refine AllReadyH.cons (o := _) rfl (fun K hK => ?_) AllReadyH.nil; go_simp; refine hK.out _ _ ?_ (fun hHeld => ?_)
  · obtain ⟨k0, kan, kad, kbn, kbd, kz0, kz1, kfz0, kfz1⟩ := hHeld; exact ⟨below_set (below_set (k0) (by omega) _) (by omega) _, cell_far (cell_far (kan) (by omega) _) (by omega) _, cell_far (cell_far (kad) (by omega) _) (by omega) _, cell_far (cell_far (kbn) (by omega) _) (by omega) _, cell_far (cell_far (kbd) (by omega) _) (by omega) _, vat_set (vat_set (kz0) _ _) _ _, vat_set (vat_set (kz1) _ _) _ _, froz_set (froz_set (kfz0) _ _) _ _, froz_set (froz_set (kfz1) _ _) _ _⟩
  clear hK K; (try simp only [PPz]); refine tkna 43 ?v43 rfl ?hy43 ?rest43
  case hy43 => (intro w hSw; (try dsimp only at hSw); go_simp <;> with_reducible rfl)
  (try simp only [PPz]); refine wpAnyH_done (by kernel_rfl) ?_ _
  go_wp2
  obtain ⟨k0', _, _, _, _, k1', k2', _, _⟩ := hHeld; have r0 := res_far (by simp) k1'; have r1 := res_last k2'; exact bodyPost_ret (v := .tuple #[.agg #[.int .i64 (Rp.low (sg false (N1 * M1)) (D1 * C1)).1, .int .i64 (Rp.low (sg false (N1 * M1)) (D1 * C1)).2.1], .int .i64 (Rp.low (sg false (N1 * M1)) (D1 * C1)).2.2]) (by simp [results, Tryz.results122, go_sem, r0, r1]) rfl ⟨rfl, k0'⟩

theorem tdiv_abs (n : Int) (A : Nat) : n.tdiv A = if n < 0 then -((n.natAbs : Int) / A) else (n.natAbs : Int) / A := by
  split
  · rename_i h
    have e : n = -(n.natAbs : Int) := by omega
    rw [show n.tdiv A = (-(n.natAbs : Int)).tdiv A by rw [← e], Int.neg_tdiv, Int.tdiv_eq_ediv_of_nonneg (by omega)]
  · rename_i h
    have e : n = (n.natAbs : Int) := by omega
    rw [show n.tdiv A = ((n.natAbs : Int)).tdiv A by rw [← e], Int.tdiv_eq_ediv_of_nonneg (by omega)]

theorem rMul_valid (n d m c : Int) (h : Rp.Ok n d) (k : Rp.Ok m c) (w : World)
    (CB : Hid (∀ w, Calls Tryz.prog 142 #[.agg #[.int .i64 n, .int .i64 d], .agg #[.int .i64 m, .int .i64 c]] w fun e w' => e = .returned (.int .i64 0) ∧ Below w.heap.size w w')) :
    Calls Tryz.prog 122 #[.agg #[.int .i64 n, .int .i64 d], .agg #[.int .i64 m, .int .i64 c]] w fun e w' => e = .returned (.tuple #[.agg #[.int .i64 (Rp.mul n d m c).1, .int .i64 (Rp.mul n d m c).2.1], .int .i64 (Rp.mul n d m c).2.2]) ∧ Below w.heap.size w w' := by
  obtain ⟨p1, p2, p3, p4, p5, p6, p7, p8⟩ := Rp.mul_parts h k _ _ rfl rfl; obtain ⟨h1, h2, h3, h4, h5⟩ := h; obtain ⟨k1, k2, k3, k4, k5⟩ := k
  have ec : (c.natAbs : Int) = c := by omega
  have ed : (d.natAbs : Int) = d := by omega
  have e : Rp.mul n d m c = Rp.low (n.tdiv (Nat.gcd n.natAbs c.natAbs) * m.tdiv (Nat.gcd m.natAbs d.natAbs)) (d / (Nat.gcd m.natAbs d.natAbs : Int) * (c / (Nat.gcd n.natAbs c.natAbs : Int))) := by
    unfold Rp.mul Rp.ofQ
    rw [p1, p2]
  rw [e]; clear e p1 p2 p5 p6
  generalize hA : Nat.gcd n.natAbs c.natAbs = A at *
  generalize hB : Nat.gcd m.natAbs d.natAbs = B at *
  rw [tdiv_abs, tdiv_abs]
  have a0 : (0 : Int) ≤ A := by omega
  have b0 : (0 : Int) ≤ B := by omega
  have N0 : 0 ≤ (n.natAbs : Int) / (A : Int) := Int.ediv_nonneg (by omega) (by omega); have N1 : (n.natAbs : Int) / (A : Int) ≤ (n.natAbs : Int) := Int.ediv_le_self _ (by omega); have M0 : 0 ≤ (m.natAbs : Int) / (B : Int) := Int.ediv_nonneg (by omega) (by omega); have M1 : (m.natAbs : Int) / (B : Int) ≤ (m.natAbs : Int) := Int.ediv_le_self _ (by omega); have D0 : 0 ≤ d / (B : Int) := Int.ediv_nonneg (by omega) (by omega); have D1 : d / (B : Int) ≤ d := Int.ediv_le_self _ (by omega); have C0 : 0 ≤ c / (A : Int) := Int.ediv_nonneg (by omega) (by omega); have C1 : c / (A : Int) ≤ c := Int.ediv_le_self _ (by omega); obtain ⟨Q, hQ⟩ : ∃ Q, Q = (n.natAbs : Int) / (A : Int) := ⟨_, rfl⟩; obtain ⟨R, hR⟩ : ∃ R, R = (m.natAbs : Int) / (B : Int) := ⟨_, rfl⟩; rw [← hQ] at N0 N1 ⊢; rw [← hR] at M0 M1 ⊢
  by_cases hs : decide (n < 0) = decide (m < 0)
  · have e : (if n < 0 then -Q else Q) * (if m < 0 then -R else R) = sg false (Q * R) := by
      unfold sg
      by_cases g : n < 0
      · have g' : m < 0 := by rw [decide_eq_true g] at hs; exact of_decide_eq_true hs.symm
        rw [if_pos g, if_pos g', Int.neg_mul_neg]; rfl
      · have g' : ¬ m < 0 := by rw [decide_eq_false g] at hs; exact of_decide_eq_false hs.symm
        rw [if_neg g, if_neg g']; rfl
    rw [e]; exact rMul_alike n d m c Q R (d / (B : Int)) (c / (A : Int)) A B h3 h4 h1 h2 k3 k4 k1 k2 hA hB (by omega) (by omega) hQ.symm hR.symm (by rw [ed]) (by rw [ec]) N0 (by omega) M0 (by omega) D0 (by omega) C0 (by omega) (by rw [hs]; simp) w CB
  · have hb : (!(decide (n < 0) == decide (m < 0))) = true := by cases h1 : decide (n < 0) <;> cases h2 : decide (m < 0) <;> simp_all
    by_cases hn : n = 0
    · have q0 : Q = 0 := by rw [hQ, hn]; simp
      have e : (if n < 0 then -Q else Q) * (if m < 0 then -R else R) = sg false (Q * R) := by unfold sg; rw [q0, hn]; simp
      rw [e]; exact rMul_zero n d m c Q R (d / (B : Int)) (c / (A : Int)) A B h3 h4 h1 h2 k3 k4 k1 k2 hA hB (by omega) (by omega) hQ.symm hR.symm (by rw [ed]) (by rw [ec]) N0 (by omega) M0 (by omega) D0 (by omega) C0 (by omega) hb (by rw [hn]; rfl) w CB
    · have hn' : (n != 0) = true := by rw [bne_iff_ne]; exact hn
      by_cases hm : m = 0
      · have q0 : R = 0 := by rw [hR, hm]; simp
        have e : (if n < 0 then -Q else Q) * (if m < 0 then -R else R) = sg false (Q * R) := by unfold sg; rw [q0, hm]; simp
        rw [e]; exact rMul_none n d m c Q R (d / (B : Int)) (c / (A : Int)) A B h3 h4 h1 h2 k3 k4 k1 k2 hA hB (by omega) (by omega) hQ.symm hR.symm (by rw [ed]) (by rw [ec]) N0 (by omega) M0 (by omega) D0 (by omega) C0 (by omega) hb hn' (by rw [hm]; rfl) w CB
      · have hm' : (m != 0) = true := by rw [bne_iff_ne]; exact hm
        have e : (if n < 0 then -Q else Q) * (if m < 0 then -R else R) = sg true (Q * R) := by
          unfold sg
          by_cases g : n < 0
          · have g' : ¬ m < 0 := by intro g'; exact hs (by rw [decide_eq_true g, decide_eq_true g'])
            rw [if_pos g, if_neg g', if_pos rfl, Int.neg_mul]
          · have g' : m < 0 := by
              by_cases g' : m < 0
              · exact g'
              · exact absurd (by rw [decide_eq_false g, decide_eq_false g']) hs
            rw [if_neg g, if_pos g', if_pos rfl, Int.mul_neg]
        rw [e]; exact rMul_apart n d m c Q R (d / (B : Int)) (c / (A : Int)) A B h3 h4 h1 h2 k3 k4 k1 k2 hA hB (by omega) (by omega) hQ.symm hR.symm (by rw [ed]) (by rw [ec]) N0 (by omega) M0 (by omega) D0 (by omega) C0 (by omega) (by simpa using hb) hn' hm' w CB

set_option maxHeartbeats 1000000 in
theorem rMul_any (n d m c : Int) (w : World) (n0 : -9223372036854775808 ≤ n) (n1 : n ≤ 9223372036854775807) (d0 : -9223372036854775808 ≤ d) (d1 : d ≤ 9223372036854775807)
    (m0 : -9223372036854775808 ≤ m) (m1 : m ≤ 9223372036854775807) (c0 : -9223372036854775808 ≤ c) (c1 : c ≤ 9223372036854775807) :
    Calls Tryz.prog 122 #[.agg #[.int .i64 n, .int .i64 d], .agg #[.int .i64 m, .int .i64 c]] w fun e w' => e = .returned (.tuple #[.agg #[.int .i64 (Rp.mulS n d m c).1, .int .i64 (Rp.mulS n d m c).2.1], .int .i64 (Rp.mulS n d m c).2.2]) ∧ Below w.heap.size w w' := by
  have cb := fun w => rBoth_any n d m c w n0 n1 d0 d1 m0 m1 c0 c1
  rcases both_cases n d m c with ⟨h, hx, hy⟩ | h
  · rw [h] at cb
    have e : Rp.mulS n d m c = Rp.mul n d m c := by unfold Rp.mulS; rw [if_pos h]
    rw [e]; exact rMul_valid n d m c hx hy w (Lib.hid cb)
  · have e : Rp.mulS n d m c = (0, 0, 8) := by unfold Rp.mulS; rw [if_neg (by omega)]
    rw [e]; rw [h] at cb; have CB := Lib.hid cb; clear cb h e
    go_enter Tryz.func122, Tryz.ntmps122
    (go_wp2_with fail); refine (CB.out _).mono ?_; rintro e w1 ⟨rfl, hb1⟩; have an : w1.cell? ⟨w.heap.size, 0, none⟩ = some (.int .i64 n) := keepC hb1 (by go_simp); have ad : w1.cell? ⟨w.heap.size, 1, none⟩ = some (.int .i64 d) := keepC hb1 (by go_simp); have bn : w1.cell? ⟨w.heap.size + 1, 0, none⟩ = some (.int .i64 m) := keepC hb1 (by go_simp); have bd : w1.cell? ⟨w.heap.size + 1, 1, none⟩ = some (.int .i64 c) := keepC hb1 (by go_simp); have z0 : w1.cell? ⟨w.heap.size + 1 + 1, 0, none⟩ = some (.int .i64 0) := keepC hb1 (by go_simp); have fz0 : w1.frozen? ⟨w.heap.size + 1 + 1, 0, none⟩ = false := keepF hb1 (v := .int .i64 0) (by go_simp) (by go_simp); have z1 : w1.cell? ⟨w.heap.size + 1 + 1, 1, none⟩ = some (.int .i64 0) := keepC hb1 (by go_simp); have fz1 : w1.frozen? ⟨w.heap.size + 1 + 1, 1, none⟩ = false := keepF hb1 (v := .int .i64 0) (by go_simp) (by go_simp); have hbb : Below w.heap.size w w1 := keepB ((((Below.refl _ _).alloc (Nat.le_refl _) _).alloc (by simp) _).alloc (by simp; omega) _) hb1; clear hb1; (go_wp2_with fail); refine (CB.out _).mono ?_; rintro e w2 ⟨rfl, hb2⟩; replace an := keepC hb2 an; replace ad := keepC hb2 ad; replace bn := keepC hb2 bn; replace bd := keepC hb2 bd; replace fz0 := keepF hb2 z0 fz0; replace z0 := keepC hb2 z0; replace fz1 := keepF hb2 z1 fz1; replace z1 := keepC hb2 z1; replace hbb := keepB hbb hb2; clear hb2; have l2 := lt_of_cell z0
    go_wp2
    exact bodyPost_ret (v := .tuple #[.agg #[.int .i64 0, .int .i64 0], .int .i64 8]) (by simp [results, Tryz.results122, go_sem, z0, z1]) rfl ⟨rfl, below_set (below_set hbb (by omega) _) (by omega) _⟩
end Go.Proofs.YtniagnldiegamaaGreat

