/- Contract of the reference's Mul. -/
import Derived.Test.YtkphaclfapkfoaaTimes
import Derived.Test.YtkphaclfapkfoaaPub
namespace Go.Proofs.Ytkphaclfapkfoaa
open Go.RowKit

set_option maxHeartbeats 4000000 in
set_option maxRecDepth 100000 in
theorem rMul_apart (n d m c N1 M1 D1 C1 : Int) (A B : Nat) (n0 : -1000000000000000000 ≤ n) (n1 : n ≤ 1000000000000000000) (d0 : 1 ≤ d) (d1 : d ≤ 1000000000000000000)
    (m0 : -1000000000000000000 ≤ m) (m1 : m ≤ 1000000000000000000) (c0 : 1 ≤ c) (c1 : c ≤ 1000000000000000000)
    (hA : n.natAbs.gcd c.natAbs = A) (hB : m.natAbs.gcd d.natAbs = B) (a0 : 1 ≤ (A : Int)) (b0 : 1 ≤ (B : Int))
    (e1 : (n.natAbs : Int) / (A : Int) = N1) (e2 : (m.natAbs : Int) / (B : Int) = M1) (e3 : (d.natAbs : Int) / (B : Int) = D1) (e4 : (c.natAbs : Int) / (A : Int) = C1)
    (N1l : 0 ≤ N1) (N1u : N1 ≤ 1000000000000000000) (M1l : 0 ≤ M1) (M1u : M1 ≤ 1000000000000000000)
    (D1l : 0 ≤ D1) (D1u : D1 ≤ 1000000000000000000) (C1l : 0 ≤ C1) (C1u : C1 ≤ 1000000000000000000) (hb : (decide (n < 0) == decide (m < 0)) = false) (hn : (n != 0) = true) (hm : (m != 0) = true) (w : World)
    (CB : Hid (∀ w, Calls Try.prog 50 #[.agg #[.int .i64 n, .int .i64 d], .agg #[.int .i64 m, .int .i64 c]] w fun e w' => e = .returned (.int .i64 0) ∧ Below w.heap.size w w')) :
    Calls Try.prog 21 #[.agg #[.int .i64 n, .int .i64 d], .agg #[.int .i64 m, .int .i64 c]] w fun e w' => e = .returned (.tuple #[.agg #[.int .i64 (Rp.low (sg true (N1 * M1)) (D1 * C1)).1, .int .i64 (Rp.low (sg true (N1 * M1)) (D1 * C1)).2.1], .int .i64 (Rp.low (sg true (N1 * M1)) (D1 * C1)).2.2]) ∧ Below w.heap.size w w' := by
  have wc : IntKind.u64.wrap c = (c.natAbs : Int) := by rw [IntKind.wrap_u64]; omega
  have wd : IntKind.u64.wrap d = (d.natAbs : Int) := by rw [IntKind.wrap_u64]; omega
  have w1 : IntKind.u64.wrap ((n.natAbs : Int) / (A : Int)) = N1 := by rw [e1]; exact IntWalk.u64_in _ (by omega)
  have w2 : IntKind.u64.wrap ((m.natAbs : Int) / (B : Int)) = M1 := by rw [e2]; exact IntWalk.u64_in _ (by omega)
  have w3 : IntKind.u64.wrap ((d.natAbs : Int) / (B : Int)) = D1 := by rw [e3]; exact IntWalk.u64_in _ (by omega)
  have w4 : IntKind.u64.wrap ((c.natAbs : Int) / (A : Int)) = C1 := by rw [e4]; exact IntWalk.u64_in _ (by omega)
  have nA : ¬ A = 0 := by omega
  have nB : ¬ B = 0 := by omega
  have nA' : ¬ (A : Int) = 0 := by omega
  have nB' : ¬ (B : Int) = 0 := by omega
  have M0 : 0 ≤ N1 * M1 := Int.mul_nonneg (by omega) (by omega)
  have MU : N1 * M1 ≤ 1000000000000000000 * 1000000000000000000 := Int.mul_le_mul (by omega) (by omega) (by omega) (by omega)
  have D0 : 0 ≤ D1 * C1 := Int.mul_nonneg (by omega) (by omega)
  have DU : D1 * C1 ≤ 1000000000000000000 * 1000000000000000000 := Int.mul_le_mul (by omega) (by omega) (by omega) (by omega)
  have TN := Lib.hid (fun w => times_any N1 M1 (by omega) (by omega) (by omega) (by omega) w)
  have TD := Lib.hid (fun w => times_any D1 C1 (by omega) (by omega) (by omega) (by omega) w)
  have MA := Lib.hid (fun w => made_any true (N1 * M1) (D1 * C1) M0 (by omega) D0 (by omega) w)
  clear e1 e2 e3 e4
  go_enter Try.func21, Try.ntmps21
  go_wp2_with fail
  refine (CB.out _).mono ?_
  rintro e w1' ⟨rfl, hb1⟩
  have an : w1'.cell? ⟨w.heap.size, 0, none⟩ = some (.int .i64 n) := keepC hb1 (by go_simp)
  have ad : w1'.cell? ⟨w.heap.size, 1, none⟩ = some (.int .i64 d) := keepC hb1 (by go_simp)
  have bn : w1'.cell? ⟨w.heap.size + 1, 0, none⟩ = some (.int .i64 m) := keepC hb1 (by go_simp)
  have bd : w1'.cell? ⟨w.heap.size + 1, 1, none⟩ = some (.int .i64 c) := keepC hb1 (by go_simp)
  have z0 : w1'.cell? ⟨w.heap.size + 1 + 1, 0, none⟩ = some (.int .i64 0) := keepC hb1 (by go_simp)
  have fz0 : w1'.frozen? ⟨w.heap.size + 1 + 1, 0, none⟩ = false := keepF hb1 (v := .int .i64 0) (by go_simp) (by go_simp)
  have z1 : w1'.cell? ⟨w.heap.size + 1 + 1, 1, none⟩ = some (.int .i64 0) := keepC hb1 (by go_simp)
  have fz1 : w1'.frozen? ⟨w.heap.size + 1 + 1, 1, none⟩ = false := keepF hb1 (v := .int .i64 0) (by go_simp) (by go_simp)
  have hbb : Below w.heap.size w w1' := keepB ((((Below.refl _ _).alloc (Nat.le_refl _) _).alloc (by simp) _).alloc (by simp; omega) _) hb1
  clear hb1
  go_wp2_with fail
  go_quiet ((first
    | (go_at_call 53; exact quietL (rabs_any _ (by omega) (by omega) _))
    | (go_at_call 51; exact Calls.quiet_of (rgcd_any _ _ (by omega) (by omega) _))))
  go_wp2_with fail
  try simp only [hA, hB]
  clear hA hB
  refine at_world (fun v => Below w.heap.size w v ∧ v.cell? ⟨w.heap.size, 0, none⟩ = some (.int .i64 n) ∧ v.cell? ⟨w.heap.size, 1, none⟩ = some (.int .i64 d) ∧ v.cell? ⟨w.heap.size + 1, 0, none⟩ = some (.int .i64 m) ∧ v.cell? ⟨w.heap.size + 1, 1, none⟩ = some (.int .i64 c) ∧ v.cell? ⟨w.heap.size + 1 + 1, 0, none⟩ = some (.int .i64 0) ∧ v.cell? ⟨w.heap.size + 1 + 1, 1, none⟩ = some (.int .i64 0) ∧ v.frozen? ⟨w.heap.size + 1 + 1, 0, none⟩ = false ∧ v.frozen? ⟨w.heap.size + 1 + 1, 1, none⟩ = false) ⟨(below_drewN hbb _), an, ad, bn, bd, z0, z1, fz0, fz1⟩ (fun V hS => ?_)
  obtain ⟨hbb, an, ad, bn, bd, z0, z1, fz0, fz1⟩ := hS
  have hsz := lt_of_cell z0
  go_region_held3 (fun v => Below w.heap.size w v ∧ v.cell? ⟨w.heap.size, 0, none⟩ = some (.int .i64 n) ∧ v.cell? ⟨w.heap.size, 1, none⟩ = some (.int .i64 d) ∧ v.cell? ⟨w.heap.size + 1, 0, none⟩ = some (.int .i64 m) ∧ v.cell? ⟨w.heap.size + 1, 1, none⟩ = some (.int .i64 c) ∧ v.cell? ⟨w.heap.size + 1 + 1, 0, none⟩ = some (vat v (w.heap.size + 1 + 1) 0) ∧ v.cell? ⟨w.heap.size + 1 + 1, 1, none⟩ = some (vat v (w.heap.size + 1 + 1) 1) ∧ v.frozen? ⟨w.heap.size + 1 + 1, 0, none⟩ = false ∧ v.frozen? ⟨w.heap.size + 1 + 1, 1, none⟩ = false)
    (first | (exact ⟨hbb.drew, an, ad, bn, bd, vat_of (z0), vat_of (z1), fz0, fz1⟩) | (with_reducible assumption) | (obtain ⟨k0, kan, kad, kbn, kbd, kz0, kz1, kfz0, kfz1⟩ := ‹Below w.heap.size w _ ∧ _›; exact ⟨keepB k0 hb3, keepC hb3 kan, keepC hb3 kad, keepC hb3 kbn, keepC hb3 kbd, vat_of (keepC hb3 kz0), vat_of (keepC hb3 kz1), keepF hb3 kz0 kfz0, keepF hb3 kz1 kfz1⟩) | (obtain ⟨k0, kan, kad, kbn, kbd, kz0, kz1, kfz0, kfz1⟩ := ‹Below w.heap.size w _ ∧ _›; exact ⟨below_set (below_set (k0) (by omega) _) (by omega) _, cell_far (cell_far (kan) (by omega) _) (by omega) _, cell_far (cell_far (kad) (by omega) _) (by omega) _, cell_far (cell_far (kbn) (by omega) _) (by omega) _, cell_far (cell_far (kbd) (by omega) _) (by omega) _, vat_set (vat_set (kz0) _ _) _ _, vat_set (vat_set (kz1) _ _) _ _, froz_set (froz_set (kfz0) _ _) _ _, froz_set (froz_set (kfz1) _ _) _ _⟩))
    (first
      | (go_at_call 53; refine (rabs_any _ (by omega) (by omega) _).mono ?_; rintro e w' ⟨rfl, rfl⟩)
      | (go_at_call_of 52 (Value.int .u64 N1); refine (TN.out _).mono ?_; rintro e w3 ⟨rfl, hb3⟩)
      | (go_at_call_of 52 (Value.int .u64 D1); refine (TD.out _).mono ?_; rintro e w3 ⟨rfl, hb3⟩)
      | (go_at_call 58; refine (MA.out _).mono ?_; rintro e w3 ⟨rfl, hb3⟩))
  go_wp2
  obtain ⟨k0', _, _, _, _, k1', k2', _, _⟩ := ‹Below w.heap.size w _ ∧ _›
  have r0 := res_far (by simp) k1'
  have r1 := res_last k2'
  exact bodyPost_ret (v := .tuple #[.agg #[.int .i64 (Rp.low (sg true (N1 * M1)) (D1 * C1)).1, .int .i64 (Rp.low (sg true (N1 * M1)) (D1 * C1)).2.1], .int .i64 (Rp.low (sg true (N1 * M1)) (D1 * C1)).2.2]) (by simp [results, Try.results21, go_sem, r0, r1]) rfl ⟨rfl, k0'⟩
end Go.Proofs.Ytkphaclfapkfoaa
