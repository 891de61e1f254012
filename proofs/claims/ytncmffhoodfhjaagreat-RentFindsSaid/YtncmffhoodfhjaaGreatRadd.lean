/- The reference's Add of two valid ratios. -/
import Derived.Test.YtncmffhoodfhjaaGreatYk
import Derived.Test.YtncmffhoodfhjaaGreatYr
import Derived.Test.YtncmffhoodfhjaaGreatYq
namespace Go.Proofs.YtncmffhoodfhjaaGreat
open Go.RowKit

/-- The call goes on in any world of which S holds. -/
theorem at_worldC {P : Program} {f : FuncId} {args : Array Value} {Q : Ending → World → Prop} {w : World} (S : World → Prop) (h : S w) (k : ∀ V, S V → Calls P f args V Q) : Calls P f args w Q := k w h

set_option maxHeartbeats 16000000 in
set_option maxRecDepth 100000 in
theorem rAdd_core (n d m c C1 D1 X Y MM C2 R1 R2 R3 : Int) (G K A : Nat) (SG : Bool) (n0 : -1000000000000000000 ≤ n) (n1 : n ≤ 1000000000000000000) (d0 : 1 ≤ d) (d1 : d ≤ 1000000000000000000)
    (m0 : -1000000000000000000 ≤ m) (m1 : m ≤ 1000000000000000000) (c0 : 1 ≤ c) (c1 : c ≤ 1000000000000000000)
    (hG : d.natAbs.gcd c.natAbs = G) (g0 : 1 ≤ (G : Int)) (g1 : (G : Int) ≤ 1000000000000000000) (e1 : (c.natAbs : Int) / (G : Int) = C1) (e2 : (d.natAbs : Int) / (G : Int) = D1)
    (C1l : 0 ≤ C1) (C1u : C1 ≤ 1000000000000000000) (D1l : 0 ≤ D1) (D1u : D1 ≤ 1000000000000000000) (hX : (n.natAbs : Int) * C1 = X) (hY : (m.natAbs : Int) * D1 = Y)
    (HS : Hid (SG = plS (decide (n < 0)) X (decide (m < 0)) Y)) (HM : Hid (MM = plM (decide (n < 0)) X (decide (m < 0)) Y))
    (M0 : 0 ≤ MM) (M1 : MM ≤ 2000000000000000000000000000000000000) (hA : MM % (G : Int) = (A : Int)) (lA : A < 18446744073709551616) (hK : Nat.gcd A G = K) (k0 : 1 ≤ (K : Int)) (k1 : (K : Int) ≤ 1000000000000000000)
    (e3 : (c.natAbs : Int) / (K : Int) = C2) (C2l : 0 ≤ C2) (C2u : C2 ≤ 1000000000000000000)
    (HR : Hid (MM = 0 → R1 = 0 ∧ R2 = 1 ∧ R3 = 0)) (HL : Hid (¬ MM = 0 → (Rp.low (sg SG (MM / (K : Int))) (D1 * C2)).1 = R1 ∧ (Rp.low (sg SG (MM / (K : Int))) (D1 * C2)).2.1 = R2 ∧ (Rp.low (sg SG (MM / (K : Int))) (D1 * C2)).2.2 = R3)) (w : World)
    (CB : Hid (∀ w, Calls Tryz.prog 60 #[.agg #[.int .i64 n, .int .i64 d], .agg #[.int .i64 m, .int .i64 c]] w fun e w' => e = .returned (.int .i64 0) ∧ Below w.heap.size w w')) :
    Calls Tryz.prog 61 #[.agg #[.int .i64 n, .int .i64 d], .agg #[.int .i64 m, .int .i64 c]] w fun e w' => e = .returned (.tuple #[.agg #[.int .i64 R1, .int .i64 R2], .int .i64 R3]) ∧ Below w.heap.size w w' := by
  have wc : IntKind.u64.wrap c = (c.natAbs : Int) := by rw [IntKind.wrap_u64]; omega
  have wd : IntKind.u64.wrap d = (d.natAbs : Int) := by rw [IntKind.wrap_u64]; omega
  have wC1 : IntKind.u64.wrap ((c.natAbs : Int) / (G : Int)) = C1 := by rw [e1]; exact IntWalk.u64_in _ (by omega)
  have wD1 : IntKind.u64.wrap ((d.natAbs : Int) / (G : Int)) = D1 := by rw [e2]; exact IntWalk.u64_in _ (by omega)
  have WC2 := Lib.hid (show IntKind.u64.wrap ((c.natAbs : Int) / (K : Int)) = C2 by rw [e3]; exact IntWalk.u64_in _ (by omega))
  have nG : ¬ G = 0 := by omega
  have nG' : ¬ (G : Int) = 0 := by omega
  have HX := Lib.hid hX.symm
  have HY := Lib.hid hY.symm
  have TN := Lib.hid (fun w => times_any (n.natAbs : Int) C1 (by omega) (by omega) (by omega) (by omega) w)
  have TM := Lib.hid (fun w => times_any (m.natAbs : Int) D1 (by omega) (by omega) (by omega) (by omega) w)
  rw [hX] at TN
  rw [hY] at TM
  have GK := Lib.hid (fun w => rgcd_any A G lA (by omega) w)
  rw [hK] at GK
  rw [← hA] at GK
  clear e1 e2 e3 hX hY hA lA hK
  go_enter Tryz.func61, Tryz.ntmps61
  go_wp2_with fail
  refine (CB.out _).mono ?_
  rintro e w1' ⟨rfl, hb1⟩
  have an : w1'.cell? ⟨w.heap.size, 0, none⟩ = some (.int .i64 n) := keepC hb1 (by go_simp)
  have ad : w1'.cell? ⟨w.heap.size, 1, none⟩ = some (.int .i64 d) := keepC hb1 (by go_simp)
  have bn : w1'.cell? ⟨w.heap.size + 1, 0, none⟩ = some (.int .i64 m) := keepC hb1 (by go_simp)
  have bd : w1'.cell? ⟨w.heap.size + 1, 1, none⟩ = some (.int .i64 c) := keepC hb1 (by go_simp)
  have z0 : w1'.cell? ⟨w.heap.size + 1 + 1, 0, none⟩ = some (.int .i64 0) := keepC hb1 (by go_simp)
  have fz0 : w1'.frozen? ⟨w.heap.size + 1 + 1, 0, none⟩ = false := keepF hb1 (v := .int .i64 0) (by go_simp) (by go_simp)
  have z1 : w1'.cell? ⟨w.heap.size + 1 + 1, 1, none⟩ = some (.int .i64 0) := keepC hb1 (by go_simp)
  have fz1 : w1'.frozen? ⟨w.heap.size + 1 + 1, 1, none⟩ = false := keepF hb1 (v := .int .i64 0) (by go_simp) (by go_simp)
  have hbb : Below w.heap.size w w1' := keepB ((((Below.refl _ _).alloc (Nat.le_refl _) _).alloc (by simp) _).alloc (by simp; omega) _) hb1
  clear hb1 CB
  go_wp2_with (go_at_call 52; refine (rgcd_any _ _ (by omega) (by omega) _).mono ?_; rintro e w' ⟨rfl, nd, rfl⟩)
  try simp only [hG]
  clear hG
  refine at_world (fun v => Below w.heap.size w v ∧ v.cell? ⟨w.heap.size, 0, none⟩ = some (.int .i64 n) ∧ v.cell? ⟨w.heap.size, 1, none⟩ = some (.int .i64 d) ∧ v.cell? ⟨w.heap.size + 1, 0, none⟩ = some (.int .i64 m) ∧ v.cell? ⟨w.heap.size + 1, 1, none⟩ = some (.int .i64 c) ∧ v.cell? ⟨w.heap.size + 1 + 1, 0, none⟩ = some (.int .i64 0) ∧ v.cell? ⟨w.heap.size + 1 + 1, 1, none⟩ = some (.int .i64 0) ∧ v.frozen? ⟨w.heap.size + 1 + 1, 0, none⟩ = false ∧ v.frozen? ⟨w.heap.size + 1 + 1, 1, none⟩ = false) ⟨(below_drewN hbb _), an, ad, bn, bd, z0, z1, fz0, fz1⟩ (fun V hS => ?_)
  obtain ⟨hbb, an, ad, bn, bd, z0, z1, fz0, fz1⟩ := hS
  have hsz := lt_of_cell z0
  go_cut [7, 8] (fun x y v => ∃ p q : Nat, x = .pointer (some ⟨p, 0, none⟩) ∧ y = .pointer (some ⟨q, 0, none⟩) ∧ Below w.heap.size w v ∧ v.cell? ⟨w.heap.size, 0, none⟩ = some (.int .i64 n) ∧ v.cell? ⟨w.heap.size, 1, none⟩ = some (.int .i64 d) ∧ v.cell? ⟨w.heap.size + 1, 0, none⟩ = some (.int .i64 m) ∧ v.cell? ⟨w.heap.size + 1, 1, none⟩ = some (.int .i64 c) ∧ v.cell? ⟨p, 0, none⟩ = some (.int .u64 (X / 18446744073709551616)) ∧ v.cell? ⟨p, 1, none⟩ = some (.int .u64 (X % 18446744073709551616)) ∧ v.cell? ⟨q, 0, none⟩ = some (.int .u64 (Y / 18446744073709551616)) ∧ v.cell? ⟨q, 1, none⟩ = some (.int .u64 (Y % 18446744073709551616)) ∧ v.cell? ⟨w.heap.size + 1 + 1, 0, none⟩ = some (.int .i64 0) ∧ v.cell? ⟨w.heap.size + 1 + 1, 1, none⟩ = some (.int .i64 0) ∧ v.frozen? ⟨w.heap.size + 1 + 1, 0, none⟩ = false ∧ v.frozen? ⟨w.heap.size + 1 + 1, 1, none⟩ = false)
  case first =>
    go_region_held3 (fun v => Below w.heap.size w v ∧ v.cell? ⟨w.heap.size, 0, none⟩ = some (.int .i64 n) ∧ v.cell? ⟨w.heap.size, 1, none⟩ = some (.int .i64 d) ∧ v.cell? ⟨w.heap.size + 1, 0, none⟩ = some (.int .i64 m) ∧ v.cell? ⟨w.heap.size + 1, 1, none⟩ = some (.int .i64 c) ∧ v.cell? ⟨w.heap.size + 1 + 1, 0, none⟩ = some (.int .i64 0) ∧ v.cell? ⟨w.heap.size + 1 + 1, 1, none⟩ = some (.int .i64 0) ∧ v.frozen? ⟨w.heap.size + 1 + 1, 0, none⟩ = false ∧ v.frozen? ⟨w.heap.size + 1 + 1, 1, none⟩ = false)
      (first | (exact ⟨hbb.drew, an, ad, bn, bd, z0, z1, fz0, fz1⟩) | (with_reducible assumption) | (obtain ⟨k0, kan, kad, kbn, kbd, kz0, kz1, kfz0, kfz1⟩ := ‹Below w.heap.size w _ ∧ _›; exact ⟨keepB k0 hb3, keepC hb3 kan, keepC hb3 kad, keepC hb3 kbn, keepC hb3 kbd, keepC hb3 kz0, keepC hb3 kz1, keepF hb3 kz0 kfz0, keepF hb3 kz1 kfz1⟩) | (obtain ⟨k0, kan, kad, kbn, kbd, kz0, kz1, kfz0, kfz1⟩ := ‹Below w.heap.size w _ ∧ _›; exact ⟨below_al k0 _, cell_alloc kan _, cell_alloc kad _, cell_alloc kbn _, cell_alloc kbd _, cell_alloc kz0 _, cell_alloc kz1 _, froz_alloc kz0 kfz0 _, froz_alloc kz1 kfz1 _⟩) | (refine ⟨?_, ?_, ?_, ?_, ?_, ?_, ?_, ?_, ?_⟩ <;> repeat' (first | (with_reducible exact j0.out) | (with_reducible exact jan.out) | (with_reducible exact jad.out) | (with_reducible exact jbn.out) | (with_reducible exact jbd.out) | (with_reducible exact jz0.out) | (with_reducible exact jz1.out) | (with_reducible exact jfz0.out) | (with_reducible exact jfz1.out) | (with_reducible refine below_al ?_ _) | (with_reducible refine below_set ?_ ?_ _) | (with_reducible refine cell_alloc ?_ _) | (with_reducible refine cell_far ?_ ?_ _) | (with_reducible refine froz_set ?_ _ _) | (with_reducible refine froz_alloc (x := .int .i64 0) ?_ ?_ _) | omega)))
      (first
        | (go_at_call 51; refine (rabs_any _ (by omega) (by omega) _).mono ?_; rintro e w' ⟨rfl, rfl⟩)
        | (go_at_call_of 81 (Value.int .u64 C1); refine (TN.out _).mono ?_; rintro e w3 ⟨rfl, hb3⟩; (first | (replace fnb0 := keepF hb3 nb0 fnb0; replace fnb1 := keepF hb3 nb1 fnb1; replace nb0 := keepC hb3 nb0; replace nb1 := keepC hb3 nb1; replace fnc0 := keepF hb3 nc0 fnc0; replace fnc1 := keepF hb3 nc1 fnc1; replace nc0 := keepC hb3 nc0; replace nc1 := keepC hb3 nc1) | (obtain ⟨k0, kan, kad, kbn, kbd, kz0, kz1, kfz0, kfz1⟩ := ‹Below w.heap.size w _ ∧ _›; have nb0 := keepC hb3 (cell_alloc (n20 _ _ _ _) _); have nb1 := keepC hb3 (cell_alloc (n21 _ _ _ _) _); have fnb0 := keepF hb3 (cell_alloc (n20 _ _ _ _) _) (froz_alloc (n20 _ _ _ _) (n2f _ _ _ _ 0) _); have fnb1 := keepF hb3 (cell_alloc (n21 _ _ _ _) _) (froz_alloc (n21 _ _ _ _) (n2f _ _ _ _ 1) _); have nc0 := keepC hb3 (m20 _ _ _ _ _); have nc1 := keepC hb3 (m21 _ _ _ _ _); have fnc0 := keepF hb3 (m20 _ _ _ _ _) (m2f _ _ _ _ _ 0); have fnc1 := keepF hb3 (m21 _ _ _ _ _) (m2f _ _ _ _ _ 1); have hu := lt_al3 kz0 (cell_alloc (n20 _ _ _ _) _) (m20 _ _ _ _ _) (by simp) (by simp); clear k0 kan kad kbn kbd kz0 kz1 kfz0 kfz1) | (obtain ⟨k0, kan, kad, kbn, kbd, kz0, kz1, kfz0, kfz1⟩ := ‹Below w.heap.size w _ ∧ _›; have nc0 := keepC hb3 (n20 _ _ _ _); have nc1 := keepC hb3 (n21 _ _ _ _); have fnc0 := keepF hb3 (n20 _ _ _ _) (n2f _ _ _ _ 0); have fnc1 := keepF hb3 (n21 _ _ _ _) (n2f _ _ _ _ 1); have hn := lt_of_cell nb0; replace fnb0 := keepF hb3 (cell_alloc nb0 _) (froz_alloc nb0 fnb0 _); replace fnb1 := keepF hb3 (cell_alloc nb1 _) (froz_alloc nb1 fnb1 _); replace nb0 := keepC hb3 (cell_alloc nb0 _); replace nb1 := keepC hb3 (cell_alloc nb1 _); have hu2 := lt_al2 kz0 (n20 _ _ _ _) (by simp); clear k0 kan kad kbn kbd kz0 kz1 kfz0 kfz1) | (obtain ⟨k0, kan, kad, kbn, kbd, kz0, kz1, kfz0, kfz1⟩ := ‹Below w.heap.size w _ ∧ _›; have nb0 := keepC hb3 (n20 _ _ _ _); have nb1 := keepC hb3 (n21 _ _ _ _); have fnb0 := keepF hb3 (n20 _ _ _ _) (n2f _ _ _ _ 0); have fnb1 := keepF hb3 (n21 _ _ _ _) (n2f _ _ _ _ 1); have hu := lt_al2 kz0 (n20 _ _ _ _) (by simp); clear k0 kan kad kbn kbd kz0 kz1 kfz0 kfz1) | (replace fnb0 := keepF hb3 nb0 fnb0; replace fnb1 := keepF hb3 nb1 fnb1; replace nb0 := keepC hb3 nb0; replace nb1 := keepC hb3 nb1) | skip))
        | (go_at_call_of 81 (Value.int .u64 D1); refine (TM.out _).mono ?_; rintro e w3 ⟨rfl, hb3⟩; (first | (replace fnb0 := keepF hb3 nb0 fnb0; replace fnb1 := keepF hb3 nb1 fnb1; replace nb0 := keepC hb3 nb0; replace nb1 := keepC hb3 nb1; replace fnc0 := keepF hb3 nc0 fnc0; replace fnc1 := keepF hb3 nc1 fnc1; replace nc0 := keepC hb3 nc0; replace nc1 := keepC hb3 nc1) | (obtain ⟨k0, kan, kad, kbn, kbd, kz0, kz1, kfz0, kfz1⟩ := ‹Below w.heap.size w _ ∧ _›; have nb0 := keepC hb3 (cell_alloc (n20 _ _ _ _) _); have nb1 := keepC hb3 (cell_alloc (n21 _ _ _ _) _); have fnb0 := keepF hb3 (cell_alloc (n20 _ _ _ _) _) (froz_alloc (n20 _ _ _ _) (n2f _ _ _ _ 0) _); have fnb1 := keepF hb3 (cell_alloc (n21 _ _ _ _) _) (froz_alloc (n21 _ _ _ _) (n2f _ _ _ _ 1) _); have nc0 := keepC hb3 (m20 _ _ _ _ _); have nc1 := keepC hb3 (m21 _ _ _ _ _); have fnc0 := keepF hb3 (m20 _ _ _ _ _) (m2f _ _ _ _ _ 0); have fnc1 := keepF hb3 (m21 _ _ _ _ _) (m2f _ _ _ _ _ 1); have hu := lt_al3 kz0 (cell_alloc (n20 _ _ _ _) _) (m20 _ _ _ _ _) (by simp) (by simp); clear k0 kan kad kbn kbd kz0 kz1 kfz0 kfz1) | (obtain ⟨k0, kan, kad, kbn, kbd, kz0, kz1, kfz0, kfz1⟩ := ‹Below w.heap.size w _ ∧ _›; have nc0 := keepC hb3 (n20 _ _ _ _); have nc1 := keepC hb3 (n21 _ _ _ _); have fnc0 := keepF hb3 (n20 _ _ _ _) (n2f _ _ _ _ 0); have fnc1 := keepF hb3 (n21 _ _ _ _) (n2f _ _ _ _ 1); have hn := lt_of_cell nb0; replace fnb0 := keepF hb3 (cell_alloc nb0 _) (froz_alloc nb0 fnb0 _); replace fnb1 := keepF hb3 (cell_alloc nb1 _) (froz_alloc nb1 fnb1 _); replace nb0 := keepC hb3 (cell_alloc nb0 _); replace nb1 := keepC hb3 (cell_alloc nb1 _); have hu2 := lt_al2 kz0 (n20 _ _ _ _) (by simp); clear k0 kan kad kbn kbd kz0 kz1 kfz0 kfz1) | (obtain ⟨k0, kan, kad, kbn, kbd, kz0, kz1, kfz0, kfz1⟩ := ‹Below w.heap.size w _ ∧ _›; have nb0 := keepC hb3 (n20 _ _ _ _); have nb1 := keepC hb3 (n21 _ _ _ _); have fnb0 := keepF hb3 (n20 _ _ _ _) (n2f _ _ _ _ 0); have fnb1 := keepF hb3 (n21 _ _ _ _) (n2f _ _ _ _ 1); have hu := lt_al2 kz0 (n20 _ _ _ _) (by simp); clear k0 kan kad kbn kbd kz0 kz1 kfz0 kfz1) | (replace fnb0 := keepF hb3 nb0 fnb0; replace fnb1 := keepF hb3 nb1 fnb1; replace nb0 := keepC hb3 nb0; replace nb1 := keepC hb3 nb1) | skip); obtain ⟨k0, kan, kad, kbn, kbd, kz0, kz1, kfz0, kfz1⟩ := ‹Below w.heap.size w _ ∧ _›; have j0 := Lib.hid (keepB k0 hb3); have jan := Lib.hid (keepC hb3 kan); have jad := Lib.hid (keepC hb3 kad); have jbn := Lib.hid (keepC hb3 kbn); have jbd := Lib.hid (keepC hb3 kbd); have jz0 := Lib.hid (keepC hb3 kz0); have jz1 := Lib.hid (keepC hb3 kz1); have jfz0 := Lib.hid (keepF hb3 kz0 kfz0); have jfz1 := Lib.hid (keepF hb3 kz1 kfz1); have hj := lt_of_cell jz0.out; (try (have hnl := lt_of_cell nb0)); (try (have hnl2 := lt_of_cell nc0)); clear k0 kan kad kbn kbd kz0 kz1 kfz0 kfz1))
    all_goals
      go_wp2_with fail
      go_meet
      refine ⟨_, _, rfl, rfl, ?_, ?_, ?_, ?_, ?_, ?_, ?_, ?_, ?_, ?_, ?_, ?_, ?_⟩
      · obtain ⟨k0, kan, kad, kbn, kbd, kz0, kz1, kfz0, kfz1⟩ := ‹Below w.heap.size w _ ∧ _›; exact k0
      · obtain ⟨k0, kan, kad, kbn, kbd, kz0, kz1, kfz0, kfz1⟩ := ‹Below w.heap.size w _ ∧ _›; exact kan
      · obtain ⟨k0, kan, kad, kbn, kbd, kz0, kz1, kfz0, kfz1⟩ := ‹Below w.heap.size w _ ∧ _›; exact kad
      · obtain ⟨k0, kan, kad, kbn, kbd, kz0, kz1, kfz0, kfz1⟩ := ‹Below w.heap.size w _ ∧ _›; exact kbn
      · obtain ⟨k0, kan, kad, kbn, kbd, kz0, kz1, kfz0, kfz1⟩ := ‹Below w.heap.size w _ ∧ _›; exact kbd
      · go_simp
      · go_simp
      · go_simp
      · go_simp
      · obtain ⟨k0, kan, kad, kbn, kbd, kz0, kz1, kfz0, kfz1⟩ := ‹Below w.heap.size w _ ∧ _›; exact kz0
      · obtain ⟨k0, kan, kad, kbn, kbd, kz0, kz1, kfz0, kfz1⟩ := ‹Below w.heap.size w _ ∧ _›; exact kz1
      · obtain ⟨k0, kan, kad, kbn, kbd, kz0, kz1, kfz0, kfz1⟩ := ‹Below w.heap.size w _ ∧ _›; exact kfz0
      · obtain ⟨k0, kan, kad, kbn, kbd, kz0, kz1, kfz0, kfz1⟩ := ‹Below w.heap.size w _ ∧ _›; exact kfz1
  case rest =>
    clear an ad bn bd z0 z1 fz0 fz1 hbb hsz TN TM wC1
    obtain ⟨p, q, rfl, rfl, hbb, an, ad, bn, bd, p0, p1, q0, q1, z0, z1, fz0, fz1⟩ := hcut
    have X0 : 0 ≤ X := by rw [HX.out]; exact Int.mul_nonneg (by omega) C1l
    have X1 : X ≤ 1000000000000000000 * 1000000000000000000 := by rw [HX.out]; exact Int.mul_le_mul (by omega) C1u C1l (by omega)
    have Y0 : 0 ≤ Y := by rw [HY.out]; exact Int.mul_nonneg (by omega) D1l
    have Y1 : Y ≤ 1000000000000000000 * 1000000000000000000 := by rw [HY.out]; exact Int.mul_le_mul (by omega) D1u D1l (by omega)
    have PL := Lib.hid (fun v => rplus_any (X / 18446744073709551616) (X % 18446744073709551616) (Y / 18446744073709551616) (Y % 18446744073709551616) (by omega) (by omega) (by omega) (by omega) (by omega) (by omega) (by rw [W_split, W_split]; omega) v)
    simp only [W_split] at PL
    clear HX HY
    go_wp2_with fail
    refine (PL.out _).mono ?_
    rintro e w2 ⟨rfl, hb2⟩
    replace an := keepC hb2 an
    replace ad := keepC hb2 ad
    replace bn := keepC hb2 bn
    replace bd := keepC hb2 bd
    replace p0 := keepC hb2 p0
    replace p1 := keepC hb2 p1
    replace q0 := keepC hb2 q0
    replace q1 := keepC hb2 q1
    replace fz0 := keepF hb2 z0 fz0
    replace z0 := keepC hb2 z0
    replace fz1 := keepF hb2 z1 fz1
    replace z1 := keepC hb2 z1
    replace hbb := keepB hbb hb2
    clear hb2 PL
    have l0 := lt_of_cell an
    have l1 := lt_of_cell bn
    have l2 := lt_of_cell z0
    have l3 := lt_of_cell p0
    have l4 := lt_of_cell q0
    go_upto_if 61 with fail
    refine at_world (fun v => Below w.heap.size w v ∧ v.cell? ⟨w.heap.size, 0, none⟩ = some (.int .i64 n) ∧ v.cell? ⟨w.heap.size, 1, none⟩ = some (.int .i64 d) ∧ v.cell? ⟨w.heap.size + 1, 0, none⟩ = some (.int .i64 m) ∧ v.cell? ⟨w.heap.size + 1, 1, none⟩ = some (.int .i64 c) ∧ v.cell? ⟨p, 0, none⟩ = some (.int .u64 (X / 18446744073709551616)) ∧ v.cell? ⟨p, 1, none⟩ = some (.int .u64 (X % 18446744073709551616)) ∧ v.cell? ⟨q, 0, none⟩ = some (.int .u64 (Y / 18446744073709551616)) ∧ v.cell? ⟨q, 1, none⟩ = some (.int .u64 (Y % 18446744073709551616)) ∧ v.cell? ⟨w2.heap.size, 0, none⟩ = some (.int .u64 ((X + Y) / 18446744073709551616)) ∧ v.cell? ⟨w2.heap.size, 1, none⟩ = some (.int .u64 ((X + Y) % 18446744073709551616)) ∧ v.cell? ⟨w.heap.size + 1 + 1, 0, none⟩ = some (.int .i64 0) ∧ v.cell? ⟨w.heap.size + 1 + 1, 1, none⟩ = some (.int .i64 0) ∧ v.frozen? ⟨w2.heap.size, 0, none⟩ = false ∧ v.frozen? ⟨w2.heap.size, 1, none⟩ = false ∧ v.frozen? ⟨w.heap.size + 1 + 1, 0, none⟩ = false ∧ v.frozen? ⟨w.heap.size + 1 + 1, 1, none⟩ = false) ⟨below_al hbb _, cell_alloc an _, cell_alloc ad _, cell_alloc bn _, cell_alloc bd _, cell_alloc p0 _, cell_alloc p1 _, cell_alloc q0 _, cell_alloc q1 _, n20 _ _ _ _, n21 _ _ _ _, cell_alloc z0 _, cell_alloc z1 _, n2f _ _ _ _ 0, n2f _ _ _ _ 1, froz_alloc z0 fz0 _, froz_alloc z1 fz1 _⟩ (fun V2 hS => ?_)
    obtain ⟨hbb, an, ad, bn, bd, p0, p1, q0, q1, s0, s1, z0, z1, fs0, fs1, fz0, fz1⟩ := hS
    have l5 := lt_of_cell s0
    go_cut [9] (fun s v => s = .bool SG ∧ Below w.heap.size w v ∧ v.cell? ⟨w.heap.size, 1, none⟩ = some (.int .i64 d) ∧ v.cell? ⟨w.heap.size + 1, 1, none⟩ = some (.int .i64 c) ∧ v.cell? ⟨w2.heap.size, 0, none⟩ = some (.int .u64 (MM / 18446744073709551616)) ∧ v.cell? ⟨w2.heap.size, 1, none⟩ = some (.int .u64 (MM % 18446744073709551616)) ∧ v.cell? ⟨w.heap.size + 1 + 1, 0, none⟩ = some (.int .i64 0) ∧ v.cell? ⟨w.heap.size + 1 + 1, 1, none⟩ = some (.int .i64 0) ∧ v.frozen? ⟨w.heap.size + 1 + 1, 0, none⟩ = false ∧ v.frozen? ⟨w.heap.size + 1 + 1, 1, none⟩ = false)
    case first =>
      generalize hT : (!(decide (n < 0) == decide (m < 0))) = tB
      by_cases gn : n < 0
      · by_cases gm : m < 0
        · have hn : decide (n < 0) = true := by simpa using gn
          have hm : decide (m < 0) = true := by simpa using gm
          have hb : tB = false := by rw [← hT, hn, hm]; rfl
          clear hT
          subst hb
          have e1 : decide (n < 0) = SG := by rw [HS.out, hn, hm]; rfl
          have e2 : MM = X + Y := by rw [HM.out, hn, hm]; rfl
          have E1 := Lib.hid e1
          clear e1 hn hm
          rw [← e2] at s0 s1
          clear e2 gn gm
          go_wp2_with fail
          go_meet
          exact ⟨congrArg Value.bool E1.out, hbb, ad, bd, s0, s1, z0, z1, fz0, fz1⟩
        · by_cases hlt : X < Y
          · have hn : decide (n < 0) = true := by simpa using gn
            have hm : decide (m < 0) = false := by simpa using gm
            have hb : tB = true := by rw [← hT, hn, hm]; rfl
            clear hT
            subst hb
            have e1 : decide (m < 0) = SG := by rw [HS.out, hn, hm]; unfold plS; rw [if_neg (by decide), if_pos hlt]
            have e2 : MM = Y - X := by rw [HM.out, hn, hm]; unfold plM; rw [if_neg (by decide), if_pos hlt]
            have E1 := Lib.hid e1
            clear e1 hn hm
            have MI := Lib.hid (fun v => rminus_wrap (X / 18446744073709551616) (X % 18446744073709551616) (Y / 18446744073709551616) (Y % 18446744073709551616) (by omega) (by omega) (by omega) (by omega) (by omega) (by omega) (by omega) (by omega) (by rw [W_split, W_split]; omega) v)
            simp only [W_split] at MI
            have MJ := Lib.hid (fun v => rminus_any (Y / 18446744073709551616) (Y % 18446744073709551616) (X / 18446744073709551616) (X % 18446744073709551616) (by omega) (by omega) (by omega) (by omega) (by omega) (by omega) (by rw [W_split, W_split]; omega) v)
            simp only [W_split] at MJ
            rw [← e2] at MJ
            have LE := Lib.hid (fun v => rless_any (X / 18446744073709551616) (X % 18446744073709551616) (Y / 18446744073709551616) (Y % 18446744073709551616) (by omega) (by omega) (by omega) (by omega) v)
            simp only [W_split] at LE
            rw [decide_eq_true hlt] at LE
            clear e2 gn gm hlt X0 X1 Y0 Y1
            go_wp2_with fail
            refine (MI.out _).mono ?_
            rintro e w3 ⟨rfl, hb3⟩
            replace an := keepC hb3 an
            replace ad := keepC hb3 ad
            replace bn := keepC hb3 bn
            replace bd := keepC hb3 bd
            replace p0 := keepC hb3 p0
            replace p1 := keepC hb3 p1
            replace q0 := keepC hb3 q0
            replace q1 := keepC hb3 q1
            replace fs0 := keepF hb3 s0 fs0
            replace s0 := keepC hb3 s0
            replace fs1 := keepF hb3 s1 fs1
            replace s1 := keepC hb3 s1
            replace fz0 := keepF hb3 z0 fz0
            replace z0 := keepC hb3 z0
            replace fz1 := keepF hb3 z1 fz1
            replace z1 := keepC hb3 z1
            replace hbb := keepB hbb hb3
            clear hb3 MI
            go_wp2_with fail
            refine at_worldC (fun v => Below w.heap.size w v ∧ v.cell? ⟨w.heap.size, 0, none⟩ = some (.int .i64 n) ∧ v.cell? ⟨w.heap.size, 1, none⟩ = some (.int .i64 d) ∧ v.cell? ⟨w.heap.size + 1, 0, none⟩ = some (.int .i64 m) ∧ v.cell? ⟨w.heap.size + 1, 1, none⟩ = some (.int .i64 c) ∧ v.cell? ⟨p, 0, none⟩ = some (.int .u64 (X / 18446744073709551616)) ∧ v.cell? ⟨p, 1, none⟩ = some (.int .u64 (X % 18446744073709551616)) ∧ v.cell? ⟨q, 0, none⟩ = some (.int .u64 (Y / 18446744073709551616)) ∧ v.cell? ⟨q, 1, none⟩ = some (.int .u64 (Y % 18446744073709551616)) ∧ v.cell? ⟨w2.heap.size, 0, none⟩ = some (.int .u64 ((X - Y + 340282366920938463463374607431768211456) / 18446744073709551616)) ∧ v.cell? ⟨w2.heap.size, 1, none⟩ = some (.int .u64 ((X - Y + 340282366920938463463374607431768211456) % 18446744073709551616)) ∧ v.cell? ⟨w.heap.size + 1 + 1, 0, none⟩ = some (.int .i64 0) ∧ v.cell? ⟨w.heap.size + 1 + 1, 1, none⟩ = some (.int .i64 0) ∧ v.frozen? ⟨w2.heap.size, 0, none⟩ = false ∧ v.frozen? ⟨w2.heap.size, 1, none⟩ = false ∧ v.frozen? ⟨w.heap.size + 1 + 1, 0, none⟩ = false ∧ v.frozen? ⟨w.heap.size + 1 + 1, 1, none⟩ = false) ⟨below_set (below_set hbb (by omega) _) (by omega) _, cell_far (cell_far an (by omega) _) (by omega) _, cell_far (cell_far ad (by omega) _) (by omega) _, cell_far (cell_far bn (by omega) _) (by omega) _, cell_far (cell_far bd (by omega) _) (by omega) _, cell_far (cell_far p0 (by omega) _) (by omega) _, cell_far (cell_far p1 (by omega) _) (by omega) _, cell_far (cell_far q0 (by omega) _) (by omega) _, cell_far (cell_far q1 (by omega) _) (by omega) _, by go_simp, by go_simp, cell_far (cell_far z0 (by omega) _) (by omega) _, cell_far (cell_far z1 (by omega) _) (by omega) _, froz_set (froz_set fs0 _ _) _ _, froz_set (froz_set fs1 _ _) _ _, froz_set (froz_set fz0 _ _) _ _, froz_set (froz_set fz1 _ _) _ _⟩ (fun V3 hS => ?_)
            obtain ⟨hbb, an, ad, bn, bd, p0, p1, q0, q1, s0, s1, z0, z1, fs0, fs1, fz0, fz1⟩ := hS
            refine (LE.out _).mono ?_
            rintro e w4 ⟨rfl, hb3⟩
            replace an := keepC hb3 an
            replace ad := keepC hb3 ad
            replace bn := keepC hb3 bn
            replace bd := keepC hb3 bd
            replace p0 := keepC hb3 p0
            replace p1 := keepC hb3 p1
            replace q0 := keepC hb3 q0
            replace q1 := keepC hb3 q1
            replace fs0 := keepF hb3 s0 fs0
            replace s0 := keepC hb3 s0
            replace fs1 := keepF hb3 s1 fs1
            replace s1 := keepC hb3 s1
            replace fz0 := keepF hb3 z0 fz0
            replace z0 := keepC hb3 z0
            replace fz1 := keepF hb3 z1 fz1
            replace z1 := keepC hb3 z1
            replace hbb := keepB hbb hb3
            clear hb3 LE
            go_wp2_with fail
            refine (MJ.out _).mono ?_
            rintro e w5 ⟨rfl, hb3⟩
            replace an := keepC hb3 an
            replace ad := keepC hb3 ad
            replace bn := keepC hb3 bn
            replace bd := keepC hb3 bd
            replace p0 := keepC hb3 p0
            replace p1 := keepC hb3 p1
            replace q0 := keepC hb3 q0
            replace q1 := keepC hb3 q1
            replace fs0 := keepF hb3 s0 fs0
            replace s0 := keepC hb3 s0
            replace fs1 := keepF hb3 s1 fs1
            replace s1 := keepC hb3 s1
            replace fz0 := keepF hb3 z0 fz0
            replace z0 := keepC hb3 z0
            replace fz1 := keepF hb3 z1 fz1
            replace z1 := keepC hb3 z1
            replace hbb := keepB hbb hb3
            clear hb3 MJ
            go_wp2_with fail
            go_meet
            exact ⟨congrArg Value.bool E1.out, below_set (below_set hbb (by omega) _) (by omega) _, cell_far (cell_far ad (by omega) _) (by omega) _, cell_far (cell_far bd (by omega) _) (by omega) _, by go_simp, by go_simp, cell_far (cell_far z0 (by omega) _) (by omega) _, cell_far (cell_far z1 (by omega) _) (by omega) _, froz_set (froz_set fz0 _ _) _ _, froz_set (froz_set fz1 _ _) _ _⟩
          · have hn : decide (n < 0) = true := by simpa using gn
            have hm : decide (m < 0) = false := by simpa using gm
            have hb : tB = true := by rw [← hT, hn, hm]; rfl
            clear hT
            subst hb
            have e1 : decide (n < 0) = SG := by rw [HS.out, hn, hm]; unfold plS; rw [if_neg (by decide), if_neg hlt]
            have e2 : MM = X - Y := by rw [HM.out, hn, hm]; unfold plM; rw [if_neg (by decide), if_neg hlt]
            have E1 := Lib.hid e1
            clear e1 hn hm
            have MI := Lib.hid (fun v => rminus_any (X / 18446744073709551616) (X % 18446744073709551616) (Y / 18446744073709551616) (Y % 18446744073709551616) (by omega) (by omega) (by omega) (by omega) (by omega) (by omega) (by rw [W_split, W_split]; omega) v)
            simp only [W_split] at MI
            rw [← e2] at MI
            have LE := Lib.hid (fun v => rless_any (X / 18446744073709551616) (X % 18446744073709551616) (Y / 18446744073709551616) (Y % 18446744073709551616) (by omega) (by omega) (by omega) (by omega) v)
            simp only [W_split] at LE
            rw [decide_eq_false hlt] at LE
            clear e2 gn gm hlt X0 X1 Y0 Y1
            go_wp2_with fail
            refine (MI.out _).mono ?_
            rintro e w3 ⟨rfl, hb3⟩
            replace an := keepC hb3 an
            replace ad := keepC hb3 ad
            replace bn := keepC hb3 bn
            replace bd := keepC hb3 bd
            replace p0 := keepC hb3 p0
            replace p1 := keepC hb3 p1
            replace q0 := keepC hb3 q0
            replace q1 := keepC hb3 q1
            replace fs0 := keepF hb3 s0 fs0
            replace s0 := keepC hb3 s0
            replace fs1 := keepF hb3 s1 fs1
            replace s1 := keepC hb3 s1
            replace fz0 := keepF hb3 z0 fz0
            replace z0 := keepC hb3 z0
            replace fz1 := keepF hb3 z1 fz1
            replace z1 := keepC hb3 z1
            replace hbb := keepB hbb hb3
            clear hb3 MI
            go_wp2_with fail
            refine at_worldC (fun v => Below w.heap.size w v ∧ v.cell? ⟨w.heap.size, 0, none⟩ = some (.int .i64 n) ∧ v.cell? ⟨w.heap.size, 1, none⟩ = some (.int .i64 d) ∧ v.cell? ⟨w.heap.size + 1, 0, none⟩ = some (.int .i64 m) ∧ v.cell? ⟨w.heap.size + 1, 1, none⟩ = some (.int .i64 c) ∧ v.cell? ⟨p, 0, none⟩ = some (.int .u64 (X / 18446744073709551616)) ∧ v.cell? ⟨p, 1, none⟩ = some (.int .u64 (X % 18446744073709551616)) ∧ v.cell? ⟨q, 0, none⟩ = some (.int .u64 (Y / 18446744073709551616)) ∧ v.cell? ⟨q, 1, none⟩ = some (.int .u64 (Y % 18446744073709551616)) ∧ v.cell? ⟨w2.heap.size, 0, none⟩ = some (.int .u64 (MM / 18446744073709551616)) ∧ v.cell? ⟨w2.heap.size, 1, none⟩ = some (.int .u64 (MM % 18446744073709551616)) ∧ v.cell? ⟨w.heap.size + 1 + 1, 0, none⟩ = some (.int .i64 0) ∧ v.cell? ⟨w.heap.size + 1 + 1, 1, none⟩ = some (.int .i64 0) ∧ v.frozen? ⟨w2.heap.size, 0, none⟩ = false ∧ v.frozen? ⟨w2.heap.size, 1, none⟩ = false ∧ v.frozen? ⟨w.heap.size + 1 + 1, 0, none⟩ = false ∧ v.frozen? ⟨w.heap.size + 1 + 1, 1, none⟩ = false) ⟨below_set (below_set hbb (by omega) _) (by omega) _, cell_far (cell_far an (by omega) _) (by omega) _, cell_far (cell_far ad (by omega) _) (by omega) _, cell_far (cell_far bn (by omega) _) (by omega) _, cell_far (cell_far bd (by omega) _) (by omega) _, cell_far (cell_far p0 (by omega) _) (by omega) _, cell_far (cell_far p1 (by omega) _) (by omega) _, cell_far (cell_far q0 (by omega) _) (by omega) _, cell_far (cell_far q1 (by omega) _) (by omega) _, by go_simp, by go_simp, cell_far (cell_far z0 (by omega) _) (by omega) _, cell_far (cell_far z1 (by omega) _) (by omega) _, froz_set (froz_set fs0 _ _) _ _, froz_set (froz_set fs1 _ _) _ _, froz_set (froz_set fz0 _ _) _ _, froz_set (froz_set fz1 _ _) _ _⟩ (fun V3 hS => ?_)
            obtain ⟨hbb, an, ad, bn, bd, p0, p1, q0, q1, s0, s1, z0, z1, fs0, fs1, fz0, fz1⟩ := hS
            refine (LE.out _).mono ?_
            rintro e w4 ⟨rfl, hb3⟩
            replace an := keepC hb3 an
            replace ad := keepC hb3 ad
            replace bn := keepC hb3 bn
            replace bd := keepC hb3 bd
            replace p0 := keepC hb3 p0
            replace p1 := keepC hb3 p1
            replace q0 := keepC hb3 q0
            replace q1 := keepC hb3 q1
            replace fs0 := keepF hb3 s0 fs0
            replace s0 := keepC hb3 s0
            replace fs1 := keepF hb3 s1 fs1
            replace s1 := keepC hb3 s1
            replace fz0 := keepF hb3 z0 fz0
            replace z0 := keepC hb3 z0
            replace fz1 := keepF hb3 z1 fz1
            replace z1 := keepC hb3 z1
            replace hbb := keepB hbb hb3
            clear hb3 LE
            go_wp2_with fail
            go_meet
            exact ⟨congrArg Value.bool E1.out, hbb, ad, bd, s0, s1, z0, z1, fz0, fz1⟩
      · by_cases gm : m < 0
        · by_cases hlt : X < Y
          · have hn : decide (n < 0) = false := by simpa using gn
            have hm : decide (m < 0) = true := by simpa using gm
            have hb : tB = true := by rw [← hT, hn, hm]; rfl
            clear hT
            subst hb
            have e1 : decide (m < 0) = SG := by rw [HS.out, hn, hm]; unfold plS; rw [if_neg (by decide), if_pos hlt]
            have e2 : MM = Y - X := by rw [HM.out, hn, hm]; unfold plM; rw [if_neg (by decide), if_pos hlt]
            have E1 := Lib.hid e1
            clear e1 hn hm
            have MI := Lib.hid (fun v => rminus_wrap (X / 18446744073709551616) (X % 18446744073709551616) (Y / 18446744073709551616) (Y % 18446744073709551616) (by omega) (by omega) (by omega) (by omega) (by omega) (by omega) (by omega) (by omega) (by rw [W_split, W_split]; omega) v)
            simp only [W_split] at MI
            have MJ := Lib.hid (fun v => rminus_any (Y / 18446744073709551616) (Y % 18446744073709551616) (X / 18446744073709551616) (X % 18446744073709551616) (by omega) (by omega) (by omega) (by omega) (by omega) (by omega) (by rw [W_split, W_split]; omega) v)
            simp only [W_split] at MJ
            rw [← e2] at MJ
            have LE := Lib.hid (fun v => rless_any (X / 18446744073709551616) (X % 18446744073709551616) (Y / 18446744073709551616) (Y % 18446744073709551616) (by omega) (by omega) (by omega) (by omega) v)
            simp only [W_split] at LE
            rw [decide_eq_true hlt] at LE
            clear e2 gn gm hlt X0 X1 Y0 Y1
            go_wp2_with fail
            refine (MI.out _).mono ?_
            rintro e w3 ⟨rfl, hb3⟩
            replace an := keepC hb3 an
            replace ad := keepC hb3 ad
            replace bn := keepC hb3 bn
            replace bd := keepC hb3 bd
            replace p0 := keepC hb3 p0
            replace p1 := keepC hb3 p1
            replace q0 := keepC hb3 q0
            replace q1 := keepC hb3 q1
            replace fs0 := keepF hb3 s0 fs0
            replace s0 := keepC hb3 s0
            replace fs1 := keepF hb3 s1 fs1
            replace s1 := keepC hb3 s1
            replace fz0 := keepF hb3 z0 fz0
            replace z0 := keepC hb3 z0
            replace fz1 := keepF hb3 z1 fz1
            replace z1 := keepC hb3 z1
            replace hbb := keepB hbb hb3
            clear hb3 MI
            go_wp2_with fail
            refine at_worldC (fun v => Below w.heap.size w v ∧ v.cell? ⟨w.heap.size, 0, none⟩ = some (.int .i64 n) ∧ v.cell? ⟨w.heap.size, 1, none⟩ = some (.int .i64 d) ∧ v.cell? ⟨w.heap.size + 1, 0, none⟩ = some (.int .i64 m) ∧ v.cell? ⟨w.heap.size + 1, 1, none⟩ = some (.int .i64 c) ∧ v.cell? ⟨p, 0, none⟩ = some (.int .u64 (X / 18446744073709551616)) ∧ v.cell? ⟨p, 1, none⟩ = some (.int .u64 (X % 18446744073709551616)) ∧ v.cell? ⟨q, 0, none⟩ = some (.int .u64 (Y / 18446744073709551616)) ∧ v.cell? ⟨q, 1, none⟩ = some (.int .u64 (Y % 18446744073709551616)) ∧ v.cell? ⟨w2.heap.size, 0, none⟩ = some (.int .u64 ((X - Y + 340282366920938463463374607431768211456) / 18446744073709551616)) ∧ v.cell? ⟨w2.heap.size, 1, none⟩ = some (.int .u64 ((X - Y + 340282366920938463463374607431768211456) % 18446744073709551616)) ∧ v.cell? ⟨w.heap.size + 1 + 1, 0, none⟩ = some (.int .i64 0) ∧ v.cell? ⟨w.heap.size + 1 + 1, 1, none⟩ = some (.int .i64 0) ∧ v.frozen? ⟨w2.heap.size, 0, none⟩ = false ∧ v.frozen? ⟨w2.heap.size, 1, none⟩ = false ∧ v.frozen? ⟨w.heap.size + 1 + 1, 0, none⟩ = false ∧ v.frozen? ⟨w.heap.size + 1 + 1, 1, none⟩ = false) ⟨below_set (below_set hbb (by omega) _) (by omega) _, cell_far (cell_far an (by omega) _) (by omega) _, cell_far (cell_far ad (by omega) _) (by omega) _, cell_far (cell_far bn (by omega) _) (by omega) _, cell_far (cell_far bd (by omega) _) (by omega) _, cell_far (cell_far p0 (by omega) _) (by omega) _, cell_far (cell_far p1 (by omega) _) (by omega) _, cell_far (cell_far q0 (by omega) _) (by omega) _, cell_far (cell_far q1 (by omega) _) (by omega) _, by go_simp, by go_simp, cell_far (cell_far z0 (by omega) _) (by omega) _, cell_far (cell_far z1 (by omega) _) (by omega) _, froz_set (froz_set fs0 _ _) _ _, froz_set (froz_set fs1 _ _) _ _, froz_set (froz_set fz0 _ _) _ _, froz_set (froz_set fz1 _ _) _ _⟩ (fun V3 hS => ?_)
            obtain ⟨hbb, an, ad, bn, bd, p0, p1, q0, q1, s0, s1, z0, z1, fs0, fs1, fz0, fz1⟩ := hS
            refine (LE.out _).mono ?_
            rintro e w4 ⟨rfl, hb3⟩
            replace an := keepC hb3 an
            replace ad := keepC hb3 ad
            replace bn := keepC hb3 bn
            replace bd := keepC hb3 bd
            replace p0 := keepC hb3 p0
            replace p1 := keepC hb3 p1
            replace q0 := keepC hb3 q0
            replace q1 := keepC hb3 q1
            replace fs0 := keepF hb3 s0 fs0
            replace s0 := keepC hb3 s0
            replace fs1 := keepF hb3 s1 fs1
            replace s1 := keepC hb3 s1
            replace fz0 := keepF hb3 z0 fz0
            replace z0 := keepC hb3 z0
            replace fz1 := keepF hb3 z1 fz1
            replace z1 := keepC hb3 z1
            replace hbb := keepB hbb hb3
            clear hb3 LE
            go_wp2_with fail
            refine (MJ.out _).mono ?_
            rintro e w5 ⟨rfl, hb3⟩
            replace an := keepC hb3 an
            replace ad := keepC hb3 ad
            replace bn := keepC hb3 bn
            replace bd := keepC hb3 bd
            replace p0 := keepC hb3 p0
            replace p1 := keepC hb3 p1
            replace q0 := keepC hb3 q0
            replace q1 := keepC hb3 q1
            replace fs0 := keepF hb3 s0 fs0
            replace s0 := keepC hb3 s0
            replace fs1 := keepF hb3 s1 fs1
            replace s1 := keepC hb3 s1
            replace fz0 := keepF hb3 z0 fz0
            replace z0 := keepC hb3 z0
            replace fz1 := keepF hb3 z1 fz1
            replace z1 := keepC hb3 z1
            replace hbb := keepB hbb hb3
            clear hb3 MJ
            go_wp2_with fail
            go_meet
            exact ⟨congrArg Value.bool E1.out, below_set (below_set hbb (by omega) _) (by omega) _, cell_far (cell_far ad (by omega) _) (by omega) _, cell_far (cell_far bd (by omega) _) (by omega) _, by go_simp, by go_simp, cell_far (cell_far z0 (by omega) _) (by omega) _, cell_far (cell_far z1 (by omega) _) (by omega) _, froz_set (froz_set fz0 _ _) _ _, froz_set (froz_set fz1 _ _) _ _⟩
          · have hn : decide (n < 0) = false := by simpa using gn
            have hm : decide (m < 0) = true := by simpa using gm
            have hb : tB = true := by rw [← hT, hn, hm]; rfl
            clear hT
            subst hb
            have e1 : decide (n < 0) = SG := by rw [HS.out, hn, hm]; unfold plS; rw [if_neg (by decide), if_neg hlt]
            have e2 : MM = X - Y := by rw [HM.out, hn, hm]; unfold plM; rw [if_neg (by decide), if_neg hlt]
            have E1 := Lib.hid e1
            clear e1 hn hm
            have MI := Lib.hid (fun v => rminus_any (X / 18446744073709551616) (X % 18446744073709551616) (Y / 18446744073709551616) (Y % 18446744073709551616) (by omega) (by omega) (by omega) (by omega) (by omega) (by omega) (by rw [W_split, W_split]; omega) v)
            simp only [W_split] at MI
            rw [← e2] at MI
            have LE := Lib.hid (fun v => rless_any (X / 18446744073709551616) (X % 18446744073709551616) (Y / 18446744073709551616) (Y % 18446744073709551616) (by omega) (by omega) (by omega) (by omega) v)
            simp only [W_split] at LE
            rw [decide_eq_false hlt] at LE
            clear e2 gn gm hlt X0 X1 Y0 Y1
            go_wp2_with fail
            refine (MI.out _).mono ?_
            rintro e w3 ⟨rfl, hb3⟩
            replace an := keepC hb3 an
            replace ad := keepC hb3 ad
            replace bn := keepC hb3 bn
            replace bd := keepC hb3 bd
            replace p0 := keepC hb3 p0
            replace p1 := keepC hb3 p1
            replace q0 := keepC hb3 q0
            replace q1 := keepC hb3 q1
            replace fs0 := keepF hb3 s0 fs0
            replace s0 := keepC hb3 s0
            replace fs1 := keepF hb3 s1 fs1
            replace s1 := keepC hb3 s1
            replace fz0 := keepF hb3 z0 fz0
            replace z0 := keepC hb3 z0
            replace fz1 := keepF hb3 z1 fz1
            replace z1 := keepC hb3 z1
            replace hbb := keepB hbb hb3
            clear hb3 MI
            go_wp2_with fail
            refine at_worldC (fun v => Below w.heap.size w v ∧ v.cell? ⟨w.heap.size, 0, none⟩ = some (.int .i64 n) ∧ v.cell? ⟨w.heap.size, 1, none⟩ = some (.int .i64 d) ∧ v.cell? ⟨w.heap.size + 1, 0, none⟩ = some (.int .i64 m) ∧ v.cell? ⟨w.heap.size + 1, 1, none⟩ = some (.int .i64 c) ∧ v.cell? ⟨p, 0, none⟩ = some (.int .u64 (X / 18446744073709551616)) ∧ v.cell? ⟨p, 1, none⟩ = some (.int .u64 (X % 18446744073709551616)) ∧ v.cell? ⟨q, 0, none⟩ = some (.int .u64 (Y / 18446744073709551616)) ∧ v.cell? ⟨q, 1, none⟩ = some (.int .u64 (Y % 18446744073709551616)) ∧ v.cell? ⟨w2.heap.size, 0, none⟩ = some (.int .u64 (MM / 18446744073709551616)) ∧ v.cell? ⟨w2.heap.size, 1, none⟩ = some (.int .u64 (MM % 18446744073709551616)) ∧ v.cell? ⟨w.heap.size + 1 + 1, 0, none⟩ = some (.int .i64 0) ∧ v.cell? ⟨w.heap.size + 1 + 1, 1, none⟩ = some (.int .i64 0) ∧ v.frozen? ⟨w2.heap.size, 0, none⟩ = false ∧ v.frozen? ⟨w2.heap.size, 1, none⟩ = false ∧ v.frozen? ⟨w.heap.size + 1 + 1, 0, none⟩ = false ∧ v.frozen? ⟨w.heap.size + 1 + 1, 1, none⟩ = false) ⟨below_set (below_set hbb (by omega) _) (by omega) _, cell_far (cell_far an (by omega) _) (by omega) _, cell_far (cell_far ad (by omega) _) (by omega) _, cell_far (cell_far bn (by omega) _) (by omega) _, cell_far (cell_far bd (by omega) _) (by omega) _, cell_far (cell_far p0 (by omega) _) (by omega) _, cell_far (cell_far p1 (by omega) _) (by omega) _, cell_far (cell_far q0 (by omega) _) (by omega) _, cell_far (cell_far q1 (by omega) _) (by omega) _, by go_simp, by go_simp, cell_far (cell_far z0 (by omega) _) (by omega) _, cell_far (cell_far z1 (by omega) _) (by omega) _, froz_set (froz_set fs0 _ _) _ _, froz_set (froz_set fs1 _ _) _ _, froz_set (froz_set fz0 _ _) _ _, froz_set (froz_set fz1 _ _) _ _⟩ (fun V3 hS => ?_)
            obtain ⟨hbb, an, ad, bn, bd, p0, p1, q0, q1, s0, s1, z0, z1, fs0, fs1, fz0, fz1⟩ := hS
            refine (LE.out _).mono ?_
            rintro e w4 ⟨rfl, hb3⟩
            replace an := keepC hb3 an
            replace ad := keepC hb3 ad
            replace bn := keepC hb3 bn
            replace bd := keepC hb3 bd
            replace p0 := keepC hb3 p0
            replace p1 := keepC hb3 p1
            replace q0 := keepC hb3 q0
            replace q1 := keepC hb3 q1
            replace fs0 := keepF hb3 s0 fs0
            replace s0 := keepC hb3 s0
            replace fs1 := keepF hb3 s1 fs1
            replace s1 := keepC hb3 s1
            replace fz0 := keepF hb3 z0 fz0
            replace z0 := keepC hb3 z0
            replace fz1 := keepF hb3 z1 fz1
            replace z1 := keepC hb3 z1
            replace hbb := keepB hbb hb3
            clear hb3 LE
            go_wp2_with fail
            go_meet
            exact ⟨congrArg Value.bool E1.out, hbb, ad, bd, s0, s1, z0, z1, fz0, fz1⟩
        · have hn : decide (n < 0) = false := by simpa using gn
          have hm : decide (m < 0) = false := by simpa using gm
          have hb : tB = false := by rw [← hT, hn, hm]; rfl
          clear hT
          subst hb
          have e1 : decide (n < 0) = SG := by rw [HS.out, hn, hm]; rfl
          have e2 : MM = X + Y := by rw [HM.out, hn, hm]; rfl
          have E1 := Lib.hid e1
          clear e1 hn hm
          rw [← e2] at s0 s1
          clear e2 gn gm
          go_wp2_with fail
          go_meet
          exact ⟨congrArg Value.bool E1.out, hbb, ad, bd, s0, s1, z0, z1, fz0, fz1⟩
    case rest =>
      clear an ad bn bd p0 p1 q0 q1 s0 s1 z0 z1 fs0 fs1 fz0 fz1 hbb X0 X1 Y0 Y1 HS HM
      obtain ⟨rfl, hbb, ad, bd, s0, s1, z0, z1, fz0, fz1⟩ := hcut
      by_cases hM : MM = 0
      · obtain ⟨r1, r2, r3⟩ := HR.out hM
        subst hM r1 r2 r3
        have t0 : (0 : Int) / 18446744073709551616 = 0 := rfl
        have t1 : (0 : Int) % 18446744073709551616 = 0 := rfl
        rw [t0] at s0
        rw [t1] at s1
        clear t0 t1 HR HL GK
        go_wp2_with fail
        exact bodyPost_ret (v := .tuple #[.agg #[.int .i64 0, .int .i64 1], .int .i64 0]) (by simp [results, Tryz.results61, go_sem, z0, z1]) rfl ⟨rfl, below_set (below_set hbb (by omega) _) (by omega) _⟩
      · go_upto_region 12 with fail
        go_cut [76] (fun s v => s = .bool false ∧ Below w.heap.size w v ∧ v.cell? ⟨w.heap.size, 1, none⟩ = some (.int .i64 d) ∧ v.cell? ⟨w.heap.size + 1, 1, none⟩ = some (.int .i64 c) ∧ v.cell? ⟨w2.heap.size, 0, none⟩ = some (.int .u64 (MM / 18446744073709551616)) ∧ v.cell? ⟨w2.heap.size, 1, none⟩ = some (.int .u64 (MM % 18446744073709551616)) ∧ v.cell? ⟨w.heap.size + 1 + 1, 0, none⟩ = some (.int .i64 0) ∧ v.cell? ⟨w.heap.size + 1 + 1, 1, none⟩ = some (.int .i64 0) ∧ v.frozen? ⟨w.heap.size + 1 + 1, 0, none⟩ = false ∧ v.frozen? ⟨w.heap.size + 1 + 1, 1, none⟩ = false)
        case first =>
          go_wp2_with fail
          all_goals
            go_meet
            exact ⟨rfl, hbb, ad, bd, s0, s1, z0, z1, fz0, fz1⟩
        case rest =>
          clear ad bd s0 s1 z0 z1 fz0 fz1 hbb
          obtain ⟨rfl, hbb, ad, bd, s0, s1, z0, z1, fz0, fz1⟩ := hcut
          obtain ⟨r1, r2, r3⟩ := HL.out hM
          have SG1 := Lib.hid (fun v => split_any (MM / 18446744073709551616) (MM % 18446744073709551616) (G : Int) (by omega) (by omega) (by omega) (by omega) (by omega) (by omega) v)
          have SK1 := Lib.hid (fun v => split_any (MM / 18446744073709551616) (MM % 18446744073709551616) (K : Int) (by omega) (by omega) (by omega) (by omega) (by omega) (by omega) v)
          simp only [W_split] at SG1 SK1
          have M2 : 0 ≤ MM / (K : Int) := Int.ediv_nonneg M0 (by omega)
          have M3 : MM / (K : Int) ≤ MM := Int.ediv_le_self _ M0
          have D0 : 0 ≤ D1 * C2 := Int.mul_nonneg (by omega) (by omega)
          have DU : D1 * C2 ≤ 1000000000000000000 * 1000000000000000000 := Int.mul_le_mul (by omega) (by omega) (by omega) (by omega)
          have TD := Lib.hid (fun w => times_any D1 C2 (by omega) (by omega) (by omega) (by omega) w)
          have MA := Lib.hid (fun w => made_any SG (MM / (K : Int)) (D1 * C2) M2 (by omega) D0 (by omega) w)
          rw [r1, r2, r3] at MA
          clear r1 r2 r3 HR HL hM M2 M3 D0 DU
          go_wp2_with fail
          refine (SG1.out _).mono ?_
          rintro e w6 ⟨rfl, hb3⟩
          replace ad := keepC hb3 ad
          replace bd := keepC hb3 bd
          replace s0 := keepC hb3 s0
          replace s1 := keepC hb3 s1
          replace fz0 := keepF hb3 z0 fz0
          replace z0 := keepC hb3 z0
          replace fz1 := keepF hb3 z1 fz1
          replace z1 := keepC hb3 z1
          replace hbb := keepB hbb hb3
          clear hb3 SG1
          go_wp2_with fail
          refine at_worldC (fun v => Below w.heap.size w v ∧ v.cell? ⟨w.heap.size, 1, none⟩ = some (.int .i64 d) ∧ v.cell? ⟨w.heap.size + 1, 1, none⟩ = some (.int .i64 c) ∧ v.cell? ⟨w2.heap.size, 0, none⟩ = some (.int .u64 (MM / 18446744073709551616)) ∧ v.cell? ⟨w2.heap.size, 1, none⟩ = some (.int .u64 (MM % 18446744073709551616)) ∧ v.cell? ⟨w.heap.size + 1 + 1, 0, none⟩ = some (.int .i64 0) ∧ v.cell? ⟨w.heap.size + 1 + 1, 1, none⟩ = some (.int .i64 0) ∧ v.frozen? ⟨w.heap.size + 1 + 1, 0, none⟩ = false ∧ v.frozen? ⟨w.heap.size + 1 + 1, 1, none⟩ = false) ⟨below_al hbb _, cell_alloc ad _, cell_alloc bd _, cell_alloc s0 _, cell_alloc s1 _, cell_alloc z0 _, cell_alloc z1 _, froz_alloc z0 fz0 _, froz_alloc z1 fz1 _⟩ (fun V7 hS => ?_)
          obtain ⟨hbb, ad, bd, s0, s1, z0, z1, fz0, fz1⟩ := hS
          refine (GK.out _).mono ?_
          rintro e w7 ⟨rfl, nd2, rfl⟩
          clear GK
          go_wp2_with fail
          refine (SK1.out _).mono ?_
          rintro e w8 ⟨rfl, hb3⟩
          replace hbb := below_drewN hbb nd2
          replace ad := keepC hb3 ad
          replace bd := keepC hb3 bd
          replace s0 := keepC hb3 s0
          replace s1 := keepC hb3 s1
          replace fz0 := keepF hb3 z0 fz0
          replace z0 := keepC hb3 z0
          replace fz1 := keepF hb3 z1 fz1
          replace z1 := keepC hb3 z1
          replace hbb := keepB hbb hb3
          clear hb3 SK1
          have l0 := lt_of_cell ad
          have l1 := lt_of_cell bd
          have l2 := lt_of_cell z0
          go_wp2_with fail
          have wC2 := WC2.out
          have nK : ¬ K = 0 := by omega
          have nK' : ¬ (K : Int) = 0 := by omega
          refine at_world (fun v => Below w.heap.size w v ∧ v.cell? ⟨w.heap.size, 1, none⟩ = some (.int .i64 d) ∧ v.cell? ⟨w.heap.size + 1, 1, none⟩ = some (.int .i64 c) ∧ v.cell? ⟨w8.heap.size, 0, none⟩ = some (.int .u64 ((MM / (K : Int)) / 18446744073709551616)) ∧ v.cell? ⟨w8.heap.size, 1, none⟩ = some (.int .u64 ((MM / (K : Int)) % 18446744073709551616)) ∧ v.cell? ⟨w.heap.size + 1 + 1, 0, none⟩ = some (.int .i64 0) ∧ v.cell? ⟨w.heap.size + 1 + 1, 1, none⟩ = some (.int .i64 0) ∧ v.frozen? ⟨w.heap.size + 1 + 1, 0, none⟩ = false ∧ v.frozen? ⟨w.heap.size + 1 + 1, 1, none⟩ = false) ⟨below_al hbb _, cell_alloc ad _, cell_alloc bd _, n20 _ _ _ _, n21 _ _ _ _, cell_alloc z0 _, cell_alloc z1 _, froz_alloc z0 fz0 _, froz_alloc z1 fz1 _⟩ (fun V8 hS => ?_)
          obtain ⟨hbb, ad, bd, t0, t1, z0, z1, fz0, fz1⟩ := hS
          have l3 := lt_of_cell t0
          go_region_held3 (fun v => Below w.heap.size w v ∧ v.cell? ⟨w.heap.size, 1, none⟩ = some (.int .i64 d) ∧ v.cell? ⟨w.heap.size + 1, 1, none⟩ = some (.int .i64 c) ∧ v.cell? ⟨w8.heap.size, 0, none⟩ = some (.int .u64 ((MM / (K : Int)) / 18446744073709551616)) ∧ v.cell? ⟨w8.heap.size, 1, none⟩ = some (.int .u64 ((MM / (K : Int)) % 18446744073709551616)) ∧ v.cell? ⟨w.heap.size + 1 + 1, 0, none⟩ = some (vat v (w.heap.size + 1 + 1) 0) ∧ v.cell? ⟨w.heap.size + 1 + 1, 1, none⟩ = some (vat v (w.heap.size + 1 + 1) 1) ∧ v.frozen? ⟨w.heap.size + 1 + 1, 0, none⟩ = false ∧ v.frozen? ⟨w.heap.size + 1 + 1, 1, none⟩ = false)
            (first | (exact ⟨hbb.drew, ad, bd, t0, t1, vat_of (z0), vat_of (z1), fz0, fz1⟩) | (with_reducible assumption) | (obtain ⟨k0, kad, kbd, kt0, kt1, kz0, kz1, kfz0, kfz1⟩ := ‹Below w.heap.size w _ ∧ _›; exact ⟨keepB k0 hb3, keepC hb3 kad, keepC hb3 kbd, keepC hb3 kt0, keepC hb3 kt1, vat_of (keepC hb3 kz0), vat_of (keepC hb3 kz1), keepF hb3 kz0 kfz0, keepF hb3 kz1 kfz1⟩) | (obtain ⟨k0, kad, kbd, kt0, kt1, kz0, kz1, kfz0, kfz1⟩ := ‹Below w.heap.size w _ ∧ _›; exact ⟨below_set (below_set (k0) (by omega) _) (by omega) _, cell_far (cell_far (kad) (by omega) _) (by omega) _, cell_far (cell_far (kbd) (by omega) _) (by omega) _, cell_far (cell_far (kt0) (by omega) _) (by omega) _, cell_far (cell_far (kt1) (by omega) _) (by omega) _, vat_set (vat_set (kz0) _ _) _ _, vat_set (vat_set (kz1) _ _) _ _, froz_set (froz_set (kfz0) _ _) _ _, froz_set (froz_set (kfz1) _ _) _ _⟩))
            (first
              | (go_at_call 81; refine (TD.out _).mono ?_; rintro e w3 ⟨rfl, hb3⟩)
              | (go_at_call 53; refine (MA.out _).mono ?_; rintro e w3 ⟨rfl, hb3⟩))
          go_wp2
          obtain ⟨k0', _, _, _, _, k1', k2', _, _⟩ := ‹Below w.heap.size w _ ∧ _›
          have r0 := res_far (by simp) k1'
          have r1 := res_last k2'
          exact bodyPost_ret (v := .tuple #[.agg #[.int .i64 R1, .int .i64 R2], .int .i64 R3]) (by simp [results, Tryz.results61, go_sem, r0, r1]) rfl ⟨rfl, k0'⟩
end Go.Proofs.YtncmffhoodfhjaaGreat
