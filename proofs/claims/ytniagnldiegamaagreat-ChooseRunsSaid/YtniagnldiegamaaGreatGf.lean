/- Contracts of package ratio's Add, Sub and Cmp, for all arguments. Contracts of the reference's Less and Cmp. -/
import Derived.Test.YtniagnldiegamaaGreatAdd
import Derived.Test.YtniagnldiegamaaGreatGe
namespace Go.Proofs.YtniagnldiegamaaGreat
open Go.RowKit

theorem both_cases (n d m c : Int) : (Rp.both n d m c = 0 ∧ Rp.Ok n d ∧ Rp.Ok m c) ∨ Rp.both n d m c = 8 := by
  unfold Rp.both Rp.chk
  by_cases h : Rp.Ok n d
  · by_cases k : Rp.Ok m c
    · left; rw [if_pos h, if_pos k]; exact ⟨rfl, h, k⟩
    · right; rw [if_pos h, if_neg k]
  · right; rw [if_neg h]

theorem Ok_neg {n d : Int} (h : Rp.Ok n d) : Rp.Ok (-n) d := by
  obtain ⟨h1, h2, h3, h4, h5⟩ := h; exact ⟨h1, h2, by omega, by omega, by rw [Int.natAbs_neg]; exact h5⟩

theorem q_neg (n d : Int) : Rp.q (-n) d = -Rp.q n d := by unfold Rp.q; rw [Rat.neg_divInt]

set_option maxHeartbeats 1000000 in
theorem Add_any (n d m c : Int) (w : World) (n0 : -9223372036854775808 ≤ n) (n1 : n ≤ 9223372036854775807) (d0 : -9223372036854775808 ≤ d) (d1 : d ≤ 9223372036854775807)
    (m0 : -9223372036854775808 ≤ m) (m1 : m ≤ 9223372036854775807) (c0 : -9223372036854775808 ≤ c) (c1 : c ≤ 9223372036854775807) :
    Calls Tryz.prog 174 #[.agg #[.int .i64 n, .int .i64 d], .agg #[.int .i64 m, .int .i64 c]] w fun e w' => e = .returned (.tuple #[.agg #[.int .i64 (Rp.addS n d m c).1, .int .i64 (Rp.addS n d m c).2.1], .int .i64 (Rp.addS n d m c).2.2]) ∧ Below w.heap.size w w' := by
  have cb := fun w => checkBoth_any n d m c w n0 n1 d0 d1 m0 m1 c0 c1
  rcases both_cases n d m c with ⟨h, hx, hy⟩ | h
  · have e : Rp.addS n d m c = Rp.add n d m c := by unfold Rp.addS; rw [if_pos h]
    rw [h] at cb; have CB := Lib.hid cb; have AD := Lib.hid (fun w => add_any n d m c hx hy w); clear cb h; obtain ⟨o1, o2, o3, o4, _⟩ := hx; obtain ⟨u1, u2, u3, u4, _⟩ := hy; rw [e]; clear e
    go_enter Tryz.func174, Tryz.ntmps174
    (go_wp2_with fail); refine (CB.out _).mono ?_; rintro e w1 ⟨rfl, hb1⟩; have x0 : w1.cell? ⟨w.heap.size, 0, none⟩ = some (.int .i64 n) := keepC hb1 (by go_simp); have x1 : w1.cell? ⟨w.heap.size, 1, none⟩ = some (.int .i64 d) := keepC hb1 (by go_simp); have y0 : w1.cell? ⟨w.heap.size + 1, 0, none⟩ = some (.int .i64 m) := keepC hb1 (by go_simp); have y1 : w1.cell? ⟨w.heap.size + 1, 1, none⟩ = some (.int .i64 c) := keepC hb1 (by go_simp); have z0 : w1.cell? ⟨w.heap.size + 1 + 1, 0, none⟩ = some (.int .i64 0) := keepC hb1 (by go_simp); have fz0 : w1.frozen? ⟨w.heap.size + 1 + 1, 0, none⟩ = false := keepF hb1 (v := .int .i64 0) (by go_simp) (by go_simp); have z1 : w1.cell? ⟨w.heap.size + 1 + 1, 1, none⟩ = some (.int .i64 0) := keepC hb1 (by go_simp); have fz1 : w1.frozen? ⟨w.heap.size + 1 + 1, 1, none⟩ = false := keepF hb1 (v := .int .i64 0) (by go_simp) (by go_simp); have hbb : Below w.heap.size w w1 := keepB ((((Below.refl _ _).alloc (Nat.le_refl _) _).alloc (by simp) _).alloc (by simp; omega) _) hb1; clear hb1; (go_wp2_with fail); refine (AD.out _).mono ?_; rintro e w2 ⟨rfl, hb2⟩; replace fz0 := keepF hb2 z0 fz0; replace z0 := keepC hb2 z0; replace fz1 := keepF hb2 z1 fz1; replace z1 := keepC hb2 z1; replace hbb := keepB hbb hb2; clear hb2
    go_wp2
    exact bodyPost_ret (v := .tuple #[.agg #[.int .i64 (Rp.add n d m c).1, .int .i64 (Rp.add n d m c).2.1], .int .i64 (Rp.add n d m c).2.2]) (by simp [results, Tryz.results174, go_sem, z0, z1]) rfl ⟨rfl, below_set (below_set hbb (by omega) _) (by omega) _⟩
  · have e : Rp.addS n d m c = (0, 0, 8) := by unfold Rp.addS; rw [h]; rfl
    rw [e]; rw [h] at cb; have CB := Lib.hid cb; clear cb h e
    go_enter Tryz.func174, Tryz.ntmps174
    (go_wp2_with fail); refine (CB.out _).mono ?_; rintro e w1 ⟨rfl, hb1⟩; have z0 : w1.cell? ⟨w.heap.size + 1 + 1, 0, none⟩ = some (.int .i64 0) := keepC hb1 (by go_simp); have fz0 : w1.frozen? ⟨w.heap.size + 1 + 1, 0, none⟩ = false := keepF hb1 (v := .int .i64 0) (by go_simp) (by go_simp); have z1 : w1.cell? ⟨w.heap.size + 1 + 1, 1, none⟩ = some (.int .i64 0) := keepC hb1 (by go_simp); have fz1 : w1.frozen? ⟨w.heap.size + 1 + 1, 1, none⟩ = false := keepF hb1 (v := .int .i64 0) (by go_simp) (by go_simp); have hbb : Below w.heap.size w w1 := keepB ((((Below.refl _ _).alloc (Nat.le_refl _) _).alloc (by simp) _).alloc (by simp; omega) _) hb1; clear hb1
    go_wp2
    exact bodyPost_ret (v := .tuple #[.agg #[.int .i64 0, .int .i64 0], .int .i64 8]) (by simp [results, Tryz.results174, go_sem, z0, z1]) rfl ⟨rfl, below_set (below_set hbb (by omega) _) (by omega) _⟩

set_option maxHeartbeats 1000000 in
theorem Sub_any (n d m c : Int) (w : World) (n0 : -9223372036854775808 ≤ n) (n1 : n ≤ 9223372036854775807) (d0 : -9223372036854775808 ≤ d) (d1 : d ≤ 9223372036854775807)
    (m0 : -9223372036854775808 ≤ m) (m1 : m ≤ 9223372036854775807) (c0 : -9223372036854775808 ≤ c) (c1 : c ≤ 9223372036854775807) :
    Calls Tryz.prog 176 #[.agg #[.int .i64 n, .int .i64 d], .agg #[.int .i64 m, .int .i64 c]] w fun e w' => e = .returned (.tuple #[.agg #[.int .i64 (Rp.subS n d m c).1, .int .i64 (Rp.subS n d m c).2.1], .int .i64 (Rp.subS n d m c).2.2]) ∧ Below w.heap.size w w' := by
  have cb := fun w => checkBoth_any n d m c w n0 n1 d0 d1 m0 m1 c0 c1
  rcases both_cases n d m c with ⟨h, hx, hy⟩ | h
  · have e : Rp.subS n d m c = Rp.add n d (-m) c := by unfold Rp.subS Rp.add; rw [if_pos h, q_neg, Rat.sub_eq_add_neg]
    rw [h] at cb; have CB := Lib.hid cb; have AD := Lib.hid (fun w => add_any n d (-m) c hx (Ok_neg hy) w); have OP := Lib.hid (fun w => opposite_any m c w hy.2.2.1 hy.2.2.2.1); clear cb h; obtain ⟨o1, o2, o3, o4, _⟩ := hx; obtain ⟨u1, u2, u3, u4, _⟩ := hy; rw [e]; clear e
    go_enter Tryz.func176, Tryz.ntmps176
    (go_wp2_with fail); refine (CB.out _).mono ?_; rintro e w1 ⟨rfl, hb1⟩; have x0 : w1.cell? ⟨w.heap.size, 0, none⟩ = some (.int .i64 n) := keepC hb1 (by go_simp); have x1 : w1.cell? ⟨w.heap.size, 1, none⟩ = some (.int .i64 d) := keepC hb1 (by go_simp); have y0 : w1.cell? ⟨w.heap.size + 1, 0, none⟩ = some (.int .i64 m) := keepC hb1 (by go_simp); have y1 : w1.cell? ⟨w.heap.size + 1, 1, none⟩ = some (.int .i64 c) := keepC hb1 (by go_simp); have z0 : w1.cell? ⟨w.heap.size + 1 + 1, 0, none⟩ = some (.int .i64 0) := keepC hb1 (by go_simp); have fz0 : w1.frozen? ⟨w.heap.size + 1 + 1, 0, none⟩ = false := keepF hb1 (v := .int .i64 0) (by go_simp) (by go_simp); have z1 : w1.cell? ⟨w.heap.size + 1 + 1, 1, none⟩ = some (.int .i64 0) := keepC hb1 (by go_simp); have fz1 : w1.frozen? ⟨w.heap.size + 1 + 1, 1, none⟩ = false := keepF hb1 (v := .int .i64 0) (by go_simp) (by go_simp); have hbb : Below w.heap.size w w1 := keepB ((((Below.refl _ _).alloc (Nat.le_refl _) _).alloc (by simp) _).alloc (by simp; omega) _) hb1; clear hb1; (go_wp2_with fail); have hsz := lt_of_cell z0
    go_region_held3 (fun v => Below w.heap.size w v ∧ v.cell? ⟨w.heap.size, 0, none⟩ = some (.int .i64 n) ∧ v.cell? ⟨w.heap.size, 1, none⟩ = some (.int .i64 d) ∧ v.cell? ⟨w.heap.size + 1, 0, none⟩ = some (.int .i64 m) ∧ v.cell? ⟨w.heap.size + 1, 1, none⟩ = some (.int .i64 c) ∧ v.cell? ⟨w.heap.size + 1 + 1, 0, none⟩ = some (vat v (w.heap.size + 1 + 1) 0) ∧ v.cell? ⟨w.heap.size + 1 + 1, 1, none⟩ = some (vat v (w.heap.size + 1 + 1) 1) ∧ v.frozen? ⟨w.heap.size + 1 + 1, 0, none⟩ = false ∧ v.frozen? ⟨w.heap.size + 1 + 1, 1, none⟩ = false)
      (first | (exact ⟨hbb.drew, x0, x1, y0, y1, vat_of (z0), vat_of (z1), fz0, fz1⟩) | (obtain ⟨k0, kx0, kx1, ky0, ky1, kz0, kz1, kfz0, kfz1⟩ := ‹Below w.heap.size w _ ∧ _›; exact ⟨keepB k0 hb3, keepC hb3 kx0, keepC hb3 kx1, keepC hb3 ky0, keepC hb3 ky1, vat_of (keepC hb3 kz0), vat_of (keepC hb3 kz1), keepF hb3 kz0 kfz0, keepF hb3 kz1 kfz1⟩) | (obtain ⟨k0, kx0, kx1, ky0, ky1, kz0, kz1, kfz0, kfz1⟩ := ‹Below w.heap.size w _ ∧ _›; exact ⟨below_set (below_set (k0) (by omega) _) (by omega) _, cell_far (cell_far (kx0) (by omega) _) (by omega) _, cell_far (cell_far (kx1) (by omega) _) (by omega) _, cell_far (cell_far (ky0) (by omega) _) (by omega) _, cell_far (cell_far (ky1) (by omega) _) (by omega) _, vat_set (vat_set (kz0) _ _) _ _, vat_set (vat_set (kz1) _ _) _ _, froz_set (froz_set (kfz0) _ _) _ _, froz_set (froz_set (kfz1) _ _) _ _⟩))
      (first
        | (go_at_call 195; refine (OP.out _).mono ?_; rintro e w3 ⟨rfl, hb3⟩)
        | (go_at_call 193; refine (AD.out _).mono ?_; rintro e w3 ⟨rfl, hb3⟩))
    go_wp2
    obtain ⟨k0', _, _, _, _, k1', k2', _, _⟩ := ‹Below w.heap.size w _ ∧ _›; have r0 := res_far (by simp) k1'; have r1 := res_last k2'; exact bodyPost_ret (v := .tuple #[.agg #[.int .i64 (Rp.add n d (-m) c).1, .int .i64 (Rp.add n d (-m) c).2.1], .int .i64 (Rp.add n d (-m) c).2.2]) (by simp [results, Tryz.results176, go_sem, r0, r1]) rfl ⟨rfl, k0'⟩
  · have e : Rp.subS n d m c = (0, 0, 8) := by unfold Rp.subS; rw [h]; rfl
    rw [e]; rw [h] at cb; have CB := Lib.hid cb; clear cb h e
    go_enter Tryz.func176, Tryz.ntmps176
    (go_wp2_with fail); refine (CB.out _).mono ?_; rintro e w1 ⟨rfl, hb1⟩; have z0 : w1.cell? ⟨w.heap.size + 1 + 1, 0, none⟩ = some (.int .i64 0) := keepC hb1 (by go_simp); have fz0 : w1.frozen? ⟨w.heap.size + 1 + 1, 0, none⟩ = false := keepF hb1 (v := .int .i64 0) (by go_simp) (by go_simp); have z1 : w1.cell? ⟨w.heap.size + 1 + 1, 1, none⟩ = some (.int .i64 0) := keepC hb1 (by go_simp); have fz1 : w1.frozen? ⟨w.heap.size + 1 + 1, 1, none⟩ = false := keepF hb1 (v := .int .i64 0) (by go_simp) (by go_simp); have hbb : Below w.heap.size w w1 := keepB ((((Below.refl _ _).alloc (Nat.le_refl _) _).alloc (by simp) _).alloc (by simp; omega) _) hb1; clear hb1
    go_wp2
    exact bodyPost_ret (v := .tuple #[.agg #[.int .i64 0, .int .i64 0], .int .i64 8]) (by simp [results, Tryz.results176, go_sem, z0, z1]) rfl ⟨rfl, below_set (below_set hbb (by omega) _) (by omega) _⟩

theorem sign_cmp {n d m c : Int} (h : Rp.Ok n d) (k : Rp.Ok m c) (s : Bool) (M : Int) (M0 : 0 ≤ M) (e : sg s M = n * c + -m * d) :
    (if M = 0 then 0 else if s then -1 else 1 : Int) = Rp.cmpQ (Rp.q n d) (Rp.q m c) := by
  have l1 : (Rp.q n d < Rp.q m c) ↔ n * c < m * d := by rw [Rat.lt_iff, Rp.q_num h, Rp.q_num k, Rp.q_denI h, Rp.q_denI k]
  have l2 : (Rp.q m c < Rp.q n d) ↔ m * d < n * c := by rw [Rat.lt_iff, Rp.q_num h, Rp.q_num k, Rp.q_denI h, Rp.q_denI k]
  unfold Rp.cmpQ
  simp only [l1, l2]
  rw [Int.neg_mul] at e
  generalize n * c = X at *
  generalize m * d = Y at *
  cases s
  · have e : M = X + -Y := e
    simp only [Bool.false_eq_true, if_false]
    (repeat' split) <;> omega
  · have e : -M = X + -Y := e
    simp only [if_true]
    (repeat' split) <;> omega

set_option maxHeartbeats 2000000 in
theorem Cmp_any (n d m c : Int) (w : World) (n0 : -9223372036854775808 ≤ n) (n1 : n ≤ 9223372036854775807) (d0 : -9223372036854775808 ≤ d) (d1 : d ≤ 9223372036854775807)
    (m0 : -9223372036854775808 ≤ m) (m1 : m ≤ 9223372036854775807) (c0 : -9223372036854775808 ≤ c) (c1 : c ≤ 9223372036854775807) :
    Calls Tryz.prog 113 #[.agg #[.int .i64 n, .int .i64 d], .agg #[.int .i64 m, .int .i64 c]] w fun e w' => e = .returned (.tuple #[.int .i64 (Rp.cmpS n d m c).1, .int .i64 (Rp.cmpS n d m c).2]) ∧ Below w.heap.size w w' := by
  have cb := fun w => checkBoth_any n d m c w n0 n1 d0 d1 m0 m1 c0 c1
  rcases both_cases n d m c with ⟨h, hx, hy⟩ | h
  · have e : Rp.cmpS n d m c = (Rp.cmpQ (Rp.q n d) (Rp.q m c), 0) := by unfold Rp.cmpS; rw [if_pos h]
    rw [e]; rw [h] at cb; have CB := Lib.hid cb; have hsc := sign_cmp hx hy
    generalize Rp.cmpQ (Rp.q n d) (Rp.q m c) = RR at *
    obtain ⟨o1, o2, o3, o4, _⟩ := hx; obtain ⟨u1, u2, u3, u4, _⟩ := hy
    have pn := fun w => product_any n c (by omega) (by omega) (by omega) (by omega) w
    have pm := fun w => product_any (-m) d (by omega) (by omega) (by omega) (by omega) w
    have x0 : 0 ≤ (n.natAbs : Int) * c.natAbs := Int.mul_nonneg (by omega) (by omega); have x1 : (n.natAbs : Int) * c.natAbs ≤ 1000000000000000000 * 1000000000000000000 := Int.mul_le_mul (by omega) (by omega) (by omega) (by omega); have y0 : 0 ≤ ((-m).natAbs : Int) * d.natAbs := Int.mul_nonneg (by omega) (by omega); have y1 : ((-m).natAbs : Int) * d.natAbs ≤ 1000000000000000000 * 1000000000000000000 := Int.mul_le_mul (by omega) (by omega) (by omega) (by omega); have hsp := sg_product n c; have hsq := sg_product (-m) d
    generalize (n.natAbs : Int) * c.natAbs = X at *
    generalize ((-m).natAbs : Int) * d.natAbs = Y at *
    generalize ngB n c = sX at *
    generalize ngB (-m) d = sY at *
    have pp := fun w => plus_any sX sY (X / 18446744073709551616) (X % 18446744073709551616) (Y / 18446744073709551616) (Y % 18446744073709551616) (by omega) (by omega) (by omega) (by omega) (by omega) (by omega) (by omega) (by omega) (by rw [W_split, W_split]; omega) w
    have hss := sg_plus sX sY X Y; have hbd := plM_bd sX sY X Y x0 y0; rw [hsp, hsq] at hss
    simp only [W_split] at pp
    generalize plS sX X sY Y = sN at *
    generalize plM sX X sY Y = M at *
    obtain ⟨M0, M1⟩ := hbd; have hR := hsc sN M M0 hss
    have sgn := fun w => sign_any sN (M / 18446744073709551616) (M % 18446744073709551616) (by omega) (by omega) w
    simp only [W_split, hR] at sgn
    have SG := Lib.hid sgn; have PN := Lib.hid pn; have PM := Lib.hid pm; have PP := Lib.hid pp; clear cb h e hss hsp hsq hR hsc sgn pn pm pp
    go_enter Tryz.func113, Tryz.ntmps113
    (go_wp2_with fail); refine (CB.out _).mono ?_; rintro e w1 ⟨rfl, hb1⟩; have an : w1.cell? ⟨w.heap.size, 0, none⟩ = some (.int .i64 n) := keepC hb1 (by go_simp); have ad : w1.cell? ⟨w.heap.size, 1, none⟩ = some (.int .i64 d) := keepC hb1 (by go_simp); have bn : w1.cell? ⟨w.heap.size + 1, 0, none⟩ = some (.int .i64 m) := keepC hb1 (by go_simp); have bd : w1.cell? ⟨w.heap.size + 1, 1, none⟩ = some (.int .i64 c) := keepC hb1 (by go_simp); have hbb : Below w.heap.size w w1 := keepB (((Below.refl _ _).alloc (Nat.le_refl _) _).alloc (by simp) _) hb1; clear hb1
    go_upto_region 4 with fail
    have hlt := lt_of_cell bn; have hwm : IntKind.i64.wrap (-m) = -m := IntWalk.i64_in _ (by omega)
    go_cut [7] (fun x v => ∃ p : Nat, x = .pointer (some ⟨p, 0, none⟩) ∧ Below w.heap.size w v ∧ v.cell? ⟨p, 0, none⟩ = some (.bool sN) ∧ v.cell? ⟨p, 1, none⟩ = some (.int .u64 (M / 18446744073709551616)) ∧ v.cell? ⟨p, 2, none⟩ = some (.int .u64 (M % 18446744073709551616)))
    case first =>
      go_region_held3 (fun v => Below w.heap.size w v ∧ v.cell? ⟨w.heap.size, 0, none⟩ = some (.int .i64 n) ∧ v.cell? ⟨w.heap.size, 1, none⟩ = some (.int .i64 d) ∧ v.cell? ⟨w.heap.size + 1, 0, none⟩ = some (.int .i64 m) ∧ v.cell? ⟨w.heap.size + 1, 1, none⟩ = some (.int .i64 c))
        (first | (exact ⟨hbb.drew, an, ad, bn, bd⟩) | (obtain ⟨k0, kan, kad, kbn, kbd⟩ := ‹Below w.heap.size w _ ∧ _›; exact ⟨keepB k0 hb3, keepC hb3 kan, keepC hb3 kad, keepC hb3 kbn, keepC hb3 kbd⟩) | (exact ⟨j0.out.alloc j0.out.size _, cell_alloc jan.out _, cell_alloc jad.out _, cell_alloc jbn.out _, cell_alloc jbd.out _⟩) | (obtain ⟨k0, kan, kad, kbn, kbd⟩ := ‹Below w.heap.size w _ ∧ _›; exact ⟨k0.alloc k0.size _, cell_alloc kan _, cell_alloc kad _, cell_alloc kbn _, cell_alloc kbd _⟩) | (exact ⟨below_set (below_set (below_set (j0.out) (by omega) _) (by omega) _) (by omega) _, cell_far (cell_far (cell_far (jan.out) (by omega) _) (by omega) _) (by omega) _, cell_far (cell_far (cell_far (jad.out) (by omega) _) (by omega) _) (by omega) _, cell_far (cell_far (cell_far (jbn.out) (by omega) _) (by omega) _) (by omega) _, cell_far (cell_far (cell_far (jbd.out) (by omega) _) (by omega) _) (by omega) _⟩))
        (first
          | (go_at_call_of 133 (Value.int .i64 n); refine (PN.out _).mono ?_; rintro e w3 ⟨rfl, hb3⟩; (first | (replace fnb0 := keepF hb3 nb0 fnb0; replace fnb1 := keepF hb3 nb1 fnb1; replace fnb2 := keepF hb3 nb2 fnb2; replace nb0 := keepC hb3 nb0; replace nb1 := keepC hb3 nb1; replace nb2 := keepC hb3 nb2) | (obtain ⟨k0, kan, kad, kbn, kbd⟩ := ‹Below w.heap.size w _ ∧ _›; have nb0 := keepC hb3 (new0 _ _ _ _ _); have nb1 := keepC hb3 (new1 _ _ _ _ _); have nb2 := keepC hb3 (new2 _ _ _ _ _); have fnb0 := keepF hb3 (new0 _ _ _ _ _) (newf _ _ _ _ _ 0); have fnb1 := keepF hb3 (new1 _ _ _ _ _) (newf _ _ _ _ _ 1); have fnb2 := keepF hb3 (new2 _ _ _ _ _) (newf _ _ _ _ _ 2); have hu := lt_alloc' kbn (new0 _ _ _ _ _) (by simp); clear k0 kan kad kbn kbd) | skip))
          | (go_at_call_of 133 (Value.int .i64 (-m)); refine (PM.out _).mono ?_; rintro e w3 ⟨rfl, hb3⟩; (first | (replace fnb0 := keepF hb3 nb0 fnb0; replace fnb1 := keepF hb3 nb1 fnb1; replace fnb2 := keepF hb3 nb2 fnb2; replace nb0 := keepC hb3 nb0; replace nb1 := keepC hb3 nb1; replace nb2 := keepC hb3 nb2) | (obtain ⟨k0, kan, kad, kbn, kbd⟩ := ‹Below w.heap.size w _ ∧ _›; have nb0 := keepC hb3 (new0 _ _ _ _ _); have nb1 := keepC hb3 (new1 _ _ _ _ _); have nb2 := keepC hb3 (new2 _ _ _ _ _); have fnb0 := keepF hb3 (new0 _ _ _ _ _) (newf _ _ _ _ _ 0); have fnb1 := keepF hb3 (new1 _ _ _ _ _) (newf _ _ _ _ _ 1); have fnb2 := keepF hb3 (new2 _ _ _ _ _) (newf _ _ _ _ _ 2); have hu := lt_alloc' kbn (new0 _ _ _ _ _) (by simp); clear k0 kan kad kbn kbd) | skip))
          | (go_at_call 132; refine (PP.out _).mono ?_; rintro e w3 ⟨rfl, hb3⟩; (first | (replace fnb0 := keepF hb3 nb0 fnb0; replace fnb1 := keepF hb3 nb1 fnb1; replace fnb2 := keepF hb3 nb2 fnb2; replace nb0 := keepC hb3 nb0; replace nb1 := keepC hb3 nb1; replace nb2 := keepC hb3 nb2) | (obtain ⟨k0, kan, kad, kbn, kbd⟩ := ‹Below w.heap.size w _ ∧ _›; have nb0 := keepC hb3 (new0 _ _ _ _ _); have nb1 := keepC hb3 (new1 _ _ _ _ _); have nb2 := keepC hb3 (new2 _ _ _ _ _); have fnb0 := keepF hb3 (new0 _ _ _ _ _) (newf _ _ _ _ _ 0); have fnb1 := keepF hb3 (new1 _ _ _ _ _) (newf _ _ _ _ _ 1); have fnb2 := keepF hb3 (new2 _ _ _ _ _) (newf _ _ _ _ _ 2); have hu := lt_alloc' kbn (new0 _ _ _ _ _) (by simp); clear k0 kan kad kbn kbd) | skip); obtain ⟨k0, kan, kad, kbn, kbd⟩ := ‹Below w.heap.size w _ ∧ _›; have j0 := Lib.hid (keepB k0 hb3); have jan := Lib.hid (keepC hb3 kan); have jad := Lib.hid (keepC hb3 kad); have jbn := Lib.hid (keepC hb3 kbn); have jbd := Lib.hid (keepC hb3 kbd); clear k0 kan kad kbn kbd))
      all_goals
        go_wp2_with fail
        go_meet
        refine ⟨_, rfl, ?_, ?_, ?_, ?_⟩
        · obtain ⟨k0, _⟩ := ‹Below w.heap.size w _ ∧ _›; exact k0
        · go_simp
        · go_simp
        · go_simp
    case rest =>
      clear an ad bn bd hbb hlt; obtain ⟨p, rfl, hbb, q0, q1, q2⟩ := hcut; (go_wp2_with fail); refine (SG.out _).mono ?_; rintro e w2 ⟨rfl, hb2⟩
      go_wp2
      go_ret2
      exact ⟨rfl, keepB hbb hb2⟩
  · have e : Rp.cmpS n d m c = (0, 8) := by unfold Rp.cmpS; rw [h]; rfl
    rw [e]; rw [h] at cb; have CB := Lib.hid cb; clear cb h e
    go_enter Tryz.func113, Tryz.ntmps113
    (go_wp2_with fail); refine (CB.out _).mono ?_; rintro e w1 ⟨rfl, hb1⟩; have hbb : Below w.heap.size w w1 := keepB (((Below.refl _ _).alloc (Nat.le_refl _) _).alloc (by simp) _) hb1; clear hb1
    go_wp2
    go_ret2
    exact ⟨rfl, hbb⟩
end Go.Proofs.YtniagnldiegamaaGreat
namespace Go.Proofs.YtniagnldiegamaaGreat
open Go.RowKit

set_option maxHeartbeats 4000000 in
set_option maxRecDepth 100000 in
theorem Less_same (n d m c : Int) (w : World) (n0 : -1000000000000000000 ≤ n) (n1 : n ≤ 1000000000000000000) (d0 : 1 ≤ d) (d1 : d ≤ 1000000000000000000)
    (m0 : -1000000000000000000 ≤ m) (m1 : m ≤ 1000000000000000000) (c0 : 1 ≤ c) (c1 : c ≤ 1000000000000000000) (hs : decide (n < 0) = decide (m < 0)) :
    Calls Tryz.prog 53 #[.agg #[.int .i64 n, .int .i64 d], .agg #[.int .i64 m, .int .i64 c]] w fun e w' =>
      e = .returned (.bool (if n < 0 then decide ((m.natAbs : Int) * d < n.natAbs * c) else decide ((n.natAbs : Int) * c < m.natAbs * d))) ∧ Below w.heap.size w w' := by
  have hb : (decide (n < 0) == decide (m < 0)) = true := by rw [beq_iff_eq]; exact hs
  have wc : IntKind.u64.wrap c = c := IntWalk.u64_in _ (by omega); have wd : IntKind.u64.wrap d = d := IntWalk.u64_in _ (by omega); have X0 : 0 ≤ (n.natAbs : Int) * c := Int.mul_nonneg (by omega) (by omega); have X1 : (n.natAbs : Int) * c ≤ 1000000000000000000 * 1000000000000000000 := Int.mul_le_mul (by omega) (by omega) (by omega) (by omega); have Y0 : 0 ≤ (m.natAbs : Int) * d := Int.mul_nonneg (by omega) (by omega); have Y1 : (m.natAbs : Int) * d ≤ 1000000000000000000 * 1000000000000000000 := Int.mul_le_mul (by omega) (by omega) (by omega) (by omega); have TN := Lib.hid (fun v => times_any (n.natAbs : Int) c (by omega) (by omega) (by omega) (by omega) v); have TM := Lib.hid (fun v => times_any (m.natAbs : Int) d (by omega) (by omega) (by omega) (by omega) v)
  generalize (n.natAbs : Int) * c = X at *
  generalize (m.natAbs : Int) * d = Y at *
  have LXY := Lib.hid (fun v => rless_any (X / 18446744073709551616) (X % 18446744073709551616) (Y / 18446744073709551616) (Y % 18446744073709551616) (by omega) (by omega) (by omega) (by omega) v); have LYX := Lib.hid (fun v => rless_any (Y / 18446744073709551616) (Y % 18446744073709551616) (X / 18446744073709551616) (X % 18446744073709551616) (by omega) (by omega) (by omega) (by omega) v)
  simp only [W_split] at LXY LYX
  clear hs
  go_enter Tryz.func53, Tryz.ntmps53
  go_upto_region 3 with fail
  go_cut [5, 6] (fun x y v => ∃ p q : Nat, x = .pointer (some ⟨p, 0, none⟩) ∧ y = .pointer (some ⟨q, 0, none⟩) ∧ Below w.heap.size w v ∧ v.cell? ⟨w.heap.size, 0, none⟩ = some (.int .i64 n) ∧ v.cell? ⟨p, 0, none⟩ = some (.int .u64 (X / 18446744073709551616)) ∧ v.cell? ⟨p, 1, none⟩ = some (.int .u64 (X % 18446744073709551616)) ∧ v.cell? ⟨q, 0, none⟩ = some (.int .u64 (Y / 18446744073709551616)) ∧ v.cell? ⟨q, 1, none⟩ = some (.int .u64 (Y % 18446744073709551616)))
  case first =>
    refine at_world (fun v => Below w.heap.size w v ∧ v.cell? ⟨w.heap.size, 0, none⟩ = some (.int .i64 n) ∧ v.cell? ⟨w.heap.size, 1, none⟩ = some (.int .i64 d) ∧ v.cell? ⟨w.heap.size + 1, 0, none⟩ = some (.int .i64 m) ∧ v.cell? ⟨w.heap.size + 1, 1, none⟩ = some (.int .i64 c)) ⟨(((Below.refl _ _).alloc (Nat.le_refl _) _).alloc (by simp) _), (by go_simp), (by go_simp), (by go_simp), (by go_simp)⟩ (fun V hS => ?_); obtain ⟨hbb, an, ad, bn, bd⟩ := hS
    go_region_held3 (fun v => Below w.heap.size w v ∧ v.cell? ⟨w.heap.size, 0, none⟩ = some (.int .i64 n) ∧ v.cell? ⟨w.heap.size, 1, none⟩ = some (.int .i64 d) ∧ v.cell? ⟨w.heap.size + 1, 0, none⟩ = some (.int .i64 m) ∧ v.cell? ⟨w.heap.size + 1, 1, none⟩ = some (.int .i64 c))
      (first | (exact ⟨hbb.drew, an, ad, bn, bd⟩) | (with_reducible assumption) | (obtain ⟨k0, kan, kad, kbn, kbd⟩ := ‹Below w.heap.size w _ ∧ _›; exact ⟨keepB k0 hb3, keepC hb3 kan, keepC hb3 kad, keepC hb3 kbn, keepC hb3 kbd⟩) | (obtain ⟨k0, kan, kad, kbn, kbd⟩ := ‹Below w.heap.size w _ ∧ _›; exact ⟨below_al k0 _, cell_alloc kan _, cell_alloc kad _, cell_alloc kbn _, cell_alloc kbd _⟩) | (refine ⟨?_, ?_, ?_, ?_, ?_⟩ <;> repeat' (first | (with_reducible exact j0.out) | (with_reducible exact jan.out) | (with_reducible exact jad.out) | (with_reducible exact jbn.out) | (with_reducible exact jbd.out) | (with_reducible refine below_al ?_ _) | (with_reducible refine below_set ?_ ?_ _) | (with_reducible refine cell_alloc ?_ _) | (with_reducible refine cell_far ?_ ?_ _) | omega)))
      (first
        | (go_at_call 83; refine (rabs_any _ (by omega) (by omega) _).mono ?_; rintro e w' ⟨rfl, rfl⟩)
        | (go_at_call_of 82 (Value.int .u64 c); refine (TN.out _).mono ?_; rintro e w3 ⟨rfl, hb3⟩; (first | (replace fnb0 := keepF hb3 nb0 fnb0; replace fnb1 := keepF hb3 nb1 fnb1; replace nb0 := keepC hb3 nb0; replace nb1 := keepC hb3 nb1; replace fnc0 := keepF hb3 nc0 fnc0; replace fnc1 := keepF hb3 nc1 fnc1; replace nc0 := keepC hb3 nc0; replace nc1 := keepC hb3 nc1) | (obtain ⟨k0, kan, kad, kbn, kbd⟩ := ‹Below w.heap.size w _ ∧ _›; have nb0 := keepC hb3 (cell_alloc (n20 _ _ _ _) _); have nb1 := keepC hb3 (cell_alloc (n21 _ _ _ _) _); have fnb0 := keepF hb3 (cell_alloc (n20 _ _ _ _) _) (froz_alloc (n20 _ _ _ _) (n2f _ _ _ _ 0) _); have fnb1 := keepF hb3 (cell_alloc (n21 _ _ _ _) _) (froz_alloc (n21 _ _ _ _) (n2f _ _ _ _ 1) _); have nc0 := keepC hb3 (m20 _ _ _ _ _); have nc1 := keepC hb3 (m21 _ _ _ _ _); have fnc0 := keepF hb3 (m20 _ _ _ _ _) (m2f _ _ _ _ _ 0); have fnc1 := keepF hb3 (m21 _ _ _ _ _) (m2f _ _ _ _ _ 1); have hu := lt_al3 kbn (cell_alloc (n20 _ _ _ _) _) (m20 _ _ _ _ _) (by simp) (by simp); clear k0 kan kad kbn kbd) | (obtain ⟨k0, kan, kad, kbn, kbd⟩ := ‹Below w.heap.size w _ ∧ _›; have nc0 := keepC hb3 (n20 _ _ _ _); have nc1 := keepC hb3 (n21 _ _ _ _); have fnc0 := keepF hb3 (n20 _ _ _ _) (n2f _ _ _ _ 0); have fnc1 := keepF hb3 (n21 _ _ _ _) (n2f _ _ _ _ 1); have hn := lt_of_cell nb0; replace fnb0 := keepF hb3 (cell_alloc nb0 _) (froz_alloc nb0 fnb0 _); replace fnb1 := keepF hb3 (cell_alloc nb1 _) (froz_alloc nb1 fnb1 _); replace nb0 := keepC hb3 (cell_alloc nb0 _); replace nb1 := keepC hb3 (cell_alloc nb1 _); have hu2 := lt_al2 kbn (n20 _ _ _ _) (by simp); clear k0 kan kad kbn kbd) | (obtain ⟨k0, kan, kad, kbn, kbd⟩ := ‹Below w.heap.size w _ ∧ _›; have nb0 := keepC hb3 (n20 _ _ _ _); have nb1 := keepC hb3 (n21 _ _ _ _); have fnb0 := keepF hb3 (n20 _ _ _ _) (n2f _ _ _ _ 0); have fnb1 := keepF hb3 (n21 _ _ _ _) (n2f _ _ _ _ 1); have hu := lt_al2 kbn (n20 _ _ _ _) (by simp); clear k0 kan kad kbn kbd) | (replace fnb0 := keepF hb3 nb0 fnb0; replace fnb1 := keepF hb3 nb1 fnb1; replace nb0 := keepC hb3 nb0; replace nb1 := keepC hb3 nb1) | skip))
        | (go_at_call_of 82 (Value.int .u64 d); refine (TM.out _).mono ?_; rintro e w3 ⟨rfl, hb3⟩; (first | (replace fnb0 := keepF hb3 nb0 fnb0; replace fnb1 := keepF hb3 nb1 fnb1; replace nb0 := keepC hb3 nb0; replace nb1 := keepC hb3 nb1; replace fnc0 := keepF hb3 nc0 fnc0; replace fnc1 := keepF hb3 nc1 fnc1; replace nc0 := keepC hb3 nc0; replace nc1 := keepC hb3 nc1) | (obtain ⟨k0, kan, kad, kbn, kbd⟩ := ‹Below w.heap.size w _ ∧ _›; have nb0 := keepC hb3 (cell_alloc (n20 _ _ _ _) _); have nb1 := keepC hb3 (cell_alloc (n21 _ _ _ _) _); have fnb0 := keepF hb3 (cell_alloc (n20 _ _ _ _) _) (froz_alloc (n20 _ _ _ _) (n2f _ _ _ _ 0) _); have fnb1 := keepF hb3 (cell_alloc (n21 _ _ _ _) _) (froz_alloc (n21 _ _ _ _) (n2f _ _ _ _ 1) _); have nc0 := keepC hb3 (m20 _ _ _ _ _); have nc1 := keepC hb3 (m21 _ _ _ _ _); have fnc0 := keepF hb3 (m20 _ _ _ _ _) (m2f _ _ _ _ _ 0); have fnc1 := keepF hb3 (m21 _ _ _ _ _) (m2f _ _ _ _ _ 1); have hu := lt_al3 kbn (cell_alloc (n20 _ _ _ _) _) (m20 _ _ _ _ _) (by simp) (by simp); clear k0 kan kad kbn kbd) | (obtain ⟨k0, kan, kad, kbn, kbd⟩ := ‹Below w.heap.size w _ ∧ _›; have nc0 := keepC hb3 (n20 _ _ _ _); have nc1 := keepC hb3 (n21 _ _ _ _); have fnc0 := keepF hb3 (n20 _ _ _ _) (n2f _ _ _ _ 0); have fnc1 := keepF hb3 (n21 _ _ _ _) (n2f _ _ _ _ 1); have hn := lt_of_cell nb0; replace fnb0 := keepF hb3 (cell_alloc nb0 _) (froz_alloc nb0 fnb0 _); replace fnb1 := keepF hb3 (cell_alloc nb1 _) (froz_alloc nb1 fnb1 _); replace nb0 := keepC hb3 (cell_alloc nb0 _); replace nb1 := keepC hb3 (cell_alloc nb1 _); have hu2 := lt_al2 kbn (n20 _ _ _ _) (by simp); clear k0 kan kad kbn kbd) | (obtain ⟨k0, kan, kad, kbn, kbd⟩ := ‹Below w.heap.size w _ ∧ _›; have nb0 := keepC hb3 (n20 _ _ _ _); have nb1 := keepC hb3 (n21 _ _ _ _); have fnb0 := keepF hb3 (n20 _ _ _ _) (n2f _ _ _ _ 0); have fnb1 := keepF hb3 (n21 _ _ _ _) (n2f _ _ _ _ 1); have hu := lt_al2 kbn (n20 _ _ _ _) (by simp); clear k0 kan kad kbn kbd) | (replace fnb0 := keepF hb3 nb0 fnb0; replace fnb1 := keepF hb3 nb1 fnb1; replace nb0 := keepC hb3 nb0; replace nb1 := keepC hb3 nb1) | skip); obtain ⟨k0, kan, kad, kbn, kbd⟩ := ‹Below w.heap.size w _ ∧ _›; have j0 := Lib.hid (keepB k0 hb3); have jan := Lib.hid (keepC hb3 kan); have jad := Lib.hid (keepC hb3 kad); have jbn := Lib.hid (keepC hb3 kbn); have jbd := Lib.hid (keepC hb3 kbd); have hj := lt_of_cell jbn.out; (try (have hnl := lt_of_cell nb0)); (try (have hnl2 := lt_of_cell nc0)); clear k0 kan kad kbn kbd))
    all_goals
      go_wp2_with fail
      go_meet
      refine ⟨_, _, rfl, rfl, ?_, ?_, ?_, ?_, ?_, ?_⟩
      · obtain ⟨k0, _⟩ := ‹Below w.heap.size w _ ∧ _›; exact k0
      · obtain ⟨_, k1, _⟩ := ‹Below w.heap.size w _ ∧ _›; exact k1
      · go_simp
      · go_simp
      · go_simp
      · go_simp
  case rest =>
    obtain ⟨p, q, rfl, rfl, hbb, an, p0, p1, q0, q1⟩ := hcut
    by_cases hn : n < 0
    · go_wp2_with fail
      refine (LYX.out _).mono ?_; rintro e w2 ⟨rfl, hb2⟩
      go_wp2
      go_ret
      exact ⟨by first | rfl | rw [if_pos hn] | simp [hn], keepB hbb hb2⟩
    · go_wp2_with fail
      refine (LXY.out _).mono ?_; rintro e w2 ⟨rfl, hb2⟩
      go_wp2
      go_ret
      exact ⟨by first | rfl | rw [if_neg hn] | simp [hn], keepB hbb hb2⟩

theorem Less_apart (n d m c : Int) (w : World) (hs : decide (n < 0) ≠ decide (m < 0)) :
    Calls Tryz.prog 53 #[.agg #[.int .i64 n, .int .i64 d], .agg #[.int .i64 m, .int .i64 c]] w fun e w' =>
      e = .returned (.bool (decide (n < 0))) ∧ Below w.heap.size w w' := by
  have hb : (decide (n < 0) == decide (m < 0)) = false := by rw [beq_eq_false_iff_ne]; exact hs
  clear hs
  go_enter Tryz.func53, Tryz.ntmps53
  go_wp2
  go_ret
  exact ⟨rfl, (((Below.refl _ _).alloc (Nat.le_refl _) _).alloc (by simp) _)⟩

theorem Less_any (n d m c : Int) (h : Rp.Ok n d) (k : Rp.Ok m c) (w : World) :
    Calls Tryz.prog 53 #[.agg #[.int .i64 n, .int .i64 d], .agg #[.int .i64 m, .int .i64 c]] w fun e w' =>
      e = .returned (.bool (decide (Rp.q n d < Rp.q m c))) ∧ Below w.heap.size w w' := by
  have hl : (Rp.q n d < Rp.q m c) ↔ n * c < m * d := by rw [Rat.lt_iff, Rp.q_num h, Rp.q_num k, Rp.q_denI h, Rp.q_denI k]
  obtain ⟨h1, h2, h3, h4, _⟩ := h; obtain ⟨k1, k2, k3, k4, _⟩ := k
  by_cases hs : decide (n < 0) = decide (m < 0)
  · have c1 := Less_same n d m c w h3 h4 h1 h2 k3 k4 k1 k2 hs
    have e : (if n < 0 then decide ((m.natAbs : Int) * d < n.natAbs * c) else decide ((n.natAbs : Int) * c < m.natAbs * d)) = decide (Rp.q n d < Rp.q m c) := by
      by_cases hn : n < 0
      · have hm : m < 0 := by rw [decide_eq_true hn] at hs; exact of_decide_eq_true hs.symm
        rw [if_pos hn, decide_eq_decide, hl, show (m.natAbs : Int) = -m by omega, show (n.natAbs : Int) = -n by omega, Int.neg_mul, Int.neg_mul]
        omega
      · have hm : ¬ m < 0 := by rw [decide_eq_false hn] at hs; exact of_decide_eq_false hs.symm
        rw [if_neg hn, decide_eq_decide, hl, show (m.natAbs : Int) = m by omega, show (n.natAbs : Int) = n by omega]
    rw [e] at c1; exact c1
  · have c1 := Less_apart n d m c w hs
    have e : decide (n < 0) = decide (Rp.q n d < Rp.q m c) := by
      rw [decide_eq_decide, hl]
      by_cases hn : n < 0
      · have hm : ¬ m < 0 := fun hm => hs (by rw [decide_eq_true hn, decide_eq_true hm])
        have := Int.mul_neg_of_neg_of_pos hn (show 0 < c by omega); have := Int.mul_nonneg (show 0 ≤ m by omega) (show 0 ≤ d by omega)
        omega
      · have hm : m < 0 := by
          refine Classical.byContradiction fun hm => hs ?_
          rw [decide_eq_false hn, decide_eq_false hm]
        have := Int.mul_neg_of_neg_of_pos hm (show 0 < d by omega); have := Int.mul_nonneg (show 0 ≤ n by omega) (show 0 ≤ c by omega)
        omega
    rw [e] at c1; exact c1
end Go.Proofs.YtniagnldiegamaaGreat

