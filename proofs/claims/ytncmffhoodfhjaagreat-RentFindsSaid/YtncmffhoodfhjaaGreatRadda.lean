/- The reference's Add and Sub, for all ratios, valid or not. -/
import Derived.Test.YtncmffhoodfhjaaGreatRadd
namespace Go.Proofs.YtncmffhoodfhjaaGreat
open Go.RowKit

theorem sg_times (n B : Int) : sg (decide (n < 0)) ((n.natAbs : Int) * B) = n * B := by
  unfold sg
  by_cases h : n < 0
  · rw [decide_eq_true h, if_pos rfl, show (n.natAbs : Int) = -n by omega]; grind
  · rw [decide_eq_false h, show (n.natAbs : Int) = n by omega]; simp

theorem rAdd_valid (n d m c : Int) (h : Rp.Ok n d) (k : Rp.Ok m c) (w : World)
    (CB : Hid (∀ w, Calls Tryz.prog 60 #[.agg #[.int .i64 n, .int .i64 d], .agg #[.int .i64 m, .int .i64 c]] w fun e w' => e = .returned (.int .i64 0) ∧ Below w.heap.size w w')) :
    Calls Tryz.prog 61 #[.agg #[.int .i64 n, .int .i64 d], .agg #[.int .i64 m, .int .i64 c]] w fun e w' => e = .returned (.tuple #[.agg #[.int .i64 (Rp.add n d m c).1, .int .i64 (Rp.add n d m c).2.1], .int .i64 (Rp.add n d m c).2.2]) ∧ Below w.heap.size w w' := by
  obtain ⟨p1, p2, p3, p4, p5, p6⟩ := Rp.add_parts h k (Nat.gcd d.natAbs c.natAbs) rfl _ rfl _ rfl
  obtain ⟨h1, h2, h3, h4, h5⟩ := h
  obtain ⟨k1, k2, k3, k4, k5⟩ := k
  have hgd : (Nat.gcd d.natAbs c.natAbs : Int) ≤ d := by
    have := Nat.gcd_le_left c.natAbs (m := d.natAbs) (by omega)
    omega
  have ec : (c.natAbs : Int) = c := by omega
  have ed : (d.natAbs : Int) = d := by omega
  generalize hG : Nat.gcd d.natAbs c.natAbs = G at *
  have A0 : 0 ≤ d / (G : Int) := Int.ediv_nonneg (by omega) (by omega)
  have A1 : d / (G : Int) ≤ d := Int.ediv_le_self _ (by omega)
  have B0 : 0 ≤ c / (G : Int) := Int.ediv_nonneg (by omega) (by omega)
  have B1 : c / (G : Int) ≤ c := Int.ediv_le_self _ (by omega)
  have x0 : 0 ≤ (n.natAbs : Int) * (c / (G : Int)) := Int.mul_nonneg (by omega) B0
  have x1 : (n.natAbs : Int) * (c / (G : Int)) ≤ 1000000000000000000 * 1000000000000000000 := Int.mul_le_mul (by omega) (by omega) B0 (by omega)
  have y0 : 0 ≤ (m.natAbs : Int) * (d / (G : Int)) := Int.mul_nonneg (by omega) A0
  have y1 : (m.natAbs : Int) * (d / (G : Int)) ≤ 1000000000000000000 * 1000000000000000000 := Int.mul_le_mul (by omega) (by omega) A0 (by omega)
  have hs := sg_plus (decide (n < 0)) (decide (m < 0)) ((n.natAbs : Int) * (c / (G : Int))) ((m.natAbs : Int) * (d / (G : Int)))
  rw [sg_times, sg_times] at hs
  have hbd := plM_bd (decide (n < 0)) (decide (m < 0)) _ _ x0 y0
  obtain ⟨SG, hSG⟩ : ∃ s, s = plS (decide (n < 0)) ((n.natAbs : Int) * (c / (G : Int))) (decide (m < 0)) ((m.natAbs : Int) * (d / (G : Int))) := ⟨_, rfl⟩
  obtain ⟨MM, hMM⟩ : ∃ s, s = plM (decide (n < 0)) ((n.natAbs : Int) * (c / (G : Int))) (decide (m < 0)) ((m.natAbs : Int) * (d / (G : Int))) := ⟨_, rfl⟩
  rw [← hSG, ← hMM] at hs
  rw [← hMM] at hbd
  obtain ⟨M0, M1⟩ := hbd
  generalize hN : n * (c / (G : Int)) + m * (d / (G : Int)) = N at *
  have hMN : MM = (N.natAbs : Int) := by rw [← hs]; unfold sg; split <;> omega
  generalize hK : Nat.gcd G (N.natAbs % G) = K at *
  have hA : MM % (G : Int) = ((N.natAbs % G : Nat) : Int) := by rw [hMN]; simp
  have lA : N.natAbs % G < 18446744073709551616 := Nat.lt_of_lt_of_le (Nat.mod_lt _ (by omega)) (by omega)
  have C0 : 0 ≤ c / (K : Int) := Int.ediv_nonneg (by omega) (by omega)
  have C1 : c / (K : Int) ≤ c := Int.ediv_le_self _ (by omega)
  have eL : sg SG (MM / (K : Int)) = N / (K : Int) := by
    rw [← hs]
    have hd : (K : Int) ∣ MM := by rw [hMN]; exact Int.dvd_natAbs.2 p3
    unfold sg
    split
    · exact (Int.neg_ediv_of_dvd hd).symm
    · rfl
  refine rAdd_core n d m c (c / (G : Int)) (d / (G : Int)) _ _ MM (c / (K : Int)) _ _ _ G K (N.natAbs % G) SG h3 h4 h1 h2 k3 k4 k1 k2 hG (by omega) (by omega) (by rw [ec]) (by rw [ed]) B0 (by omega) A0 (by omega) rfl rfl
    (Lib.hid hSG) (Lib.hid hMM) M0 (by omega) hA lA (by rw [Nat.gcd_comm]; exact hK) (by omega) (by omega) (by rw [ec]) C0 (by omega) (Lib.hid ?_) (Lib.hid ?_) w CB
  · intro hz
    have hn : N = 0 := by omega
    have hr : Rp.q n d + Rp.q m c = 0 := by rw [← Rat.num_eq_zero, p1, hn]; simp
    unfold Rp.add
    rw [hr]
    exact ⟨rfl, rfl, rfl⟩
  · intro _
    unfold Rp.add Rp.ofQ
    rw [p1, p2, eL]
    exact ⟨rfl, rfl, rfl⟩

set_option maxHeartbeats 1000000 in
theorem rAdd_any (n d m c : Int) (w : World) (n0 : -9223372036854775808 ≤ n) (n1 : n ≤ 9223372036854775807) (d0 : -9223372036854775808 ≤ d) (d1 : d ≤ 9223372036854775807)
    (m0 : -9223372036854775808 ≤ m) (m1 : m ≤ 9223372036854775807) (c0 : -9223372036854775808 ≤ c) (c1 : c ≤ 9223372036854775807) :
    Calls Tryz.prog 61 #[.agg #[.int .i64 n, .int .i64 d], .agg #[.int .i64 m, .int .i64 c]] w fun e w' => e = .returned (.tuple #[.agg #[.int .i64 (Rp.addS n d m c).1, .int .i64 (Rp.addS n d m c).2.1], .int .i64 (Rp.addS n d m c).2.2]) ∧ Below w.heap.size w w' := by
  have cb := fun w => rBoth_any n d m c w n0 n1 d0 d1 m0 m1 c0 c1
  rcases both_cases n d m c with ⟨h, hx, hy⟩ | h
  · rw [h] at cb
    have e : Rp.addS n d m c = Rp.add n d m c := by unfold Rp.addS; rw [if_pos h]
    rw [e]
    exact rAdd_valid n d m c hx hy w (Lib.hid cb)
  · have e : Rp.addS n d m c = (0, 0, 8) := by unfold Rp.addS; rw [if_neg (by omega)]
    rw [e]
    rw [h] at cb
    have CB := Lib.hid cb
    clear cb h e
    go_enter Tryz.func61, Tryz.ntmps61
    go_wp2_with fail
    refine (CB.out _).mono ?_
    rintro e w1 ⟨rfl, hb1⟩
    have an : w1.cell? ⟨w.heap.size, 0, none⟩ = some (.int .i64 n) := keepC hb1 (by go_simp)
    have ad : w1.cell? ⟨w.heap.size, 1, none⟩ = some (.int .i64 d) := keepC hb1 (by go_simp)
    have bn : w1.cell? ⟨w.heap.size + 1, 0, none⟩ = some (.int .i64 m) := keepC hb1 (by go_simp)
    have bd : w1.cell? ⟨w.heap.size + 1, 1, none⟩ = some (.int .i64 c) := keepC hb1 (by go_simp)
    have z0 : w1.cell? ⟨w.heap.size + 1 + 1, 0, none⟩ = some (.int .i64 0) := keepC hb1 (by go_simp)
    have fz0 : w1.frozen? ⟨w.heap.size + 1 + 1, 0, none⟩ = false := keepF hb1 (v := .int .i64 0) (by go_simp) (by go_simp)
    have z1 : w1.cell? ⟨w.heap.size + 1 + 1, 1, none⟩ = some (.int .i64 0) := keepC hb1 (by go_simp)
    have fz1 : w1.frozen? ⟨w.heap.size + 1 + 1, 1, none⟩ = false := keepF hb1 (v := .int .i64 0) (by go_simp) (by go_simp)
    have hbb : Below w.heap.size w w1 := keepB ((((Below.refl _ _).alloc (Nat.le_refl _) _).alloc (by simp) _).alloc (by simp; omega) _) hb1
    clear hb1
    go_wp2_with fail
    refine (CB.out _).mono ?_
    rintro e w2 ⟨rfl, hb2⟩
    replace an := keepC hb2 an
    replace ad := keepC hb2 ad
    replace bn := keepC hb2 bn
    replace bd := keepC hb2 bd
    replace fz0 := keepF hb2 z0 fz0
    replace z0 := keepC hb2 z0
    replace fz1 := keepF hb2 z1 fz1
    replace z1 := keepC hb2 z1
    replace hbb := keepB hbb hb2
    clear hb2
    have l2 := lt_of_cell z0
    go_wp2
    exact bodyPost_ret (v := .tuple #[.agg #[.int .i64 0, .int .i64 0], .int .i64 8]) (by simp [results, Tryz.results61, go_sem, z0, z1]) rfl ⟨rfl, below_set (below_set hbb (by omega) _) (by omega) _⟩

set_option maxHeartbeats 2000000 in
theorem rSub_any (n d m c : Int) (w : World) (n0 : -9223372036854775808 ≤ n) (n1 : n ≤ 9223372036854775807) (d0 : -9223372036854775808 ≤ d) (d1 : d ≤ 9223372036854775807)
    (m0 : -9223372036854775808 ≤ m) (m1 : m ≤ 9223372036854775807) (c0 : -9223372036854775808 ≤ c) (c1 : c ≤ 9223372036854775807) :
    Calls Tryz.prog 36 #[.agg #[.int .i64 n, .int .i64 d], .agg #[.int .i64 m, .int .i64 c]] w fun e w' => e = .returned (.tuple #[.agg #[.int .i64 (Rp.subS n d m c).1, .int .i64 (Rp.subS n d m c).2.1], .int .i64 (Rp.subS n d m c).2.2]) ∧ Below w.heap.size w w' := by
  have cb := fun w => rBoth_any n d m c w n0 n1 d0 d1 m0 m1 c0 c1
  rcases both_cases n d m c with ⟨h, hx, hy⟩ | h
  · rw [h] at cb
    have e : Rp.subS n d m c = Rp.add n d (-m) c := by unfold Rp.subS Rp.add; rw [if_pos h, q_neg, Rat.sub_eq_add_neg]
    rw [e]
    have hx' := hx
    have hy' := hy
    obtain ⟨h1, h2, h3, h4, h5⟩ := hx'
    obtain ⟨k1, k2, k3, k4, k5⟩ := hy'
    have ng := Lib.hid (fun w => Neg_any m c w k3 k4)
    have ad0 := fun w => rAdd_any n d (-m) c w n0 n1 d0 d1 (by omega) (by omega) c0 c1
    have e2 : Rp.addS n d (-m) c = Rp.add n d (-m) c := by
      unfold Rp.addS
      rw [if_pos]
      unfold Rp.both Rp.chk
      rw [if_pos hx, if_pos (Ok_neg hy)]
    rw [e2] at ad0
    generalize Rp.add n d (-m) c = R at *
    obtain ⟨R1, R2, R3⟩ := R
    have AD := Lib.hid ad0
    have CB := Lib.hid cb
    dsimp only at AD ⊢
    clear ad0 cb h e e2 hx hy h5 k5
    go_enter Tryz.func36, Tryz.ntmps36
    go_wp2_with fail
    refine (CB.out _).mono ?_
    rintro e w1 ⟨rfl, hb1⟩
    have an : w1.cell? ⟨w.heap.size, 0, none⟩ = some (.int .i64 n) := keepC hb1 (by go_simp)
    have ad : w1.cell? ⟨w.heap.size, 1, none⟩ = some (.int .i64 d) := keepC hb1 (by go_simp)
    have bn : w1.cell? ⟨w.heap.size + 1, 0, none⟩ = some (.int .i64 m) := keepC hb1 (by go_simp)
    have bd : w1.cell? ⟨w.heap.size + 1, 1, none⟩ = some (.int .i64 c) := keepC hb1 (by go_simp)
    have z0 : w1.cell? ⟨w.heap.size + 1 + 1, 0, none⟩ = some (.int .i64 0) := keepC hb1 (by go_simp)
    have fz0 : w1.frozen? ⟨w.heap.size + 1 + 1, 0, none⟩ = false := keepF hb1 (v := .int .i64 0) (by go_simp) (by go_simp)
    have z1 : w1.cell? ⟨w.heap.size + 1 + 1, 1, none⟩ = some (.int .i64 0) := keepC hb1 (by go_simp)
    have fz1 : w1.frozen? ⟨w.heap.size + 1 + 1, 1, none⟩ = false := keepF hb1 (v := .int .i64 0) (by go_simp) (by go_simp)
    have hbb : Below w.heap.size w w1 := keepB ((((Below.refl _ _).alloc (Nat.le_refl _) _).alloc (by simp) _).alloc (by simp; omega) _) hb1
    clear hb1 CB
    go_wp2_with fail
    refine at_world (fun v => Below w.heap.size w v ∧ v.cell? ⟨w.heap.size, 0, none⟩ = some (.int .i64 n) ∧ v.cell? ⟨w.heap.size, 1, none⟩ = some (.int .i64 d) ∧ v.cell? ⟨w.heap.size + 1, 0, none⟩ = some (.int .i64 m) ∧ v.cell? ⟨w.heap.size + 1, 1, none⟩ = some (.int .i64 c) ∧ v.cell? ⟨w.heap.size + 1 + 1, 0, none⟩ = some (.int .i64 0) ∧ v.cell? ⟨w.heap.size + 1 + 1, 1, none⟩ = some (.int .i64 0) ∧ v.frozen? ⟨w.heap.size + 1 + 1, 0, none⟩ = false ∧ v.frozen? ⟨w.heap.size + 1 + 1, 1, none⟩ = false) ⟨hbb, an, ad, bn, bd, z0, z1, fz0, fz1⟩ (fun V hS => ?_)
    obtain ⟨hbb, an, ad, bn, bd, z0, z1, fz0, fz1⟩ := hS
    have hsz := lt_of_cell z0
    go_region_held3 (fun v => Below w.heap.size w v ∧ v.cell? ⟨w.heap.size, 0, none⟩ = some (.int .i64 n) ∧ v.cell? ⟨w.heap.size, 1, none⟩ = some (.int .i64 d) ∧ v.cell? ⟨w.heap.size + 1, 0, none⟩ = some (.int .i64 m) ∧ v.cell? ⟨w.heap.size + 1, 1, none⟩ = some (.int .i64 c) ∧ v.cell? ⟨w.heap.size + 1 + 1, 0, none⟩ = some (vat v (w.heap.size + 1 + 1) 0) ∧ v.cell? ⟨w.heap.size + 1 + 1, 1, none⟩ = some (vat v (w.heap.size + 1 + 1) 1) ∧ v.frozen? ⟨w.heap.size + 1 + 1, 0, none⟩ = false ∧ v.frozen? ⟨w.heap.size + 1 + 1, 1, none⟩ = false)
      (first | (exact ⟨hbb.drew, an, ad, bn, bd, vat_of (z0), vat_of (z1), fz0, fz1⟩) | (with_reducible assumption) | (obtain ⟨k0, kan, kad, kbn, kbd, kz0, kz1, kfz0, kfz1⟩ := ‹Below w.heap.size w _ ∧ _›; exact ⟨keepB k0 hb3, keepC hb3 kan, keepC hb3 kad, keepC hb3 kbn, keepC hb3 kbd, vat_of (keepC hb3 kz0), vat_of (keepC hb3 kz1), keepF hb3 kz0 kfz0, keepF hb3 kz1 kfz1⟩) | (obtain ⟨k0, kan, kad, kbn, kbd, kz0, kz1, kfz0, kfz1⟩ := ‹Below w.heap.size w _ ∧ _›; exact ⟨below_set (below_set (k0) (by omega) _) (by omega) _, cell_far (cell_far (kan) (by omega) _) (by omega) _, cell_far (cell_far (kad) (by omega) _) (by omega) _, cell_far (cell_far (kbn) (by omega) _) (by omega) _, cell_far (cell_far (kbd) (by omega) _) (by omega) _, vat_set (vat_set (kz0) _ _) _ _, vat_set (vat_set (kz1) _ _) _ _, froz_set (froz_set (kfz0) _ _) _ _, froz_set (froz_set (kfz1) _ _) _ _⟩))
      (first
        | (go_at_call 62; refine (ng.out _).mono ?_; rintro e w3 ⟨rfl, hb3⟩)
        | (go_at_call 61; refine (AD.out _).mono ?_; rintro e w3 ⟨rfl, hb3⟩))
    go_wp2
    obtain ⟨k0', _, _, _, _, k1', k2', _, _⟩ := ‹Below w.heap.size w _ ∧ _›
    have r0 := res_far (by simp) k1'
    have r1 := res_last k2'
    exact bodyPost_ret (v := .tuple #[.agg #[.int .i64 R1, .int .i64 R2], .int .i64 R3]) (by simp [results, Tryz.results36, go_sem, r0, r1]) rfl ⟨rfl, k0'⟩
  · have e : Rp.subS n d m c = (0, 0, 8) := by unfold Rp.subS; rw [if_neg (by omega)]
    rw [e]
    rw [h] at cb
    have CB := Lib.hid cb
    clear cb h e
    go_enter Tryz.func36, Tryz.ntmps36
    go_wp2_with fail
    refine (CB.out _).mono ?_
    rintro e w1 ⟨rfl, hb1⟩
    have an : w1.cell? ⟨w.heap.size, 0, none⟩ = some (.int .i64 n) := keepC hb1 (by go_simp)
    have ad : w1.cell? ⟨w.heap.size, 1, none⟩ = some (.int .i64 d) := keepC hb1 (by go_simp)
    have bn : w1.cell? ⟨w.heap.size + 1, 0, none⟩ = some (.int .i64 m) := keepC hb1 (by go_simp)
    have bd : w1.cell? ⟨w.heap.size + 1, 1, none⟩ = some (.int .i64 c) := keepC hb1 (by go_simp)
    have z0 : w1.cell? ⟨w.heap.size + 1 + 1, 0, none⟩ = some (.int .i64 0) := keepC hb1 (by go_simp)
    have fz0 : w1.frozen? ⟨w.heap.size + 1 + 1, 0, none⟩ = false := keepF hb1 (v := .int .i64 0) (by go_simp) (by go_simp)
    have z1 : w1.cell? ⟨w.heap.size + 1 + 1, 1, none⟩ = some (.int .i64 0) := keepC hb1 (by go_simp)
    have fz1 : w1.frozen? ⟨w.heap.size + 1 + 1, 1, none⟩ = false := keepF hb1 (v := .int .i64 0) (by go_simp) (by go_simp)
    have hbb : Below w.heap.size w w1 := keepB ((((Below.refl _ _).alloc (Nat.le_refl _) _).alloc (by simp) _).alloc (by simp; omega) _) hb1
    clear hb1
    go_wp2_with fail
    refine (CB.out _).mono ?_
    rintro e w2 ⟨rfl, hb2⟩
    replace an := keepC hb2 an
    replace ad := keepC hb2 ad
    replace bn := keepC hb2 bn
    replace bd := keepC hb2 bd
    replace fz0 := keepF hb2 z0 fz0
    replace z0 := keepC hb2 z0
    replace fz1 := keepF hb2 z1 fz1
    replace z1 := keepC hb2 z1
    replace hbb := keepB hbb hb2
    clear hb2
    have l2 := lt_of_cell z0
    go_wp2
    exact bodyPost_ret (v := .tuple #[.agg #[.int .i64 0, .int .i64 0], .int .i64 8]) (by simp [results, Tryz.results36, go_sem, z0, z1]) rfl ⟨rfl, below_set (below_set hbb (by omega) _) (by omega) _⟩
end Go.Proofs.YtncmffhoodfhjaaGreat
