/- The reference's Add and Sub, for all ratios, valid or not. -/
import Derived.Test.YtpiolhjiflohgaaRadd
namespace Go.Proofs.Ytpiolhjiflohgaa
open Go.RowKit

theorem sg_times (n B : Int) : sg (decide (n < 0)) ((n.natAbs : Int) * B) = n * B := by
  unfold sg
  by_cases h : n < 0
  · rw [decide_eq_true h, if_pos rfl, show (n.natAbs : Int) = -n by omega]; grind
  · rw [decide_eq_false h, show (n.natAbs : Int) = n by omega]; simp

theorem rAdd_valid (n d m c : Int) (h : Rp.Ok n d) (k : Rp.Ok m c) (w : World)
    (CB : Hid (∀ w, Calls Try.prog 63 #[.agg #[.int .i64 n, .int .i64 d], .agg #[.int .i64 m, .int .i64 c]] w fun e w' => e = .returned (.int .i64 0) ∧ Below w.heap.size w w')) :
    Calls Try.prog 39 #[.agg #[.int .i64 n, .int .i64 d], .agg #[.int .i64 m, .int .i64 c]] w fun e w' => e = .returned (.tuple #[.agg #[.int .i64 (Rp.add n d m c).1, .int .i64 (Rp.add n d m c).2.1], .int .i64 (Rp.add n d m c).2.2]) ∧ Below w.heap.size w w' := by
  obtain ⟨p1, p2, p3, p4, p5, p6⟩ := Rp.add_parts h k (Nat.gcd d.natAbs c.natAbs) rfl _ rfl _ rfl
  obtain ⟨h1, h2, h3, h4, h5⟩ := h
  obtain ⟨k1, k2, k3, k4, k5⟩ := k
  have hgd : (Nat.gcd d.natAbs c.natAbs : Int) ≤ d := by
    have := Nat.gcd_le_left c.natAbs (m := d.natAbs) (by omega)
    omega
  have ec : (c.natAbs : Int) = c := by omega
  have ed : (d.natAbs : Int) = d := by omega
  generalize hG : Nat.gcd d.natAbs c.natAbs = G at *
  have A0 : 0 ≤ d / (G : Int) := Int.ediv_nonneg (by omega) (by omega)
  have A1 : d / (G : Int) ≤ d := Int.ediv_le_self _ (by omega)
  have B0 : 0 ≤ c / (G : Int) := Int.ediv_nonneg (by omega) (by omega)
  have B1 : c / (G : Int) ≤ c := Int.ediv_le_self _ (by omega)
  have x0 : 0 ≤ (n.natAbs : Int) * (c / (G : Int)) := Int.mul_nonneg (by omega) B0
  have x1 : (n.natAbs : Int) * (c / (G : Int)) ≤ 1000000000000000000 * 1000000000000000000 := Int.mul_le_mul (by omega) (by omega) B0 (by omega)
  have y0 : 0 ≤ (m.natAbs : Int) * (d / (G : Int)) := Int.mul_nonneg (by omega) A0
  have y1 : (m.natAbs : Int) * (d / (G : Int)) ≤ 1000000000000000000 * 1000000000000000000 := Int.mul_le_mul (by omega) (by omega) A0 (by omega)
  have hs := sg_plus (decide (n < 0)) (decide (m < 0)) ((n.natAbs : Int) * (c / (G : Int))) ((m.natAbs : Int) * (d / (G : Int)))
  rw [sg_times, sg_times] at hs
  have hbd := plM_bd (decide (n < 0)) (decide (m < 0)) _ _ x0 y0
  obtain ⟨SG, hSG⟩ : ∃ s, s = plS (decide (n < 0)) ((n.natAbs : Int) * (c / (G : Int))) (decide (m < 0)) ((m.natAbs : Int) * (d / (G : Int))) := ⟨_, rfl⟩
  obtain ⟨MM, hMM⟩ : ∃ s, s = plM (decide (n < 0)) ((n.natAbs : Int) * (c / (G : Int))) (decide (m < 0)) ((m.natAbs : Int) * (d / (G : Int))) := ⟨_, rfl⟩
  rw [← hSG, ← hMM] at hs
  rw [← hMM] at hbd
  obtain ⟨M0, M1⟩ := hbd
  generalize hN : n * (c / (G : Int)) + m * (d / (G : Int)) = N at *
  have hMN : MM = (N.natAbs : Int) := by rw [← hs]; unfold sg; split <;> omega
  generalize hK : Nat.gcd G (N.natAbs % G) = K at *
  have hA : MM % (G : Int) = ((N.natAbs % G : Nat) : Int) := by rw [hMN]; simp
  have lA : N.natAbs % G < 18446744073709551616 := Nat.lt_of_lt_of_le (Nat.mod_lt _ (by omega)) (by omega)
  have C0 : 0 ≤ c / (K : Int) := Int.ediv_nonneg (by omega) (by omega)
  have C1 : c / (K : Int) ≤ c := Int.ediv_le_self _ (by omega)
  have eL : sg SG (MM / (K : Int)) = N / (K : Int) := by
    rw [← hs]
    have hd : (K : Int) ∣ MM := by rw [hMN]; exact Int.dvd_natAbs.2 p3
    unfold sg
    split
    · exact (Int.neg_ediv_of_dvd hd).symm
    · rfl
  refine rAdd_core n d m c (c / (G : Int)) (d / (G : Int)) _ _ MM (c / (K : Int)) _ _ _ G K (N.natAbs % G) SG h3 h4 h1 h2 k3 k4 k1 k2 hG (by omega) (by omega) (by rw [ec]) (by rw [ed]) B0 (by omega) A0 (by omega) rfl rfl
    (Lib.hid hSG) (Lib.hid hMM) M0 (by omega) hA lA (by rw [Nat.gcd_comm]; exact hK) (by omega) (by omega) (by rw [ec]) C0 (by omega) (Lib.hid ?_) (Lib.hid ?_) w CB
  · intro hz
    have hn : N = 0 := by omega
    have hr : Rp.q n d + Rp.q m c = 0 := by rw [← Rat.num_eq_zero, p1, hn]; simp
    unfold Rp.add
    rw [hr]
    exact ⟨rfl, rfl, rfl⟩
  · intro _
    unfold Rp.add Rp.ofQ
    rw [p1, p2, eL]
    exact ⟨rfl, rfl, rfl⟩

set_option maxHeartbeats 1000000 in
theorem rAdd_any (n d m c : Int) (w : World) (n0 : -9223372036854775808 ≤ n) (n1 : n ≤ 9223372036854775807) (d0 : -9223372036854775808 ≤ d) (d1 : d ≤ 9223372036854775807)
    (m0 : -9223372036854775808 ≤ m) (m1 : m ≤ 9223372036854775807) (c0 : -9223372036854775808 ≤ c) (c1 : c ≤ 9223372036854775807) :
    Calls Try.prog 39 #[.agg #[.int .i64 n, .int .i64 d], .agg #[.int .i64 m, .int .i64 c]] w fun e w' => e = .returned (.tuple #[.agg #[.int .i64 (Rp.addS n d m c).1, .int .i64 (Rp.addS n d m c).2.1], .int .i64 (Rp.addS n d m c).2.2]) ∧ Below w.heap.size w w' := by
  have cb := fun w => rBoth_any n d m c w n0 n1 d0 d1 m0 m1 c0 c1
  rcases both_cases n d m c with ⟨h, hx, hy⟩ | h
  · rw [h] at cb
    have e : Rp.addS n d m c = Rp.add n d m c := by unfold Rp.addS; rw [if_pos h]
    rw [e]
    exact rAdd_valid n d m c hx hy w (Lib.hid cb)
  · have e : Rp.addS n d m c = (0, 0, 8) := by unfold Rp.addS; rw [if_neg (by omega)]
    rw [e]
    rw [h] at cb
    have CB := Lib.hid cb
    clear cb h e
    go_enter Try.func39, Try.ntmps39
    go_wp2_with fail
    refine (CB.out _).mono ?_
    rintro e w1 ⟨rfl, hb1⟩
    have an : w1.cell? ⟨w.heap.size, 0, none⟩ = some (.int .i64 n) := keepC hb1 (by go_simp)
    have ad : w1.cell? ⟨w.heap.size, 1, none⟩ = some (.int .i64 d) := keepC hb1 (by go_simp)
    have bn : w1.cell? ⟨w.heap.size + 1, 0, none⟩ = some (.int .i64 m) := keepC hb1 (by go_simp)
    have bd : w1.cell? ⟨w.heap.size + 1, 1, none⟩ = some (.int .i64 c) := keepC hb1 (by go_simp)
    have z0 : w1.cell? ⟨w.heap.size + 1 + 1, 0, none⟩ = some (.int .i64 0) := keepC hb1 (by go_simp)
    have fz0 : w1.frozen? ⟨w.heap.size + 1 + 1, 0, none⟩ = false := keepF hb1 (v := .int .i64 0) (by go_simp) (by go_simp)
    have z1 : w1.cell? ⟨w.heap.size + 1 + 1, 1, none⟩ = some (.int .i64 0) := keepC hb1 (by go_simp)
    have fz1 : w1.frozen? ⟨w.heap.size + 1 + 1, 1, none⟩ = false := keepF hb1 (v := .int .i64 0) (by go_simp) (by go_simp)
    have hbb : Below w.heap.size w w1 := keepB ((((Below.refl _ _).alloc (Nat.le_refl _) _).alloc (by simp) _).alloc (by simp; omega) _) hb1
    clear hb1
    go_wp2_with fail
    refine (CB.out _).mono ?_
    rintro e w2 ⟨rfl, hb2⟩
    replace an := keepC hb2 an
    replace ad := keepC hb2 ad
    replace bn := keepC hb2 bn
    replace bd := keepC hb2 bd
    replace fz0 := keepF hb2 z0 fz0
    replace z0 := keepC hb2 z0
    replace fz1 := keepF hb2 z1 fz1
    replace z1 := keepC hb2 z1
    replace hbb := keepB hbb hb2
    clear hb2
    have l2 := lt_of_cell z0
    go_wp2
    exact bodyPost_ret (v := .tuple #[.agg #[.int .i64 0, .int .i64 0], .int .i64 8]) (by simp [results, Try.results39, go_sem, z0, z1]) rfl ⟨rfl, below_set (below_set hbb (by omega) _) (by omega) _⟩

end Go.Proofs.Ytpiolhjiflohgaa
