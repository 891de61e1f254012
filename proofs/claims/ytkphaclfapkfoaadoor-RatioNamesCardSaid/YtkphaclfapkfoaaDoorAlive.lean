/- The law's helpers: is, refused, valid, alive. -/
import Derived.Test.YtkphaclfapkfoaaDoorParse
import Derived.Test.YtkphaclfapkfoaaDoorProd
import Derived.Test.YtkphaclfapkfoaaDoorMake
import Derived.Test.YtkphaclfapkfoaaDoorFloor
import Derived.Test.YtkphaclfapkfoaaDoorRef
namespace Go.Proofs.YtkphaclfapkfoaaDoor
open Go.RowKit

theorem is_true (n d : Int) (w : World) :
    Calls Tryd.prog 9 #[.agg #[.int .i64 n, .int .i64 d], .int .i64 0, .int .i64 n, .int .i64 d] w fun e w' => e = .returned (.bool true) ∧ Below w.heap.size w w' := by
  go_enter Tryd.func9, Tryd.ntmps9
  go_wp2
  go_ret
  exact ⟨rfl, (Below.refl _ _).alloc (Nat.le_refl _) _⟩

theorem refused_true (s : ByteArray) (hs : s.size < 4294967281) (hp : Rp.parseS s.data.toList = (0, 0, 12)) (w : World) (E0 : Env w) :
    Calls Tryd.prog 17 #[.string s] w fun e w' => e = .returned (.bool true) ∧ Below w.heap.size w w' := by
  have c := fun w => Parse_any s w hs
  rw [hp] at c
  have C := Lib.hid c
  have E := Lib.hid E0
  clear c hp hs E0
  go_enter Tryd.func17, Tryd.ntmps17
  go_wp2_with fail
  refine (C.out _ E.out).mono ?_
  rintro e w1 ⟨rfl, hb⟩
  go_wp2
  go_ret
  exact ⟨rfl, below_al hb _⟩

def Rp.vld (n d m c p q : Int) : Bool := decide (Rp.Ok n d ∧ Rp.Ok m c ∧ Rp.Ok p q)
set_option maxHeartbeats 1000000 in
theorem valid_any (n d m c p q : Int) (w : World) (n0 : -9223372036854775808 ≤ n) (n1 : n ≤ 9223372036854775807) (d0 : -9223372036854775808 ≤ d) (d1 : d ≤ 9223372036854775807) (m0 : -9223372036854775808 ≤ m) (m1 : m ≤ 9223372036854775807) (c0 : -9223372036854775808 ≤ c) (c1 : c ≤ 9223372036854775807) (p0 : -9223372036854775808 ≤ p) (p1 : p ≤ 9223372036854775807) (q0 : -9223372036854775808 ≤ q) (q1 : q ≤ 9223372036854775807) :
    Calls Tryd.prog 23 #[.agg #[.int .i64 n, .int .i64 d], .agg #[.int .i64 m, .int .i64 c], .agg #[.int .i64 p, .int .i64 q]] w fun e w' => e = .returned (.bool (Rp.vld n d m c p q)) ∧ Below w.heap.size w w' := by
  have cb := fun w => rBoth_any n d m c w n0 n1 d0 d1 m0 m1 c0 c1
  have cc := fun w => rCheck_any p q w p0 p1 q0 q1
  rcases both_cases n d m c with ⟨h, hx, hy⟩ | h
  · rw [h] at cb
    rcases chk_cases p q with ⟨k, hz⟩ | ⟨k, hz⟩
    all_goals
      rw [k] at cc
      first | rw [show Rp.vld n d m c p q = true from decide_eq_true ⟨hx, hy, hz⟩] | rw [show Rp.vld n d m c p q = false from decide_eq_false (fun g => hz g.2.2)]
      have CB := Lib.hid cb
      have CC := Lib.hid cc
      clear cb cc h hx hy hz k
      go_enter Tryd.func23, Tryd.ntmps23
      go_wp2_with fail
      refine (CB.out _).mono ?_
      rintro e w1 ⟨rfl, hb⟩
      have x0 : w1.cell? ⟨w.heap.size + 1 + 1, 0, none⟩ = some (.int .i64 p) := keepC hb (by go_simp)
      have x1 : w1.cell? ⟨w.heap.size + 1 + 1, 1, none⟩ = some (.int .i64 q) := keepC hb (by go_simp)
      have hbb : Below w.heap.size w w1 := keepB ((((Below.refl _ _).alloc (Nat.le_refl _) _).alloc (by simp) _).alloc (by simp; omega) _) hb
      clear hb
      go_wp2_with fail
      refine (CC.out _).mono ?_
      rintro e w2 ⟨rfl, hb2⟩
      go_wp2
      go_ret
      exact ⟨rfl, keepB hbb hb2⟩
  · have hv : Rp.vld n d m c p q = false := by
      apply decide_eq_false
      rintro ⟨g1, g2, _⟩
      unfold Rp.both Rp.chk at h
      rw [if_pos g1, if_pos g2] at h
      cases h
    rw [hv]
    rw [h] at cb
    have CB := Lib.hid cb
    clear cb cc h hv
    go_enter Tryd.func23, Tryd.ntmps23
    go_wp2_with fail
    refine (CB.out _).mono ?_
    rintro e w1 ⟨rfl, hb⟩
    have hbb : Below w.heap.size w w1 := keepB ((((Below.refl _ _).alloc (Nat.le_refl _) _).alloc (by simp) _).alloc (by simp; omega) _) hb
    go_wp2
    go_ret
    exact ⟨rfl, hbb⟩

theorem parse_bad (l : List UInt8) (n d : Int) (h1 : Rp.okOf (Lib.parseIntB 64 (Rp.topOf l)) = some n) (h2 : Rp.okOf (Lib.parseIntB 64 (Rp.botOf l)) = some d) (h : ¬ (Rp.Ok n d ∧ Rp.txt n d = l)) : Rp.parseS l = (0, 0, 12) := by
  unfold Rp.parseS
  rw [h1, h2]
  exact if_neg h
theorem bad24 : Rp.parseS [50, 47, 52] = (0, 0, 12) := parse_bad _ 2 4 (by decide +kernel) (by decide +kernel) (fun h => absurd h.1 (by decide +kernel))
theorem bad31 : Rp.parseS [51, 47, 49] = (0, 0, 12) := parse_bad _ 3 1 (by decide +kernel) (by decide +kernel) (fun h => absurd h.2 (by simp [Rp.txt, Lib.itoa, Lib.decDigits]))
theorem badP1 : Rp.parseS [43, 49] = (0, 0, 12) := parse_bad _ 1 1 (by decide +kernel) (by decide +kernel) (fun h => absurd h.2 (by simp [Rp.txt, Lib.itoa, Lib.decDigits]))
theorem badM0 : Rp.parseS [45, 48] = (0, 0, 12) := parse_bad _ 0 1 (by decide +kernel) (by decide +kernel) (fun h => absurd h.2 (by simp [Rp.txt, Lib.itoa, Lib.decDigits]))
theorem mk64 : Rp.makeS 6 (-4) = (-3, 2, 0) := by decide +kernel
theorem ad23 : Rp.addS 1 2 1 3 = (5, 6, 0) := by decide +kernel
theorem sb23 : Rp.subS 1 2 1 3 = (1, 6, 0) := by decide +kernel
theorem ml77 : Rp.mulS 1000000000000000000 7 7 1000000000000000000 = (1, 1, 0) := by decide +kernel
theorem adGG : Rp.addS 1 1000000000000000000 1 999999999999999999 = (0, 0, 16) := by decide +kernel
theorem fl32 : Rp.floorS (-3) 2 = (-2, 0) := by decide +kernel

set_option maxHeartbeats 4000000 in
set_option maxRecDepth 100000 in
theorem alive_true (w : World) (E0 : Env w) :
    Calls Tryd.prog 18 #[] w fun e w' => e = .returned (.bool true) ∧ Below w.heap.size w w' := by
  have c1 := fun w => Make_any 6 (-4) (by decide) (by decide) (by decide) (by decide) w
  have c2 := fun w => Add_any 1 2 1 3 w (by decide) (by decide) (by decide) (by decide) (by decide) (by decide) (by decide) (by decide)
  have c3 := fun w => Sub_any 1 2 1 3 w (by decide) (by decide) (by decide) (by decide) (by decide) (by decide) (by decide) (by decide)
  have c4 := fun w => Mul_any 1000000000000000000 7 7 1000000000000000000 w (by decide) (by decide) (by decide) (by decide) (by decide) (by decide) (by decide) (by decide)
  have c5 := fun w => Add_any 1 1000000000000000000 1 999999999999999999 w (by decide) (by decide) (by decide) (by decide) (by decide) (by decide) (by decide) (by decide)
  have c6 := fun w => Floor_any (-3) 2 w (by decide) (by decide) (by decide) (by decide)
  rw [mk64] at c1
  rw [ad23] at c2
  rw [sb23] at c3
  rw [ml77] at c4
  rw [adGG] at c5
  rw [fl32] at c6
  have C1 := Lib.hid c1
  have C2 := Lib.hid c2
  have C3 := Lib.hid c3
  have C4 := Lib.hid c4
  have C5 := Lib.hid c5
  have C6 := Lib.hid c6
  have E := Lib.hid E0
  clear c1 c2 c3 c4 c5 c6 E0
  go_enter Tryd.func18, Tryd.ntmps18
  go_wp2_with fail
  refine (C1.out _).mono ?_
  rintro e w1 ⟨rfl, hb⟩
  have h0 : w1.cell? ⟨w.heap.size, 0, none⟩ = some (.int .i64 1) := keepC hb (by go_simp)
  have h1 : w1.cell? ⟨w.heap.size, 1, none⟩ = some (.int .i64 2) := keepC hb (by go_simp)
  have t0 : w1.cell? ⟨w.heap.size + 1, 0, none⟩ = some (.int .i64 1) := keepC hb (by go_simp)
  have t1 : w1.cell? ⟨w.heap.size + 1, 1, none⟩ = some (.int .i64 3) := keepC hb (by go_simp)
  have hbb : Below w.heap.size w w1 := keepB (((Below.refl _ _).alloc (Nat.le_refl _) _).alloc (by simp) _) hb
  have hE := Lib.hid (((E.out).keep (((Below.refl _ _).alloc (Nat.le_refl _) _).alloc (by simp) _)).keep hb)
  clear hb
  have l1 := lt_of_cell h0
  have l2 := lt_of_cell t0
  go_wp2_with fail
  refine at_worldR (fun v => Env v ∧ Below w.heap.size w v ∧ v.cell? ⟨w.heap.size, 0, none⟩ = some (.int .i64 1) ∧ v.cell? ⟨w.heap.size, 1, none⟩ = some (.int .i64 2) ∧ v.cell? ⟨w.heap.size + 1, 0, none⟩ = some (.int .i64 1) ∧ v.cell? ⟨w.heap.size + 1, 1, none⟩ = some (.int .i64 3) ∧ v.cell? ⟨w1.heap.size, 0, none⟩ = some (.int .i64 (-3)) ∧ v.cell? ⟨w1.heap.size, 1, none⟩ = some (.int .i64 2)) ⟨(hE.out).keep (below_al (Below.refl _ _) _), below_al hbb _, cell_alloc h0 _, cell_alloc h1 _, cell_alloc t0 _, cell_alloc t1 _, n20 _ _ _ _, n21 _ _ _ _⟩ (fun V1 hS => ?_)
  obtain ⟨hE, hbb, h0, h1, t0, t1, a0, a1⟩ := hS
  have hE' := hE
  clear hE
  have hE := Lib.hid hE'
  clear hE'
  refine (C2.out _).mono ?_
  rintro e w2 ⟨rfl, hb⟩
  replace h0 := keepC hb h0
  replace h1 := keepC hb h1
  replace t0 := keepC hb t0
  replace t1 := keepC hb t1
  replace a0 := keepC hb a0
  replace a1 := keepC hb a1
  replace hbb := keepB hbb hb
  have hE' := Lib.hid ((hE.out).keep hb)
  clear hE
  have hE := hE'
  clear hE'
  clear hb
  have l1 := lt_of_cell h0
  have l2 := lt_of_cell t0
  have l3 := lt_of_cell a0
  go_wp2_with fail
  refine at_worldR (fun v => Env v ∧ Below w.heap.size w v ∧ v.cell? ⟨w.heap.size, 0, none⟩ = some (.int .i64 1) ∧ v.cell? ⟨w.heap.size, 1, none⟩ = some (.int .i64 2) ∧ v.cell? ⟨w.heap.size + 1, 0, none⟩ = some (.int .i64 1) ∧ v.cell? ⟨w.heap.size + 1, 1, none⟩ = some (.int .i64 3) ∧ v.cell? ⟨w1.heap.size, 0, none⟩ = some (.int .i64 (-3)) ∧ v.cell? ⟨w1.heap.size, 1, none⟩ = some (.int .i64 2) ∧ v.cell? ⟨w2.heap.size, 0, none⟩ = some (.int .i64 5) ∧ v.cell? ⟨w2.heap.size, 1, none⟩ = some (.int .i64 6)) ⟨(hE.out).keep (below_al (Below.refl _ _) _), below_al hbb _, cell_alloc h0 _, cell_alloc h1 _, cell_alloc t0 _, cell_alloc t1 _, cell_alloc a0 _, cell_alloc a1 _, n20 _ _ _ _, n21 _ _ _ _⟩ (fun V2 hS => ?_)
  obtain ⟨hE, hbb, h0, h1, t0, t1, a0, a1, b0, b1⟩ := hS
  have hE' := hE
  clear hE
  have hE := Lib.hid hE'
  clear hE'
  refine (C3.out _).mono ?_
  rintro e w3 ⟨rfl, hb⟩
  replace h0 := keepC hb h0
  replace h1 := keepC hb h1
  replace t0 := keepC hb t0
  replace t1 := keepC hb t1
  replace a0 := keepC hb a0
  replace a1 := keepC hb a1
  replace b0 := keepC hb b0
  replace b1 := keepC hb b1
  replace hbb := keepB hbb hb
  have hE' := Lib.hid ((hE.out).keep hb)
  clear hE
  have hE := hE'
  clear hE'
  clear hb
  have l1 := lt_of_cell h0
  have l2 := lt_of_cell t0
  have l3 := lt_of_cell a0
  have l4 := lt_of_cell b0
  go_wp2_with fail
  refine at_worldR (fun v => Env v ∧ Below w.heap.size w v ∧ v.cell? ⟨w.heap.size, 0, none⟩ = some (.int .i64 1) ∧ v.cell? ⟨w.heap.size, 1, none⟩ = some (.int .i64 2) ∧ v.cell? ⟨w.heap.size + 1, 0, none⟩ = some (.int .i64 1) ∧ v.cell? ⟨w.heap.size + 1, 1, none⟩ = some (.int .i64 3) ∧ v.cell? ⟨w1.heap.size, 0, none⟩ = some (.int .i64 (-3)) ∧ v.cell? ⟨w1.heap.size, 1, none⟩ = some (.int .i64 2) ∧ v.cell? ⟨w2.heap.size, 0, none⟩ = some (.int .i64 5) ∧ v.cell? ⟨w2.heap.size, 1, none⟩ = some (.int .i64 6) ∧ v.cell? ⟨w3.heap.size, 0, none⟩ = some (.int .i64 1) ∧ v.cell? ⟨w3.heap.size, 1, none⟩ = some (.int .i64 6)) ⟨(hE.out).keep (below_al (Below.refl _ _) _), below_al hbb _, cell_alloc h0 _, cell_alloc h1 _, cell_alloc t0 _, cell_alloc t1 _, cell_alloc a0 _, cell_alloc a1 _, cell_alloc b0 _, cell_alloc b1 _, n20 _ _ _ _, n21 _ _ _ _⟩ (fun V3 hS => ?_)
  obtain ⟨hE, hbb, h0, h1, t0, t1, a0, a1, b0, b1, c0, c1⟩ := hS
  have hE' := hE
  clear hE
  have hE := Lib.hid hE'
  clear hE'
  refine (C4.out _).mono ?_
  rintro e w4 ⟨rfl, hb⟩
  replace h0 := keepC hb h0
  replace h1 := keepC hb h1
  replace t0 := keepC hb t0
  replace t1 := keepC hb t1
  replace a0 := keepC hb a0
  replace a1 := keepC hb a1
  replace b0 := keepC hb b0
  replace b1 := keepC hb b1
  replace c0 := keepC hb c0
  replace c1 := keepC hb c1
  replace hbb := keepB hbb hb
  have hE' := Lib.hid ((hE.out).keep hb)
  clear hE
  have hE := hE'
  clear hE'
  clear hb
  have l1 := lt_of_cell h0
  have l2 := lt_of_cell t0
  have l3 := lt_of_cell a0
  have l4 := lt_of_cell b0
  have l5 := lt_of_cell c0
  go_wp2_with fail
  refine at_worldR (fun v => Env v ∧ Below w.heap.size w v ∧ v.cell? ⟨w.heap.size, 0, none⟩ = some (.int .i64 1) ∧ v.cell? ⟨w.heap.size, 1, none⟩ = some (.int .i64 2) ∧ v.cell? ⟨w.heap.size + 1, 0, none⟩ = some (.int .i64 1) ∧ v.cell? ⟨w.heap.size + 1, 1, none⟩ = some (.int .i64 3) ∧ v.cell? ⟨w1.heap.size, 0, none⟩ = some (.int .i64 (-3)) ∧ v.cell? ⟨w1.heap.size, 1, none⟩ = some (.int .i64 2) ∧ v.cell? ⟨w2.heap.size, 0, none⟩ = some (.int .i64 5) ∧ v.cell? ⟨w2.heap.size, 1, none⟩ = some (.int .i64 6) ∧ v.cell? ⟨w3.heap.size, 0, none⟩ = some (.int .i64 1) ∧ v.cell? ⟨w3.heap.size, 1, none⟩ = some (.int .i64 6) ∧ v.cell? ⟨w4.heap.size, 0, none⟩ = some (.int .i64 1) ∧ v.cell? ⟨w4.heap.size, 1, none⟩ = some (.int .i64 1)) ⟨(hE.out).keep (below_al (Below.refl _ _) _), below_al hbb _, cell_alloc h0 _, cell_alloc h1 _, cell_alloc t0 _, cell_alloc t1 _, cell_alloc a0 _, cell_alloc a1 _, cell_alloc b0 _, cell_alloc b1 _, cell_alloc c0 _, cell_alloc c1 _, n20 _ _ _ _, n21 _ _ _ _⟩ (fun V4 hS => ?_)
  obtain ⟨hE, hbb, h0, h1, t0, t1, a0, a1, b0, b1, c0, c1, d0, d1⟩ := hS
  have hE' := hE
  clear hE
  have hE := Lib.hid hE'
  clear hE'
  refine (C5.out _).mono ?_
  rintro e w5 ⟨rfl, hb⟩
  replace h0 := keepC hb h0
  replace h1 := keepC hb h1
  replace t0 := keepC hb t0
  replace t1 := keepC hb t1
  replace a0 := keepC hb a0
  replace a1 := keepC hb a1
  replace b0 := keepC hb b0
  replace b1 := keepC hb b1
  replace c0 := keepC hb c0
  replace c1 := keepC hb c1
  replace d0 := keepC hb d0
  replace d1 := keepC hb d1
  replace hbb := keepB hbb hb
  have hE' := Lib.hid ((hE.out).keep hb)
  clear hE
  have hE := hE'
  clear hE'
  clear hb
  have l1 := lt_of_cell h0
  have l2 := lt_of_cell t0
  have l3 := lt_of_cell a0
  have l4 := lt_of_cell b0
  have l5 := lt_of_cell c0
  have l6 := lt_of_cell d0
  go_wp2_with fail
  refine at_worldR (fun v => Env v ∧ Below w.heap.size w v ∧ v.cell? ⟨w.heap.size, 0, none⟩ = some (.int .i64 1) ∧ v.cell? ⟨w.heap.size, 1, none⟩ = some (.int .i64 2) ∧ v.cell? ⟨w.heap.size + 1, 0, none⟩ = some (.int .i64 1) ∧ v.cell? ⟨w.heap.size + 1, 1, none⟩ = some (.int .i64 3) ∧ v.cell? ⟨w1.heap.size, 0, none⟩ = some (.int .i64 (-3)) ∧ v.cell? ⟨w1.heap.size, 1, none⟩ = some (.int .i64 2) ∧ v.cell? ⟨w2.heap.size, 0, none⟩ = some (.int .i64 5) ∧ v.cell? ⟨w2.heap.size, 1, none⟩ = some (.int .i64 6) ∧ v.cell? ⟨w3.heap.size, 0, none⟩ = some (.int .i64 1) ∧ v.cell? ⟨w3.heap.size, 1, none⟩ = some (.int .i64 6) ∧ v.cell? ⟨w4.heap.size, 0, none⟩ = some (.int .i64 1) ∧ v.cell? ⟨w4.heap.size, 1, none⟩ = some (.int .i64 1) ∧ v.cell? ⟨w5.heap.size, 0, none⟩ = some (.int .i64 0) ∧ v.cell? ⟨w5.heap.size, 1, none⟩ = some (.int .i64 0)) ⟨(hE.out).keep (below_al (Below.refl _ _) _), below_al hbb _, cell_alloc h0 _, cell_alloc h1 _, cell_alloc t0 _, cell_alloc t1 _, cell_alloc a0 _, cell_alloc a1 _, cell_alloc b0 _, cell_alloc b1 _, cell_alloc c0 _, cell_alloc c1 _, cell_alloc d0 _, cell_alloc d1 _, n20 _ _ _ _, n21 _ _ _ _⟩ (fun V5 hS => ?_)
  obtain ⟨hE, hbb, h0, h1, t0, t1, a0, a1, b0, b1, c0, c1, d0, d1, g0, g1⟩ := hS
  have hE' := hE
  clear hE
  have hE := Lib.hid hE'
  clear hE'
  refine (C6.out _).mono ?_
  rintro e w6 ⟨rfl, hb⟩
  replace h0 := keepC hb h0
  replace h1 := keepC hb h1
  replace t0 := keepC hb t0
  replace t1 := keepC hb t1
  replace a0 := keepC hb a0
  replace a1 := keepC hb a1
  replace b0 := keepC hb b0
  replace b1 := keepC hb b1
  replace c0 := keepC hb c0
  replace c1 := keepC hb c1
  replace d0 := keepC hb d0
  replace d1 := keepC hb d1
  replace g0 := keepC hb g0
  replace g1 := keepC hb g1
  replace hbb := keepB hbb hb
  have hE' := Lib.hid ((hE.out).keep hb)
  clear hE
  have hE := hE'
  clear hE'
  clear hb
  go_wp2_with fail
  refine (is_true (-3) 2 _).mono ?_
  rintro e w7 ⟨rfl, hb⟩
  replace h0 := keepC hb h0
  replace h1 := keepC hb h1
  replace t0 := keepC hb t0
  replace t1 := keepC hb t1
  replace a0 := keepC hb a0
  replace a1 := keepC hb a1
  replace b0 := keepC hb b0
  replace b1 := keepC hb b1
  replace c0 := keepC hb c0
  replace c1 := keepC hb c1
  replace d0 := keepC hb d0
  replace d1 := keepC hb d1
  replace g0 := keepC hb g0
  replace g1 := keepC hb g1
  replace hbb := keepB hbb hb
  have hE' := Lib.hid ((hE.out).keep hb)
  clear hE
  have hE := hE'
  clear hE'
  clear hb
  go_wp2_with fail
  refine (is_true 5 6 _).mono ?_
  rintro e w8 ⟨rfl, hb⟩
  replace h0 := keepC hb h0
  replace h1 := keepC hb h1
  replace t0 := keepC hb t0
  replace t1 := keepC hb t1
  replace a0 := keepC hb a0
  replace a1 := keepC hb a1
  replace b0 := keepC hb b0
  replace b1 := keepC hb b1
  replace c0 := keepC hb c0
  replace c1 := keepC hb c1
  replace d0 := keepC hb d0
  replace d1 := keepC hb d1
  replace g0 := keepC hb g0
  replace g1 := keepC hb g1
  replace hbb := keepB hbb hb
  have hE' := Lib.hid ((hE.out).keep hb)
  clear hE
  have hE := hE'
  clear hE'
  clear hb
  go_wp2_with fail
  refine (is_true 1 6 _).mono ?_
  rintro e w9 ⟨rfl, hb⟩
  replace h0 := keepC hb h0
  replace h1 := keepC hb h1
  replace t0 := keepC hb t0
  replace t1 := keepC hb t1
  replace a0 := keepC hb a0
  replace a1 := keepC hb a1
  replace b0 := keepC hb b0
  replace b1 := keepC hb b1
  replace c0 := keepC hb c0
  replace c1 := keepC hb c1
  replace d0 := keepC hb d0
  replace d1 := keepC hb d1
  replace g0 := keepC hb g0
  replace g1 := keepC hb g1
  replace hbb := keepB hbb hb
  have hE' := Lib.hid ((hE.out).keep hb)
  clear hE
  have hE := hE'
  clear hE'
  clear hb
  go_wp2_with fail
  refine (is_true 1 1 _).mono ?_
  rintro e w10 ⟨rfl, hb⟩
  replace h0 := keepC hb h0
  replace h1 := keepC hb h1
  replace t0 := keepC hb t0
  replace t1 := keepC hb t1
  replace a0 := keepC hb a0
  replace a1 := keepC hb a1
  replace b0 := keepC hb b0
  replace b1 := keepC hb b1
  replace c0 := keepC hb c0
  replace c1 := keepC hb c1
  replace d0 := keepC hb d0
  replace d1 := keepC hb d1
  replace g0 := keepC hb g0
  replace g1 := keepC hb g1
  replace hbb := keepB hbb hb
  have hE' := Lib.hid ((hE.out).keep hb)
  clear hE
  have hE := hE'
  clear hE'
  clear hb
  go_wp2_with fail
  refine (refused_true ⟨#[50, 47, 52]⟩ (by decide) bad24 _ (hE.out)).mono ?_
  rintro e w11 ⟨rfl, hb⟩
  replace h0 := keepC hb h0
  replace h1 := keepC hb h1
  replace t0 := keepC hb t0
  replace t1 := keepC hb t1
  replace a0 := keepC hb a0
  replace a1 := keepC hb a1
  replace b0 := keepC hb b0
  replace b1 := keepC hb b1
  replace c0 := keepC hb c0
  replace c1 := keepC hb c1
  replace d0 := keepC hb d0
  replace d1 := keepC hb d1
  replace g0 := keepC hb g0
  replace g1 := keepC hb g1
  replace hbb := keepB hbb hb
  have hE' := Lib.hid ((hE.out).keep hb)
  clear hE
  have hE := hE'
  clear hE'
  clear hb
  go_wp2_with fail
  refine (refused_true ⟨#[51, 47, 49]⟩ (by decide) bad31 _ (hE.out)).mono ?_
  rintro e w12 ⟨rfl, hb⟩
  replace h0 := keepC hb h0
  replace h1 := keepC hb h1
  replace t0 := keepC hb t0
  replace t1 := keepC hb t1
  replace a0 := keepC hb a0
  replace a1 := keepC hb a1
  replace b0 := keepC hb b0
  replace b1 := keepC hb b1
  replace c0 := keepC hb c0
  replace c1 := keepC hb c1
  replace d0 := keepC hb d0
  replace d1 := keepC hb d1
  replace g0 := keepC hb g0
  replace g1 := keepC hb g1
  replace hbb := keepB hbb hb
  have hE' := Lib.hid ((hE.out).keep hb)
  clear hE
  have hE := hE'
  clear hE'
  clear hb
  go_wp2_with fail
  refine (refused_true ⟨#[43, 49]⟩ (by decide) badP1 _ (hE.out)).mono ?_
  rintro e w13 ⟨rfl, hb⟩
  replace h0 := keepC hb h0
  replace h1 := keepC hb h1
  replace t0 := keepC hb t0
  replace t1 := keepC hb t1
  replace a0 := keepC hb a0
  replace a1 := keepC hb a1
  replace b0 := keepC hb b0
  replace b1 := keepC hb b1
  replace c0 := keepC hb c0
  replace c1 := keepC hb c1
  replace d0 := keepC hb d0
  replace d1 := keepC hb d1
  replace g0 := keepC hb g0
  replace g1 := keepC hb g1
  replace hbb := keepB hbb hb
  have hE' := Lib.hid ((hE.out).keep hb)
  clear hE
  have hE := hE'
  clear hE'
  clear hb
  go_wp2_with fail
  refine (refused_true ⟨#[45, 48]⟩ (by decide) badM0 _ (hE.out)).mono ?_
  rintro e w14 ⟨rfl, hb⟩
  replace h0 := keepC hb h0
  replace h1 := keepC hb h1
  replace t0 := keepC hb t0
  replace t1 := keepC hb t1
  replace a0 := keepC hb a0
  replace a1 := keepC hb a1
  replace b0 := keepC hb b0
  replace b1 := keepC hb b1
  replace c0 := keepC hb c0
  replace c1 := keepC hb c1
  replace d0 := keepC hb d0
  replace d1 := keepC hb d1
  replace g0 := keepC hb g0
  replace g1 := keepC hb g1
  replace hbb := keepB hbb hb
  have hE' := Lib.hid ((hE.out).keep hb)
  clear hE
  have hE := hE'
  clear hE'
  clear hb
  go_wp2_with fail
  go_ret
  exact ⟨rfl, hbb⟩
end Go.Proofs.YtkphaclfapkfoaaDoor
