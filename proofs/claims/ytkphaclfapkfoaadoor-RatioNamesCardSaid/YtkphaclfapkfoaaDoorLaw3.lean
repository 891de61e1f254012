/- The walk of the law RatioLaws: it answers true for any three ratios. -/
import Derived.Test.YtkphaclfapkfoaaDoorSum
namespace Go.Proofs.YtkphaclfapkfoaaDoor
open Go.RowKit

theorem ofQ_bd {r : Rat} {a b c : Int} (h : Rp.ofQ r = (a, b, c)) : -1000000000000000000 ≤ a ∧ a ≤ 1000000000000000000 ∧ 0 ≤ b ∧ b ≤ 1000000000000000000 := by
  rcases Rp.ofQ_err h with z | ⟨z1, z2, _⟩
  · obtain ⟨⟨h1, h2, h3, h4, _⟩, _⟩ := Rp.ofQ_ok h z
    omega
  · omega
theorem not_ok_zero {q : Int} {d : Int} (h : d = 0) : ¬ Rp.Ok q d := fun g => by have := g.1; omega
theorem add_zero_left {n d : Int} (h : Rp.Ok n d) : Rp.add 0 1 n d = (n, d, 0) := by
  unfold Rp.add
  have e : Rp.q 0 1 + Rp.q n d = Rp.q n d := by
    have : Rp.q 0 1 = 0 := by decide +kernel
    rw [this, Rat.zero_add]
  rw [e, Rp.ofQ_q h]
theorem sum3 {n d m c p q R1 R2 R3 X1 X2 X3 : Int} (h : Rp.Ok n d) (k : Rp.Ok m c) (l : Rp.Ok p q) (hR : Rp.ofQ (Rp.q n d + Rp.q m c) = (R1, R2, R3)) (hX : Rp.addS R1 R2 p q = (X1, X2, X3)) :
    Rp.sumL [(n, d), (m, c), (p, q)] = if R3 = 0 then (X1, X2, X3) else (0, 0, R3) := by
  have hall : Rp.AllOk [(n, d), (m, c), (p, q)] := by
    intro x hx
    simp only [List.mem_cons, List.not_mem_nil, or_false] at hx
    rcases hx with rfl | rfl | rfl <;> assumption
  unfold Rp.sumL
  rw [if_pos hall]
  simp only [Rp.sumF, add_zero_left h]
  rw [if_pos trivial]
  rw [show Rp.add n d m c = (R1, R2, R3) from hR]
  dsimp only
  by_cases hz : R3 = 0
  · rw [if_pos hz, if_pos hz]
    obtain ⟨o, v⟩ := Rp.ofQ_ok hR hz
    rw [Rp.addS_ok o l] at hX
    rw [show Rp.add R1 R2 p q = (X1, X2, X3) from hX]
    dsimp only
    rcases Rp.ofQ_err hX with rfl | ⟨rfl, rfl, rfl⟩
    · rw [if_pos rfl]
    · rw [if_neg (by decide)]
  · rw [if_neg hz, if_neg hz]

theorem rdr3 {v : World} {b : Nat} {n d m c p q : Int} (k0 : v.cell? ⟨b, 0, none⟩ = some (.int .i64 n)) (k1 : v.cell? ⟨b, 1, none⟩ = some (.int .i64 d)) (k2 : v.cell? ⟨b, 2, none⟩ = some (.int .i64 m)) (k3 : v.cell? ⟨b, 3, none⟩ = some (.int .i64 c)) (k4 : v.cell? ⟨b, 4, none⟩ = some (.int .i64 p)) (k5 : v.cell? ⟨b, 5, none⟩ = some (.int .i64 q)) :
    RdR v b 0 [(n, d), (m, c), (p, q)] := by
  intro i x y h
  match i with
  | 0 => simp only [List.getElem?_cons_zero, Option.some.injEq, Prod.mk.injEq] at h; obtain ⟨rfl, rfl⟩ := h; exact ⟨k0, k1⟩
  | 1 => simp only [List.getElem?_cons_succ, List.getElem?_cons_zero, Option.some.injEq, Prod.mk.injEq] at h; obtain ⟨rfl, rfl⟩ := h; exact ⟨k2, k3⟩
  | 2 => simp only [List.getElem?_cons_succ, List.getElem?_cons_zero, Option.some.injEq, Prod.mk.injEq] at h; obtain ⟨rfl, rfl⟩ := h; exact ⟨k4, k5⟩
  | i + 3 => simp at h

set_option maxHeartbeats 32000000 in
set_option maxRecDepth 100000 in
theorem laws_valid (n d m c p q : Int) (w : World) (h : Rp.Ok n d) (k : Rp.Ok m c) (l : Rp.Ok p q) (n0 : -9223372036854775808 ≤ n) (n1 : n ≤ 9223372036854775807) (d0 : -9223372036854775808 ≤ d) (d1 : d ≤ 9223372036854775807) (m0 : -9223372036854775808 ≤ m) (m1 : m ≤ 9223372036854775807) (c0 : -9223372036854775808 ≤ c) (c1 : c ≤ 9223372036854775807) (p0 : -9223372036854775808 ≤ p) (p1 : p ≤ 9223372036854775807) (q0 : -9223372036854775808 ≤ q) (q1 : q ≤ 9223372036854775807) (E0 : Env w) :
    Calls Tryd.prog 6 #[.agg #[.int .i64 n, .int .i64 d], .agg #[.int .i64 m, .int .i64 c], .agg #[.int .i64 p, .int .i64 q]] w fun e w' => e = .returned (.bool true) ∧ Below w.heap.size w w' := by
  have cv := fun w => valid_any n d m c p q w n0 n1 d0 d1 m0 m1 c0 c1 p0 p1 q0 q1
  rw [show Rp.vld n d m c p q = true from decide_eq_true ⟨h, k, l⟩] at cv
  have ca := fun w => Add_any n d m c w n0 n1 d0 d1 m0 m1 c0 c1
  have cb := fun w => Add_any m c p q w m0 m1 c0 c1 p0 p1 q0 q1
  have cp := fun w => Mul_any n d m c w n0 n1 d0 d1 m0 m1 c0 c1
  have cq := fun w => Mul_any m c p q w m0 m1 c0 c1 p0 p1 q0 q1
  have cn := fun w => Mul_any n d p q w n0 n1 d0 d1 p0 p1 q0 q1
  rw [Rp.addS_ok h k] at ca
  rw [Rp.addS_ok k l] at cb
  rw [Rp.mulS_ok h k] at cp
  rw [Rp.mulS_ok k l] at cq
  rw [Rp.mulS_ok h l] at cn
  obtain ⟨R1, R2, R3, hR⟩ : ∃ x y z, Rp.ofQ (Rp.q n d + Rp.q m c) = (x, y, z) := ⟨_, _, _, rfl⟩
  obtain ⟨T1, T2, T3, hT⟩ : ∃ x y z, Rp.ofQ (Rp.q m c + Rp.q p q) = (x, y, z) := ⟨_, _, _, rfl⟩
  obtain ⟨P1, P2, P3, hP⟩ : ∃ x y z, Rp.ofQ (Rp.q n d * Rp.q m c) = (x, y, z) := ⟨_, _, _, rfl⟩
  obtain ⟨Q1, Q2, Q3, hQ⟩ : ∃ x y z, Rp.ofQ (Rp.q m c * Rp.q p q) = (x, y, z) := ⟨_, _, _, rfl⟩
  obtain ⟨N1, N2, N3, hN⟩ : ∃ x y z, Rp.ofQ (Rp.q n d * Rp.q p q) = (x, y, z) := ⟨_, _, _, rfl⟩
  obtain ⟨X1, X2, X3, hX⟩ : ∃ x y z, Rp.addS R1 R2 p q = (x, y, z) := ⟨_, _, _, rfl⟩
  obtain ⟨Y1, Y2, Y3, hY⟩ : ∃ x y z, Rp.addS n d T1 T2 = (x, y, z) := ⟨_, _, _, rfl⟩
  obtain ⟨U1, U2, U3, hU⟩ : ∃ x y z, Rp.mulS P1 P2 p q = (x, y, z) := ⟨_, _, _, rfl⟩
  obtain ⟨J1, J2, J3, hV⟩ : ∃ x y z, Rp.mulS n d Q1 Q2 = (x, y, z) := ⟨_, _, _, rfl⟩
  obtain ⟨O1, O2, O3, hO⟩ : ∃ x y z, Rp.addS N1 N2 Q1 Q2 = (x, y, z) := ⟨_, _, _, rfl⟩
  obtain ⟨Z1, Z2, Z3, hZ⟩ : ∃ x y z, Rp.mulS R1 R2 p q = (x, y, z) := ⟨_, _, _, rfl⟩
  obtain ⟨S1, S2, S3, hS⟩ : ∃ x y z, Rp.sumL [(n, d), (m, c), (p, q)] = (x, y, z) := ⟨_, _, _, rfl⟩
  have bR := ofQ_bd hR
  have bT := ofQ_bd hT
  have bP := ofQ_bd hP
  have bQ := ofQ_bd hQ
  have bN := ofQ_bd hN
  have cx := fun w => Add_any R1 R2 p q w (by omega) (by omega) (by omega) (by omega) p0 p1 q0 q1
  have cy := fun w => Add_any n d T1 T2 w n0 n1 d0 d1 (by omega) (by omega) (by omega) (by omega)
  have cu := fun w => Mul_any P1 P2 p q w (by omega) (by omega) (by omega) (by omega) p0 p1 q0 q1
  have cw := fun w => Mul_any n d Q1 Q2 w n0 n1 d0 d1 (by omega) (by omega) (by omega) (by omega)
  have co := fun w => Add_any N1 N2 Q1 Q2 w (by omega) (by omega) (by omega) (by omega) (by omega) (by omega) (by omega) (by omega)
  have cz := fun w => Mul_any R1 R2 p q w (by omega) (by omega) (by omega) (by omega) p0 p1 q0 q1
  have cs := fun b w hrd => Sum_list b 0 3 [(n, d), (m, c), (p, q)] w (by simp) hrd (by
    intro x hx
    simp only [List.mem_cons, List.not_mem_nil, or_false] at hx
    rcases hx with rfl | rfl | rfl
    · exact ⟨⟨n0, n1⟩, d0, d1⟩
    · exact ⟨⟨m0, m1⟩, c0, c1⟩
    · exact ⟨⟨p0, p1⟩, q0, q1⟩) S1 S2 S3 hS
  have f1 : R3 = 0 → T3 = 0 → (X1 = Y1 ∧ X2 = Y2 ∧ X3 = Y3) := by
    intro z1 z2
    obtain ⟨o1, v1⟩ := Rp.ofQ_ok hR z1
    obtain ⟨o2, v2⟩ := Rp.ofQ_ok hT z2
    rw [Rp.addS_ok o1 l, v1, Rat.add_assoc] at hX
    rw [Rp.addS_ok h o2, v2, hX] at hY
    simpa using hY
  have f2 : R3 = 0 → (S1 = X1 ∧ S2 = X2 ∧ S3 = X3) := by
    intro z1
    have := sum3 h k l hR hX
    rw [hS, if_pos z1] at this
    simpa using this
  have f3 : ¬ R3 = 0 → S3 = R3 := by
    intro z1
    have := sum3 h k l hR hX
    rw [hS, if_neg z1] at this
    simp only [Prod.mk.injEq] at this
    exact this.2.2
  have f4 : P3 = 0 → Q3 = 0 → (U1 = J1 ∧ U2 = J2 ∧ U3 = J3) := by
    intro z1 z2
    obtain ⟨o1, v1⟩ := Rp.ofQ_ok hP z1
    obtain ⟨o2, v2⟩ := Rp.ofQ_ok hQ z2
    rw [Rp.mulS_ok o1 l, v1, Rat.mul_assoc] at hU
    rw [Rp.mulS_ok h o2, v2, hU] at hV
    simpa using hV
  have f5 : R3 = 0 → Q3 = 0 → N3 = 0 → (O1 = Z1 ∧ O2 = Z2 ∧ O3 = Z3) := by
    intro z1 z2 z3
    obtain ⟨o1, v1⟩ := Rp.ofQ_ok hR z1
    obtain ⟨o2, v2⟩ := Rp.ofQ_ok hQ z2
    obtain ⟨o3, v3⟩ := Rp.ofQ_ok hN z3
    rw [Rp.addS_ok o3 o2, v3, v2, ← Rat.add_mul] at hO
    rw [Rp.mulS_ok o1 l, v1, hO] at hZ
    simpa using hZ
  rw [hR] at ca
  rw [hT] at cb
  rw [hP] at cp
  rw [hQ] at cq
  rw [hN] at cn
  rw [hX] at cx
  rw [hY] at cy
  rw [hU] at cu
  rw [hV] at cw
  rw [hO] at co
  rw [hZ] at cz
  dsimp only at ca cb cp cq cn cx cy cu cw co cz
  have CA := Lib.hid ca
  have CB := Lib.hid cb
  have CP := Lib.hid cp
  have CQ := Lib.hid cq
  have CN := Lib.hid cn
  have CX := Lib.hid cx
  have CY := Lib.hid cy
  have CU := Lib.hid cu
  have CW := Lib.hid cw
  have CO := Lib.hid co
  have CZ := Lib.hid cz
  have CS := Lib.hid cs
  have CV := Lib.hid cv
  have F1 := Lib.hid f1
  have F2 := Lib.hid f2
  have F3 := Lib.hid f3
  have F4 := Lib.hid f4
  have F5 := Lib.hid f5
  have E := Lib.hid E0
  clear ca cb cp cq cn cx cy cu cw co cz cs cv f1 f2 f3 f4 f5 E0 hR hT hP hQ hN hX hY hU hV hO hZ hS bR bT bP bQ bN h k l n0 n1 d0 d1 m0 m1 c0 c1 p0 p1 q0 q1
  go_enter Tryd.func6, Tryd.ntmps6
  go_wp2_with fail
  refine (CV.out _).mono ?_
  rintro e w1 ⟨rfl, hb⟩
  have a0 : w1.cell? ⟨w.heap.size, 0, none⟩ = some (.int .i64 n) := keepC hb (by go_simp)
  have a1 : w1.cell? ⟨w.heap.size, 1, none⟩ = some (.int .i64 d) := keepC hb (by go_simp)
  have b0 : w1.cell? ⟨w.heap.size + 1, 0, none⟩ = some (.int .i64 m) := keepC hb (by go_simp)
  have b1 : w1.cell? ⟨w.heap.size + 1, 1, none⟩ = some (.int .i64 c) := keepC hb (by go_simp)
  have c0 : w1.cell? ⟨w.heap.size + 1 + 1, 0, none⟩ = some (.int .i64 p) := keepC hb (by go_simp)
  have c1 : w1.cell? ⟨w.heap.size + 1 + 1, 1, none⟩ = some (.int .i64 q) := keepC hb (by go_simp)
  have hbb : Below w.heap.size w w1 := keepB ((((Below.refl _ _).alloc (Nat.le_refl _) _).alloc (by simp) _).alloc (by simp; omega) _) hb
  have hE := Lib.hid (((E.out).keep ((((Below.refl _ _).alloc (Nat.le_refl _) _).alloc (by simp) _).alloc (by simp; omega) _)).keep hb)
  clear hb
  go_wp2_with fail
  refine (CA.out _).mono ?_
  rintro e w2 ⟨rfl, hb⟩
  replace a0 := keepC hb a0
  replace a1 := keepC hb a1
  replace b0 := keepC hb b0
  replace b1 := keepC hb b1
  replace c0 := keepC hb c0
  replace c1 := keepC hb c1
  replace hbb := keepB hbb hb
  have hE' := Lib.hid ((hE.out).keep hb)
  clear hE
  have hE := hE'
  clear hE'
  clear hb
  have l1 := lt_of_cell a0
  have l2 := lt_of_cell b0
  have l3 := lt_of_cell c0
  go_wp2_with fail
  refine at_worldR (fun v => Env v ∧ Below w.heap.size w v ∧ v.cell? ⟨w.heap.size, 0, none⟩ = some (.int .i64 n) ∧ v.cell? ⟨w.heap.size, 1, none⟩ = some (.int .i64 d) ∧ v.cell? ⟨w.heap.size + 1, 0, none⟩ = some (.int .i64 m) ∧ v.cell? ⟨w.heap.size + 1, 1, none⟩ = some (.int .i64 c) ∧ v.cell? ⟨w.heap.size + 1 + 1, 0, none⟩ = some (.int .i64 p) ∧ v.cell? ⟨w.heap.size + 1 + 1, 1, none⟩ = some (.int .i64 q) ∧ v.cell? ⟨w2.heap.size, 0, none⟩ = some (.int .i64 R1) ∧ v.cell? ⟨w2.heap.size, 1, none⟩ = some (.int .i64 R2)) ⟨(hE.out).keep (below_al (Below.refl _ _) _), below_al hbb _, cell_alloc a0 _, cell_alloc a1 _, cell_alloc b0 _, cell_alloc b1 _, cell_alloc c0 _, cell_alloc c1 _, n20 _ _ _ _, n21 _ _ _ _⟩ (fun V1 hS => ?_)
  obtain ⟨hE, hbb, a0, a1, b0, b1, c0, c1, r0, r1⟩ := hS
  have hE' := hE
  clear hE
  have hE := Lib.hid hE'
  clear hE'
  refine (CB.out _).mono ?_
  rintro e w3 ⟨rfl, hb⟩
  replace a0 := keepC hb a0
  replace a1 := keepC hb a1
  replace b0 := keepC hb b0
  replace b1 := keepC hb b1
  replace c0 := keepC hb c0
  replace c1 := keepC hb c1
  replace r0 := keepC hb r0
  replace r1 := keepC hb r1
  replace hbb := keepB hbb hb
  have hE' := Lib.hid ((hE.out).keep hb)
  clear hE
  have hE := hE'
  clear hE'
  clear hb
  have l1 := lt_of_cell a0
  have l2 := lt_of_cell b0
  have l3 := lt_of_cell c0
  have l4 := lt_of_cell r0
  go_wp2_with fail
  refine at_worldR (fun v => Env v ∧ Below w.heap.size w v ∧ v.cell? ⟨w.heap.size, 0, none⟩ = some (.int .i64 n) ∧ v.cell? ⟨w.heap.size, 1, none⟩ = some (.int .i64 d) ∧ v.cell? ⟨w.heap.size + 1, 0, none⟩ = some (.int .i64 m) ∧ v.cell? ⟨w.heap.size + 1, 1, none⟩ = some (.int .i64 c) ∧ v.cell? ⟨w.heap.size + 1 + 1, 0, none⟩ = some (.int .i64 p) ∧ v.cell? ⟨w.heap.size + 1 + 1, 1, none⟩ = some (.int .i64 q) ∧ v.cell? ⟨w2.heap.size, 0, none⟩ = some (.int .i64 R1) ∧ v.cell? ⟨w2.heap.size, 1, none⟩ = some (.int .i64 R2) ∧ v.cell? ⟨w3.heap.size, 0, none⟩ = some (.int .i64 T1) ∧ v.cell? ⟨w3.heap.size, 1, none⟩ = some (.int .i64 T2)) ⟨(hE.out).keep (below_al (Below.refl _ _) _), below_al hbb _, cell_alloc a0 _, cell_alloc a1 _, cell_alloc b0 _, cell_alloc b1 _, cell_alloc c0 _, cell_alloc c1 _, cell_alloc r0 _, cell_alloc r1 _, n20 _ _ _ _, n21 _ _ _ _⟩ (fun V2 hS => ?_)
  obtain ⟨hE, hbb, a0, a1, b0, b1, c0, c1, r0, r1, t0, t1⟩ := hS
  have hE' := hE
  clear hE
  have hE := Lib.hid hE'
  clear hE'
  refine (CX.out _).mono ?_
  rintro e w4 ⟨rfl, hb⟩
  replace a0 := keepC hb a0
  replace a1 := keepC hb a1
  replace b0 := keepC hb b0
  replace b1 := keepC hb b1
  replace c0 := keepC hb c0
  replace c1 := keepC hb c1
  replace r0 := keepC hb r0
  replace r1 := keepC hb r1
  replace t0 := keepC hb t0
  replace t1 := keepC hb t1
  replace hbb := keepB hbb hb
  have hE' := Lib.hid ((hE.out).keep hb)
  clear hE
  have hE := hE'
  clear hE'
  clear hb
  have l1 := lt_of_cell a0
  have l2 := lt_of_cell b0
  have l3 := lt_of_cell c0
  have l4 := lt_of_cell r0
  have l5 := lt_of_cell t0
  go_wp2_with fail
  refine at_worldR (fun v => Env v ∧ Below w.heap.size w v ∧ v.cell? ⟨w.heap.size, 0, none⟩ = some (.int .i64 n) ∧ v.cell? ⟨w.heap.size, 1, none⟩ = some (.int .i64 d) ∧ v.cell? ⟨w.heap.size + 1, 0, none⟩ = some (.int .i64 m) ∧ v.cell? ⟨w.heap.size + 1, 1, none⟩ = some (.int .i64 c) ∧ v.cell? ⟨w.heap.size + 1 + 1, 0, none⟩ = some (.int .i64 p) ∧ v.cell? ⟨w.heap.size + 1 + 1, 1, none⟩ = some (.int .i64 q) ∧ v.cell? ⟨w2.heap.size, 0, none⟩ = some (.int .i64 R1) ∧ v.cell? ⟨w2.heap.size, 1, none⟩ = some (.int .i64 R2) ∧ v.cell? ⟨w3.heap.size, 0, none⟩ = some (.int .i64 T1) ∧ v.cell? ⟨w3.heap.size, 1, none⟩ = some (.int .i64 T2) ∧ v.cell? ⟨w4.heap.size, 0, none⟩ = some (.int .i64 X1) ∧ v.cell? ⟨w4.heap.size, 1, none⟩ = some (.int .i64 X2)) ⟨(hE.out).keep (below_al (Below.refl _ _) _), below_al hbb _, cell_alloc a0 _, cell_alloc a1 _, cell_alloc b0 _, cell_alloc b1 _, cell_alloc c0 _, cell_alloc c1 _, cell_alloc r0 _, cell_alloc r1 _, cell_alloc t0 _, cell_alloc t1 _, n20 _ _ _ _, n21 _ _ _ _⟩ (fun V3 hS => ?_)
  obtain ⟨hE, hbb, a0, a1, b0, b1, c0, c1, r0, r1, t0, t1, x0, x1⟩ := hS
  have hE' := hE
  clear hE
  have hE := Lib.hid hE'
  clear hE'
  refine (CY.out _).mono ?_
  rintro e w5 ⟨rfl, hb⟩
  replace a0 := keepC hb a0
  replace a1 := keepC hb a1
  replace b0 := keepC hb b0
  replace b1 := keepC hb b1
  replace c0 := keepC hb c0
  replace c1 := keepC hb c1
  replace r0 := keepC hb r0
  replace r1 := keepC hb r1
  replace t0 := keepC hb t0
  replace t1 := keepC hb t1
  replace x0 := keepC hb x0
  replace x1 := keepC hb x1
  replace hbb := keepB hbb hb
  have hE' := Lib.hid ((hE.out).keep hb)
  clear hE
  have hE := hE'
  clear hE'
  clear hb
  have l1 := lt_of_cell a0
  have l2 := lt_of_cell b0
  have l3 := lt_of_cell c0
  have l4 := lt_of_cell r0
  have l5 := lt_of_cell t0
  have l6 := lt_of_cell x0
  go_upto_region 7 with fail
  refine at_worldC (fun v => Env v ∧ Below w.heap.size w v ∧ v.cell? ⟨w.heap.size, 0, none⟩ = some (.int .i64 n) ∧ v.cell? ⟨w.heap.size, 1, none⟩ = some (.int .i64 d) ∧ v.cell? ⟨w.heap.size + 1, 0, none⟩ = some (.int .i64 m) ∧ v.cell? ⟨w.heap.size + 1, 1, none⟩ = some (.int .i64 c) ∧ v.cell? ⟨w.heap.size + 1 + 1, 0, none⟩ = some (.int .i64 p) ∧ v.cell? ⟨w.heap.size + 1 + 1, 1, none⟩ = some (.int .i64 q) ∧ v.cell? ⟨w2.heap.size, 0, none⟩ = some (.int .i64 R1) ∧ v.cell? ⟨w2.heap.size, 1, none⟩ = some (.int .i64 R2) ∧ v.cell? ⟨w3.heap.size, 0, none⟩ = some (.int .i64 T1) ∧ v.cell? ⟨w3.heap.size, 1, none⟩ = some (.int .i64 T2) ∧ v.cell? ⟨w4.heap.size, 0, none⟩ = some (.int .i64 X1) ∧ v.cell? ⟨w4.heap.size, 1, none⟩ = some (.int .i64 X2) ∧ v.cell? ⟨w5.heap.size, 0, none⟩ = some (.int .i64 Y1) ∧ v.cell? ⟨w5.heap.size, 1, none⟩ = some (.int .i64 Y2)) ⟨(hE.out).keep (below_al (Below.refl _ _) _), below_al hbb _, cell_alloc a0 _, cell_alloc a1 _, cell_alloc b0 _, cell_alloc b1 _, cell_alloc c0 _, cell_alloc c1 _, cell_alloc r0 _, cell_alloc r1 _, cell_alloc t0 _, cell_alloc t1 _, cell_alloc x0 _, cell_alloc x1 _, n20 _ _ _ _, n21 _ _ _ _⟩ (fun V57 hS => ?_)
  clear hE
  obtain ⟨hE, hbb, a0, a1, b0, b1, c0, c1, r0, r1, t0, t1, x0, x1, y0, y1⟩ := hS
  have hE' := Lib.hid hE
  clear hE
  have hE := hE'
  clear hE'
  go_cut [76] (fun s v => s = .bool false ∧ Env v ∧ Below w.heap.size w v ∧ v.cell? ⟨w.heap.size, 0, none⟩ = some (.int .i64 n) ∧ v.cell? ⟨w.heap.size, 1, none⟩ = some (.int .i64 d) ∧ v.cell? ⟨w.heap.size + 1, 0, none⟩ = some (.int .i64 m) ∧ v.cell? ⟨w.heap.size + 1, 1, none⟩ = some (.int .i64 c) ∧ v.cell? ⟨w.heap.size + 1 + 1, 0, none⟩ = some (.int .i64 p) ∧ v.cell? ⟨w.heap.size + 1 + 1, 1, none⟩ = some (.int .i64 q) ∧ v.cell? ⟨w2.heap.size, 0, none⟩ = some (.int .i64 R1) ∧ v.cell? ⟨w2.heap.size, 1, none⟩ = some (.int .i64 R2) ∧ v.cell? ⟨w4.heap.size, 0, none⟩ = some (.int .i64 X1) ∧ v.cell? ⟨w4.heap.size, 1, none⟩ = some (.int .i64 X2))
  case first =>
    by_cases gR3 : R3 = 0
    · by_cases gT3 : T3 = 0
      · obtain ⟨i1, i2, i3⟩ := F1.out gR3 gT3
        subst i1 i2 i3 gR3 gT3
        go_wp2_with fail
        all_goals
          go_meet
          exact ⟨rfl, hE.out, hbb, a0, a1, b0, b1, c0, c1, r0, r1, x0, x1⟩
      · have bT3 : (T3 == 0) = false := by rw [beq_eq_false_iff_ne]; exact gT3
        clear gT3
        go_wp2_with fail
        all_goals
          go_meet
          exact ⟨rfl, hE.out, hbb, a0, a1, b0, b1, c0, c1, r0, r1, x0, x1⟩
    · have bR3 : (R3 == 0) = false := by rw [beq_eq_false_iff_ne]; exact gR3
      clear gR3
      go_wp2_with fail
      all_goals
        go_meet
        exact ⟨rfl, hE.out, hbb, a0, a1, b0, b1, c0, c1, r0, r1, x0, x1⟩
  case rest =>
    clear a0 a1 b0 b1 c0 c1 r0 r1 t0 t1 x0 x1 y0 y1 hbb hE
    obtain ⟨rfl, hE0, hbb, a0, a1, b0, b1, c0, c1, r0, r1, x0, x1⟩ := hcut
    have hE := Lib.hid hE0
    clear hE0
    have l1 := lt_of_cell a0
    have l2 := lt_of_cell b0
    have l3 := lt_of_cell c0
    have l4 := lt_of_cell r0
    have l5 := lt_of_cell x0
    go_wp2_with fail
    refine at_worldR (fun v => Env v ∧ Below w.heap.size w v ∧ v.cell? ⟨w.heap.size, 0, none⟩ = some (.int .i64 n) ∧ v.cell? ⟨w.heap.size, 1, none⟩ = some (.int .i64 d) ∧ v.cell? ⟨w.heap.size + 1, 0, none⟩ = some (.int .i64 m) ∧ v.cell? ⟨w.heap.size + 1, 1, none⟩ = some (.int .i64 c) ∧ v.cell? ⟨w.heap.size + 1 + 1, 0, none⟩ = some (.int .i64 p) ∧ v.cell? ⟨w.heap.size + 1 + 1, 1, none⟩ = some (.int .i64 q) ∧ v.cell? ⟨w2.heap.size, 0, none⟩ = some (.int .i64 R1) ∧ v.cell? ⟨w2.heap.size, 1, none⟩ = some (.int .i64 R2) ∧ v.cell? ⟨w4.heap.size, 0, none⟩ = some (.int .i64 X1) ∧ v.cell? ⟨w4.heap.size, 1, none⟩ = some (.int .i64 X2) ∧ v.cell? ⟨wc.heap.size, 0, none⟩ = some (.int .i64 n) ∧ v.cell? ⟨wc.heap.size, 1, none⟩ = some (.int .i64 d) ∧ v.cell? ⟨wc.heap.size, 2, none⟩ = some (.int .i64 m) ∧ v.cell? ⟨wc.heap.size, 3, none⟩ = some (.int .i64 c) ∧ v.cell? ⟨wc.heap.size, 4, none⟩ = some (.int .i64 p) ∧ v.cell? ⟨wc.heap.size, 5, none⟩ = some (.int .i64 q)) ⟨(hE.out).keep (below_al (Below.refl _ _) _), below_al hbb _, cell_alloc a0 _, cell_alloc a1 _, cell_alloc b0 _, cell_alloc b1 _, cell_alloc c0 _, cell_alloc c1 _, cell_alloc r0 _, cell_alloc r1 _, cell_alloc x0 _, cell_alloc x1 _, by go_simp, by go_simp, by go_simp, by go_simp, by go_simp, by go_simp⟩ (fun V20 hS => ?_)
    clear hE
    obtain ⟨hE, hbb, a0, a1, b0, b1, c0, c1, r0, r1, x0, x1, k0, k1, k2, k3, k4, k5⟩ := hS
    have hE' := Lib.hid hE
    clear hE
    have hE := hE'
    clear hE'
    have hrd := rdr3 k0 k1 k2 k3 k4 k5
    refine (CS.out _ _ hrd).mono ?_
    rintro e w6 ⟨rfl, hb⟩
    clear hrd k0 k1 k2 k3 k4 k5
    replace a0 := keepC hb a0
    replace a1 := keepC hb a1
    replace b0 := keepC hb b0
    replace b1 := keepC hb b1
    replace c0 := keepC hb c0
    replace c1 := keepC hb c1
    replace r0 := keepC hb r0
    replace r1 := keepC hb r1
    replace x0 := keepC hb x0
    replace x1 := keepC hb x1
    replace hbb := keepB hbb hb
    have hE' := Lib.hid ((hE.out).keep hb)
    clear hE
    have hE := hE'
    clear hE'
    clear hb
    have l1 := lt_of_cell a0
    have l2 := lt_of_cell b0
    have l3 := lt_of_cell c0
    have l4 := lt_of_cell r0
    have l5 := lt_of_cell x0
    go_upto_region 10 with fail
    refine at_worldC (fun v => Env v ∧ Below w.heap.size w v ∧ v.cell? ⟨w.heap.size, 0, none⟩ = some (.int .i64 n) ∧ v.cell? ⟨w.heap.size, 1, none⟩ = some (.int .i64 d) ∧ v.cell? ⟨w.heap.size + 1, 0, none⟩ = some (.int .i64 m) ∧ v.cell? ⟨w.heap.size + 1, 1, none⟩ = some (.int .i64 c) ∧ v.cell? ⟨w.heap.size + 1 + 1, 0, none⟩ = some (.int .i64 p) ∧ v.cell? ⟨w.heap.size + 1 + 1, 1, none⟩ = some (.int .i64 q) ∧ v.cell? ⟨w2.heap.size, 0, none⟩ = some (.int .i64 R1) ∧ v.cell? ⟨w2.heap.size, 1, none⟩ = some (.int .i64 R2) ∧ v.cell? ⟨w4.heap.size, 0, none⟩ = some (.int .i64 X1) ∧ v.cell? ⟨w4.heap.size, 1, none⟩ = some (.int .i64 X2) ∧ v.cell? ⟨w6.heap.size, 0, none⟩ = some (.int .i64 S1) ∧ v.cell? ⟨w6.heap.size, 1, none⟩ = some (.int .i64 S2)) ⟨(hE.out).keep (below_al (Below.refl _ _) _), below_al hbb _, cell_alloc a0 _, cell_alloc a1 _, cell_alloc b0 _, cell_alloc b1 _, cell_alloc c0 _, cell_alloc c1 _, cell_alloc r0 _, cell_alloc r1 _, cell_alloc x0 _, cell_alloc x1 _, n20 _ _ _ _, n21 _ _ _ _⟩ (fun V60 hS => ?_)
    clear hE
    obtain ⟨hE, hbb, a0, a1, b0, b1, c0, c1, r0, r1, x0, x1, s0, s1⟩ := hS
    have hE' := Lib.hid hE
    clear hE
    have hE := hE'
    clear hE'
    go_cut [105] (fun s v => s = .bool false ∧ Env v ∧ Below w.heap.size w v ∧ v.cell? ⟨w.heap.size, 0, none⟩ = some (.int .i64 n) ∧ v.cell? ⟨w.heap.size, 1, none⟩ = some (.int .i64 d) ∧ v.cell? ⟨w.heap.size + 1, 0, none⟩ = some (.int .i64 m) ∧ v.cell? ⟨w.heap.size + 1, 1, none⟩ = some (.int .i64 c) ∧ v.cell? ⟨w.heap.size + 1 + 1, 0, none⟩ = some (.int .i64 p) ∧ v.cell? ⟨w.heap.size + 1 + 1, 1, none⟩ = some (.int .i64 q) ∧ v.cell? ⟨w2.heap.size, 0, none⟩ = some (.int .i64 R1) ∧ v.cell? ⟨w2.heap.size, 1, none⟩ = some (.int .i64 R2))
    case first =>
      by_cases gR3 : R3 = 0
      · obtain ⟨i1, i2, i3⟩ := F2.out gR3
        subst i1 i2 i3 gR3
        go_wp2_with fail
        all_goals
          go_meet
          exact ⟨rfl, hE.out, hbb, a0, a1, b0, b1, c0, c1, r0, r1⟩
      · have i3 := F3.out gR3
        have bR3 : (R3 == 0) = false := by rw [beq_eq_false_iff_ne]; exact gR3
        have bR3' : (R3 != 0) = true := by rw [bne_iff_ne]; exact gR3
        subst i3
        clear gR3
        go_wp2_with fail
        all_goals
          go_meet
          exact ⟨rfl, hE.out, hbb, a0, a1, b0, b1, c0, c1, r0, r1⟩
    case rest =>
      clear a0 a1 b0 b1 c0 c1 r0 r1 x0 x1 s0 s1 hbb hE
      obtain ⟨rfl, hE0, hbb, a0, a1, b0, b1, c0, c1, r0, r1⟩ := hcut
      have hE := Lib.hid hE0
      clear hE0
      go_wp2_with fail
      refine (CP.out _).mono ?_
      rintro e w7 ⟨rfl, hb⟩
      replace a0 := keepC hb a0
      replace a1 := keepC hb a1
      replace b0 := keepC hb b0
      replace b1 := keepC hb b1
      replace c0 := keepC hb c0
      replace c1 := keepC hb c1
      replace r0 := keepC hb r0
      replace r1 := keepC hb r1
      replace hbb := keepB hbb hb
      have hE' := Lib.hid ((hE.out).keep hb)
      clear hE
      have hE := hE'
      clear hE'
      clear hb
      have l1 := lt_of_cell a0
      have l2 := lt_of_cell b0
      have l3 := lt_of_cell c0
      have l4 := lt_of_cell r0
      go_wp2_with fail
      refine at_worldR (fun v => Env v ∧ Below w.heap.size w v ∧ v.cell? ⟨w.heap.size, 0, none⟩ = some (.int .i64 n) ∧ v.cell? ⟨w.heap.size, 1, none⟩ = some (.int .i64 d) ∧ v.cell? ⟨w.heap.size + 1, 0, none⟩ = some (.int .i64 m) ∧ v.cell? ⟨w.heap.size + 1, 1, none⟩ = some (.int .i64 c) ∧ v.cell? ⟨w.heap.size + 1 + 1, 0, none⟩ = some (.int .i64 p) ∧ v.cell? ⟨w.heap.size + 1 + 1, 1, none⟩ = some (.int .i64 q) ∧ v.cell? ⟨w2.heap.size, 0, none⟩ = some (.int .i64 R1) ∧ v.cell? ⟨w2.heap.size, 1, none⟩ = some (.int .i64 R2) ∧ v.cell? ⟨w7.heap.size, 0, none⟩ = some (.int .i64 P1) ∧ v.cell? ⟨w7.heap.size, 1, none⟩ = some (.int .i64 P2)) ⟨(hE.out).keep (below_al (Below.refl _ _) _), below_al hbb _, cell_alloc a0 _, cell_alloc a1 _, cell_alloc b0 _, cell_alloc b1 _, cell_alloc c0 _, cell_alloc c1 _, cell_alloc r0 _, cell_alloc r1 _, n20 _ _ _ _, n21 _ _ _ _⟩ (fun V1 hS => ?_)
      obtain ⟨hE, hbb, a0, a1, b0, b1, c0, c1, r0, r1, e0, e1⟩ := hS
      have hE' := hE
      clear hE
      have hE := Lib.hid hE'
      clear hE'
      refine (CQ.out _).mono ?_
      rintro e w8 ⟨rfl, hb⟩
      replace a0 := keepC hb a0
      replace a1 := keepC hb a1
      replace b0 := keepC hb b0
      replace b1 := keepC hb b1
      replace c0 := keepC hb c0
      replace c1 := keepC hb c1
      replace r0 := keepC hb r0
      replace r1 := keepC hb r1
      replace e0 := keepC hb e0
      replace e1 := keepC hb e1
      replace hbb := keepB hbb hb
      have hE' := Lib.hid ((hE.out).keep hb)
      clear hE
      have hE := hE'
      clear hE'
      clear hb
      have l1 := lt_of_cell a0
      have l2 := lt_of_cell b0
      have l3 := lt_of_cell c0
      have l4 := lt_of_cell r0
      have l5 := lt_of_cell e0
      go_wp2_with fail
      refine at_worldR (fun v => Env v ∧ Below w.heap.size w v ∧ v.cell? ⟨w.heap.size, 0, none⟩ = some (.int .i64 n) ∧ v.cell? ⟨w.heap.size, 1, none⟩ = some (.int .i64 d) ∧ v.cell? ⟨w.heap.size + 1, 0, none⟩ = some (.int .i64 m) ∧ v.cell? ⟨w.heap.size + 1, 1, none⟩ = some (.int .i64 c) ∧ v.cell? ⟨w.heap.size + 1 + 1, 0, none⟩ = some (.int .i64 p) ∧ v.cell? ⟨w.heap.size + 1 + 1, 1, none⟩ = some (.int .i64 q) ∧ v.cell? ⟨w2.heap.size, 0, none⟩ = some (.int .i64 R1) ∧ v.cell? ⟨w2.heap.size, 1, none⟩ = some (.int .i64 R2) ∧ v.cell? ⟨w7.heap.size, 0, none⟩ = some (.int .i64 P1) ∧ v.cell? ⟨w7.heap.size, 1, none⟩ = some (.int .i64 P2) ∧ v.cell? ⟨w8.heap.size, 0, none⟩ = some (.int .i64 Q1) ∧ v.cell? ⟨w8.heap.size, 1, none⟩ = some (.int .i64 Q2)) ⟨(hE.out).keep (below_al (Below.refl _ _) _), below_al hbb _, cell_alloc a0 _, cell_alloc a1 _, cell_alloc b0 _, cell_alloc b1 _, cell_alloc c0 _, cell_alloc c1 _, cell_alloc r0 _, cell_alloc r1 _, cell_alloc e0 _, cell_alloc e1 _, n20 _ _ _ _, n21 _ _ _ _⟩ (fun V2 hS => ?_)
      obtain ⟨hE, hbb, a0, a1, b0, b1, c0, c1, r0, r1, e0, e1, f0, f1⟩ := hS
      have hE' := hE
      clear hE
      have hE := Lib.hid hE'
      clear hE'
      refine (CU.out _).mono ?_
      rintro e w9 ⟨rfl, hb⟩
      replace a0 := keepC hb a0
      replace a1 := keepC hb a1
      replace b0 := keepC hb b0
      replace b1 := keepC hb b1
      replace c0 := keepC hb c0
      replace c1 := keepC hb c1
      replace r0 := keepC hb r0
      replace r1 := keepC hb r1
      replace e0 := keepC hb e0
      replace e1 := keepC hb e1
      replace f0 := keepC hb f0
      replace f1 := keepC hb f1
      replace hbb := keepB hbb hb
      have hE' := Lib.hid ((hE.out).keep hb)
      clear hE
      have hE := hE'
      clear hE'
      clear hb
      have l1 := lt_of_cell a0
      have l2 := lt_of_cell b0
      have l3 := lt_of_cell c0
      have l4 := lt_of_cell r0
      have l5 := lt_of_cell e0
      have l6 := lt_of_cell f0
      go_wp2_with fail
      refine at_worldR (fun v => Env v ∧ Below w.heap.size w v ∧ v.cell? ⟨w.heap.size, 0, none⟩ = some (.int .i64 n) ∧ v.cell? ⟨w.heap.size, 1, none⟩ = some (.int .i64 d) ∧ v.cell? ⟨w.heap.size + 1, 0, none⟩ = some (.int .i64 m) ∧ v.cell? ⟨w.heap.size + 1, 1, none⟩ = some (.int .i64 c) ∧ v.cell? ⟨w.heap.size + 1 + 1, 0, none⟩ = some (.int .i64 p) ∧ v.cell? ⟨w.heap.size + 1 + 1, 1, none⟩ = some (.int .i64 q) ∧ v.cell? ⟨w2.heap.size, 0, none⟩ = some (.int .i64 R1) ∧ v.cell? ⟨w2.heap.size, 1, none⟩ = some (.int .i64 R2) ∧ v.cell? ⟨w7.heap.size, 0, none⟩ = some (.int .i64 P1) ∧ v.cell? ⟨w7.heap.size, 1, none⟩ = some (.int .i64 P2) ∧ v.cell? ⟨w8.heap.size, 0, none⟩ = some (.int .i64 Q1) ∧ v.cell? ⟨w8.heap.size, 1, none⟩ = some (.int .i64 Q2) ∧ v.cell? ⟨w9.heap.size, 0, none⟩ = some (.int .i64 U1) ∧ v.cell? ⟨w9.heap.size, 1, none⟩ = some (.int .i64 U2)) ⟨(hE.out).keep (below_al (Below.refl _ _) _), below_al hbb _, cell_alloc a0 _, cell_alloc a1 _, cell_alloc b0 _, cell_alloc b1 _, cell_alloc c0 _, cell_alloc c1 _, cell_alloc r0 _, cell_alloc r1 _, cell_alloc e0 _, cell_alloc e1 _, cell_alloc f0 _, cell_alloc f1 _, n20 _ _ _ _, n21 _ _ _ _⟩ (fun V3 hS => ?_)
      obtain ⟨hE, hbb, a0, a1, b0, b1, c0, c1, r0, r1, e0, e1, f0, f1, u0, u1⟩ := hS
      have hE' := hE
      clear hE
      have hE := Lib.hid hE'
      clear hE'
      refine (CW.out _).mono ?_
      rintro e w10 ⟨rfl, hb⟩
      replace a0 := keepC hb a0
      replace a1 := keepC hb a1
      replace b0 := keepC hb b0
      replace b1 := keepC hb b1
      replace c0 := keepC hb c0
      replace c1 := keepC hb c1
      replace r0 := keepC hb r0
      replace r1 := keepC hb r1
      replace e0 := keepC hb e0
      replace e1 := keepC hb e1
      replace f0 := keepC hb f0
      replace f1 := keepC hb f1
      replace u0 := keepC hb u0
      replace u1 := keepC hb u1
      replace hbb := keepB hbb hb
      have hE' := Lib.hid ((hE.out).keep hb)
      clear hE
      have hE := hE'
      clear hE'
      clear hb
      have l1 := lt_of_cell a0
      have l2 := lt_of_cell b0
      have l3 := lt_of_cell c0
      have l4 := lt_of_cell r0
      have l5 := lt_of_cell e0
      have l6 := lt_of_cell f0
      have l7 := lt_of_cell u0
      go_upto_region 16 with fail
      refine at_worldC (fun v => Env v ∧ Below w.heap.size w v ∧ v.cell? ⟨w.heap.size, 0, none⟩ = some (.int .i64 n) ∧ v.cell? ⟨w.heap.size, 1, none⟩ = some (.int .i64 d) ∧ v.cell? ⟨w.heap.size + 1, 0, none⟩ = some (.int .i64 m) ∧ v.cell? ⟨w.heap.size + 1, 1, none⟩ = some (.int .i64 c) ∧ v.cell? ⟨w.heap.size + 1 + 1, 0, none⟩ = some (.int .i64 p) ∧ v.cell? ⟨w.heap.size + 1 + 1, 1, none⟩ = some (.int .i64 q) ∧ v.cell? ⟨w2.heap.size, 0, none⟩ = some (.int .i64 R1) ∧ v.cell? ⟨w2.heap.size, 1, none⟩ = some (.int .i64 R2) ∧ v.cell? ⟨w7.heap.size, 0, none⟩ = some (.int .i64 P1) ∧ v.cell? ⟨w7.heap.size, 1, none⟩ = some (.int .i64 P2) ∧ v.cell? ⟨w8.heap.size, 0, none⟩ = some (.int .i64 Q1) ∧ v.cell? ⟨w8.heap.size, 1, none⟩ = some (.int .i64 Q2) ∧ v.cell? ⟨w9.heap.size, 0, none⟩ = some (.int .i64 U1) ∧ v.cell? ⟨w9.heap.size, 1, none⟩ = some (.int .i64 U2) ∧ v.cell? ⟨w10.heap.size, 0, none⟩ = some (.int .i64 J1) ∧ v.cell? ⟨w10.heap.size, 1, none⟩ = some (.int .i64 J2)) ⟨(hE.out).keep (below_al (Below.refl _ _) _), below_al hbb _, cell_alloc a0 _, cell_alloc a1 _, cell_alloc b0 _, cell_alloc b1 _, cell_alloc c0 _, cell_alloc c1 _, cell_alloc r0 _, cell_alloc r1 _, cell_alloc e0 _, cell_alloc e1 _, cell_alloc f0 _, cell_alloc f1 _, cell_alloc u0 _, cell_alloc u1 _, n20 _ _ _ _, n21 _ _ _ _⟩ (fun V66 hS => ?_)
      clear hE
      obtain ⟨hE, hbb, a0, a1, b0, b1, c0, c1, r0, r1, e0, e1, f0, f1, u0, u1, v0, v1⟩ := hS
      have hE' := Lib.hid hE
      clear hE
      have hE := hE'
      clear hE'
      go_cut [145] (fun s v => s = .bool false ∧ Env v ∧ Below w.heap.size w v ∧ v.cell? ⟨w.heap.size, 0, none⟩ = some (.int .i64 n) ∧ v.cell? ⟨w.heap.size, 1, none⟩ = some (.int .i64 d) ∧ v.cell? ⟨w.heap.size + 1, 0, none⟩ = some (.int .i64 m) ∧ v.cell? ⟨w.heap.size + 1, 1, none⟩ = some (.int .i64 c) ∧ v.cell? ⟨w.heap.size + 1 + 1, 0, none⟩ = some (.int .i64 p) ∧ v.cell? ⟨w.heap.size + 1 + 1, 1, none⟩ = some (.int .i64 q) ∧ v.cell? ⟨w2.heap.size, 0, none⟩ = some (.int .i64 R1) ∧ v.cell? ⟨w2.heap.size, 1, none⟩ = some (.int .i64 R2) ∧ v.cell? ⟨w8.heap.size, 0, none⟩ = some (.int .i64 Q1) ∧ v.cell? ⟨w8.heap.size, 1, none⟩ = some (.int .i64 Q2))
      case first =>
        by_cases gP3 : P3 = 0
        · by_cases gQ3 : Q3 = 0
          · obtain ⟨i1, i2, i3⟩ := F4.out gP3 gQ3
            subst i1 i2 i3 gP3 gQ3
            go_wp2_with fail
            all_goals
              go_meet
              exact ⟨rfl, hE.out, hbb, a0, a1, b0, b1, c0, c1, r0, r1, f0, f1⟩
          · have bQ3 : (Q3 == 0) = false := by rw [beq_eq_false_iff_ne]; exact gQ3
            clear gQ3
            go_wp2_with fail
            all_goals
              go_meet
              exact ⟨rfl, hE.out, hbb, a0, a1, b0, b1, c0, c1, r0, r1, f0, f1⟩
        · have bP3 : (P3 == 0) = false := by rw [beq_eq_false_iff_ne]; exact gP3
          clear gP3
          go_wp2_with fail
          all_goals
            go_meet
            exact ⟨rfl, hE.out, hbb, a0, a1, b0, b1, c0, c1, r0, r1, f0, f1⟩
      case rest =>
        clear a0 a1 b0 b1 c0 c1 r0 r1 e0 e1 f0 f1 u0 u1 v0 v1 hbb hE
        obtain ⟨rfl, hE0, hbb, a0, a1, b0, b1, c0, c1, r0, r1, f0, f1⟩ := hcut
        have hE := Lib.hid hE0
        clear hE0
        go_wp2_with fail
        refine (CN.out _).mono ?_
        rintro e w11 ⟨rfl, hb⟩
        replace a0 := keepC hb a0
        replace a1 := keepC hb a1
        replace b0 := keepC hb b0
        replace b1 := keepC hb b1
        replace c0 := keepC hb c0
        replace c1 := keepC hb c1
        replace r0 := keepC hb r0
        replace r1 := keepC hb r1
        replace f0 := keepC hb f0
        replace f1 := keepC hb f1
        replace hbb := keepB hbb hb
        have hE' := Lib.hid ((hE.out).keep hb)
        clear hE
        have hE := hE'
        clear hE'
        clear hb
        have l1 := lt_of_cell a0
        have l2 := lt_of_cell b0
        have l3 := lt_of_cell c0
        have l4 := lt_of_cell r0
        have l5 := lt_of_cell f0
        go_wp2_with fail
        refine at_worldR (fun v => Env v ∧ Below w.heap.size w v ∧ v.cell? ⟨w.heap.size, 0, none⟩ = some (.int .i64 n) ∧ v.cell? ⟨w.heap.size, 1, none⟩ = some (.int .i64 d) ∧ v.cell? ⟨w.heap.size + 1, 0, none⟩ = some (.int .i64 m) ∧ v.cell? ⟨w.heap.size + 1, 1, none⟩ = some (.int .i64 c) ∧ v.cell? ⟨w.heap.size + 1 + 1, 0, none⟩ = some (.int .i64 p) ∧ v.cell? ⟨w.heap.size + 1 + 1, 1, none⟩ = some (.int .i64 q) ∧ v.cell? ⟨w2.heap.size, 0, none⟩ = some (.int .i64 R1) ∧ v.cell? ⟨w2.heap.size, 1, none⟩ = some (.int .i64 R2) ∧ v.cell? ⟨w8.heap.size, 0, none⟩ = some (.int .i64 Q1) ∧ v.cell? ⟨w8.heap.size, 1, none⟩ = some (.int .i64 Q2) ∧ v.cell? ⟨w11.heap.size, 0, none⟩ = some (.int .i64 N1) ∧ v.cell? ⟨w11.heap.size, 1, none⟩ = some (.int .i64 N2)) ⟨(hE.out).keep (below_al (Below.refl _ _) _), below_al hbb _, cell_alloc a0 _, cell_alloc a1 _, cell_alloc b0 _, cell_alloc b1 _, cell_alloc c0 _, cell_alloc c1 _, cell_alloc r0 _, cell_alloc r1 _, cell_alloc f0 _, cell_alloc f1 _, n20 _ _ _ _, n21 _ _ _ _⟩ (fun V1 hS => ?_)
        obtain ⟨hE, hbb, a0, a1, b0, b1, c0, c1, r0, r1, f0, f1, g0, g1⟩ := hS
        have hE' := hE
        clear hE
        have hE := Lib.hid hE'
        clear hE'
        refine (CO.out _).mono ?_
        rintro e w12 ⟨rfl, hb⟩
        replace a0 := keepC hb a0
        replace a1 := keepC hb a1
        replace b0 := keepC hb b0
        replace b1 := keepC hb b1
        replace c0 := keepC hb c0
        replace c1 := keepC hb c1
        replace r0 := keepC hb r0
        replace r1 := keepC hb r1
        replace f0 := keepC hb f0
        replace f1 := keepC hb f1
        replace g0 := keepC hb g0
        replace g1 := keepC hb g1
        replace hbb := keepB hbb hb
        have hE' := Lib.hid ((hE.out).keep hb)
        clear hE
        have hE := hE'
        clear hE'
        clear hb
        have l1 := lt_of_cell a0
        have l2 := lt_of_cell b0
        have l3 := lt_of_cell c0
        have l4 := lt_of_cell r0
        have l5 := lt_of_cell f0
        have l6 := lt_of_cell g0
        go_wp2_with fail
        refine at_worldR (fun v => Env v ∧ Below w.heap.size w v ∧ v.cell? ⟨w.heap.size, 0, none⟩ = some (.int .i64 n) ∧ v.cell? ⟨w.heap.size, 1, none⟩ = some (.int .i64 d) ∧ v.cell? ⟨w.heap.size + 1, 0, none⟩ = some (.int .i64 m) ∧ v.cell? ⟨w.heap.size + 1, 1, none⟩ = some (.int .i64 c) ∧ v.cell? ⟨w.heap.size + 1 + 1, 0, none⟩ = some (.int .i64 p) ∧ v.cell? ⟨w.heap.size + 1 + 1, 1, none⟩ = some (.int .i64 q) ∧ v.cell? ⟨w2.heap.size, 0, none⟩ = some (.int .i64 R1) ∧ v.cell? ⟨w2.heap.size, 1, none⟩ = some (.int .i64 R2) ∧ v.cell? ⟨w8.heap.size, 0, none⟩ = some (.int .i64 Q1) ∧ v.cell? ⟨w8.heap.size, 1, none⟩ = some (.int .i64 Q2) ∧ v.cell? ⟨w11.heap.size, 0, none⟩ = some (.int .i64 N1) ∧ v.cell? ⟨w11.heap.size, 1, none⟩ = some (.int .i64 N2) ∧ v.cell? ⟨w12.heap.size, 0, none⟩ = some (.int .i64 O1) ∧ v.cell? ⟨w12.heap.size, 1, none⟩ = some (.int .i64 O2)) ⟨(hE.out).keep (below_al (Below.refl _ _) _), below_al hbb _, cell_alloc a0 _, cell_alloc a1 _, cell_alloc b0 _, cell_alloc b1 _, cell_alloc c0 _, cell_alloc c1 _, cell_alloc r0 _, cell_alloc r1 _, cell_alloc f0 _, cell_alloc f1 _, cell_alloc g0 _, cell_alloc g1 _, n20 _ _ _ _, n21 _ _ _ _⟩ (fun V2 hS => ?_)
        obtain ⟨hE, hbb, a0, a1, b0, b1, c0, c1, r0, r1, f0, f1, g0, g1, o0, o1⟩ := hS
        have hE' := hE
        clear hE
        have hE := Lib.hid hE'
        clear hE'
        refine (CZ.out _).mono ?_
        rintro e w13 ⟨rfl, hb⟩
        replace a0 := keepC hb a0
        replace a1 := keepC hb a1
        replace b0 := keepC hb b0
        replace b1 := keepC hb b1
        replace c0 := keepC hb c0
        replace c1 := keepC hb c1
        replace r0 := keepC hb r0
        replace r1 := keepC hb r1
        replace f0 := keepC hb f0
        replace f1 := keepC hb f1
        replace g0 := keepC hb g0
        replace g1 := keepC hb g1
        replace o0 := keepC hb o0
        replace o1 := keepC hb o1
        replace hbb := keepB hbb hb
        have hE' := Lib.hid ((hE.out).keep hb)
        clear hE
        have hE := hE'
        clear hE'
        clear hb
        have l1 := lt_of_cell a0
        have l2 := lt_of_cell b0
        have l3 := lt_of_cell c0
        have l4 := lt_of_cell r0
        have l5 := lt_of_cell f0
        have l6 := lt_of_cell g0
        have l7 := lt_of_cell o0
        go_upto_region 21 with fail
        refine at_worldC (fun v => Env v ∧ Below w.heap.size w v ∧ v.cell? ⟨w.heap.size, 0, none⟩ = some (.int .i64 n) ∧ v.cell? ⟨w.heap.size, 1, none⟩ = some (.int .i64 d) ∧ v.cell? ⟨w.heap.size + 1, 0, none⟩ = some (.int .i64 m) ∧ v.cell? ⟨w.heap.size + 1, 1, none⟩ = some (.int .i64 c) ∧ v.cell? ⟨w.heap.size + 1 + 1, 0, none⟩ = some (.int .i64 p) ∧ v.cell? ⟨w.heap.size + 1 + 1, 1, none⟩ = some (.int .i64 q) ∧ v.cell? ⟨w2.heap.size, 0, none⟩ = some (.int .i64 R1) ∧ v.cell? ⟨w2.heap.size, 1, none⟩ = some (.int .i64 R2) ∧ v.cell? ⟨w8.heap.size, 0, none⟩ = some (.int .i64 Q1) ∧ v.cell? ⟨w8.heap.size, 1, none⟩ = some (.int .i64 Q2) ∧ v.cell? ⟨w11.heap.size, 0, none⟩ = some (.int .i64 N1) ∧ v.cell? ⟨w11.heap.size, 1, none⟩ = some (.int .i64 N2) ∧ v.cell? ⟨w12.heap.size, 0, none⟩ = some (.int .i64 O1) ∧ v.cell? ⟨w12.heap.size, 1, none⟩ = some (.int .i64 O2) ∧ v.cell? ⟨w13.heap.size, 0, none⟩ = some (.int .i64 Z1) ∧ v.cell? ⟨w13.heap.size, 1, none⟩ = some (.int .i64 Z2)) ⟨(hE.out).keep (below_al (Below.refl _ _) _), below_al hbb _, cell_alloc a0 _, cell_alloc a1 _, cell_alloc b0 _, cell_alloc b1 _, cell_alloc c0 _, cell_alloc c1 _, cell_alloc r0 _, cell_alloc r1 _, cell_alloc f0 _, cell_alloc f1 _, cell_alloc g0 _, cell_alloc g1 _, cell_alloc o0 _, cell_alloc o1 _, n20 _ _ _ _, n21 _ _ _ _⟩ (fun V71 hS => ?_)
        clear hE
        obtain ⟨hE, hbb, a0, a1, b0, b1, c0, c1, r0, r1, f0, f1, g0, g1, o0, o1, z0, z1⟩ := hS
        have hE' := Lib.hid hE
        clear hE
        have hE := hE'
        clear hE'
        go_cut [183] (fun s v => s = .bool false ∧ Env v ∧ Below w.heap.size w v ∧ v.cell? ⟨w.heap.size, 0, none⟩ = some (.int .i64 n) ∧ v.cell? ⟨w.heap.size, 1, none⟩ = some (.int .i64 d))
        case first =>
          by_cases gR3 : R3 = 0
          · by_cases gQ3 : Q3 = 0
            · by_cases gN3 : N3 = 0
              · obtain ⟨i1, i2, i3⟩ := F5.out gR3 gQ3 gN3
                subst i1 i2 i3 gR3 gQ3 gN3
                go_wp2_with fail
                all_goals
                  go_meet
                  exact ⟨rfl, hE.out, hbb, a0, a1⟩
              · have bN3 : (N3 == 0) = false := by rw [beq_eq_false_iff_ne]; exact gN3
                clear gN3
                go_wp2_with fail
                all_goals
                  go_meet
                  exact ⟨rfl, hE.out, hbb, a0, a1⟩
            · have bQ3 : (Q3 == 0) = false := by rw [beq_eq_false_iff_ne]; exact gQ3
              clear gQ3
              go_wp2_with fail
              all_goals
                go_meet
                exact ⟨rfl, hE.out, hbb, a0, a1⟩
          · have bR3 : (R3 == 0) = false := by rw [beq_eq_false_iff_ne]; exact gR3
            clear gR3
            go_wp2_with fail
            all_goals
              go_meet
              exact ⟨rfl, hE.out, hbb, a0, a1⟩
        case rest =>
          clear a0 a1 b0 b1 c0 c1 r0 r1 f0 f1 g0 g1 o0 o1 z0 z1 hbb hE
          obtain ⟨rfl, hE0, hbb, a0, a1⟩ := hcut
          have hE := Lib.hid hE0
          clear hE0
          go_wp2_with fail
          refine (alive_true _ (hE.out)).mono ?_
          rintro e w14 ⟨rfl, hb⟩
          replace a0 := keepC hb a0
          replace a1 := keepC hb a1
          replace hbb := keepB hbb hb
          have hE' := Lib.hid ((hE.out).keep hb)
          clear hE
          have hE := hE'
          clear hE'
          clear hb
          go_wp2
          go_ret
          exact ⟨rfl, hbb⟩

set_option maxHeartbeats 1000000 in
set_option maxRecDepth 100000 in
theorem laws_walk (n d m c p q : Int) (w : World) (n0 : -9223372036854775808 ≤ n) (n1 : n ≤ 9223372036854775807) (d0 : -9223372036854775808 ≤ d) (d1 : d ≤ 9223372036854775807) (m0 : -9223372036854775808 ≤ m) (m1 : m ≤ 9223372036854775807) (c0 : -9223372036854775808 ≤ c) (c1 : c ≤ 9223372036854775807) (p0 : -9223372036854775808 ≤ p) (p1 : p ≤ 9223372036854775807) (q0 : -9223372036854775808 ≤ q) (q1 : q ≤ 9223372036854775807) (E0 : Env w) :
    Calls Tryd.prog 6 #[.agg #[.int .i64 n, .int .i64 d], .agg #[.int .i64 m, .int .i64 c], .agg #[.int .i64 p, .int .i64 q]] w fun e w' => e = .returned (.bool true) ∧ Below w.heap.size w w' := by
  by_cases h : Rp.Ok n d ∧ Rp.Ok m c ∧ Rp.Ok p q
  · exact laws_valid n d m c p q w h.1 h.2.1 h.2.2 n0 n1 d0 d1 m0 m1 c0 c1 p0 p1 q0 q1 E0
  · have cv := fun w => valid_any n d m c p q w n0 n1 d0 d1 m0 m1 c0 c1 p0 p1 q0 q1
    rw [show Rp.vld n d m c p q = false from decide_eq_false h] at cv
    have CV := Lib.hid cv
    have E := Lib.hid E0
    clear cv h E0
    go_enter Tryd.func6, Tryd.ntmps6
    go_wp2_with fail
    refine (CV.out _).mono ?_
    rintro e w1 ⟨rfl, hb⟩
    have hbb : Below w.heap.size w w1 := keepB ((((Below.refl _ _).alloc (Nat.le_refl _) _).alloc (by simp) _).alloc (by simp; omega) _) hb
    have hE := Lib.hid (((E.out).keep ((((Below.refl _ _).alloc (Nat.le_refl _) _).alloc (by simp) _).alloc (by simp; omega) _)).keep hb)
    clear hb
    go_wp2_with fail
    refine (alive_true _ (hE.out)).mono ?_
    rintro e w2 ⟨rfl, hb⟩
    replace hbb := keepB hbb hb
    have hE' := Lib.hid ((hE.out).keep hb)
    clear hE
    have hE := hE'
    clear hE'
    clear hb
    go_wp2
    go_ret
    exact ⟨rfl, hbb⟩
end Go.Proofs.YtkphaclfapkfoaaDoor
