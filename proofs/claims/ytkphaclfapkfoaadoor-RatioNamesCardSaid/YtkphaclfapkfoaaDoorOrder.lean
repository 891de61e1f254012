/- The walk of the law RatioOrder: it answers true for any three ratios. -/
import Derived.Test.YtkphaclfapkfoaaDoorAlive
import Derived.Test.YtkphaclfapkfoaaDoorLaws
namespace Go.Proofs.YtkphaclfapkfoaaDoor
open Go.RowKit

theorem at_worldC {P : Program} {c : Code} {Q : Exit → Act → World → Prop} {a : Act} {w : World} (S : World → Prop) (h : S w) (k : ∀ V, S V → Code.wp P c Q a V) : Code.wp P c Q a w := k w h

set_option maxHeartbeats 16000000 in
set_option maxRecDepth 100000 in
theorem order_valid (n d m c p q : Int) (w : World) (h : Rp.Ok n d) (k : Rp.Ok m c) (l : Rp.Ok p q) (n0 : -9223372036854775808 ≤ n) (n1 : n ≤ 9223372036854775807) (d0 : -9223372036854775808 ≤ d) (d1 : d ≤ 9223372036854775807) (m0 : -9223372036854775808 ≤ m) (m1 : m ≤ 9223372036854775807) (c0 : -9223372036854775808 ≤ c) (c1 : c ≤ 9223372036854775807) (p0 : -9223372036854775808 ≤ p) (p1 : p ≤ 9223372036854775807) (q0 : -9223372036854775808 ≤ q) (q1 : q ≤ 9223372036854775807) (E0 : Env w) :
    Calls Tryd.prog 7 #[.agg #[.int .i64 n, .int .i64 d], .agg #[.int .i64 m, .int .i64 c], .agg #[.int .i64 p, .int .i64 q]] w fun e w' => e = .returned (.bool true) ∧ Below w.heap.size w w' := by
  have cv := fun w => valid_any n d m c p q w n0 n1 d0 d1 m0 m1 c0 c1 p0 p1 q0 q1
  rw [show Rp.vld n d m c p q = true from decide_eq_true ⟨h, k, l⟩] at cv
  have k1 := fun w => Cmp_any n d m c w n0 n1 d0 d1 m0 m1 c0 c1
  have k2 := fun w => Cmp_any m c n d w m0 m1 c0 c1 n0 n1 d0 d1
  have k3 := fun w => Cmp_any m c p q w m0 m1 c0 c1 p0 p1 q0 q1
  have k4 := fun w => Cmp_any n d p q w n0 n1 d0 d1 p0 p1 q0 q1
  have a1 := fun w => Add_any n d p q w n0 n1 d0 d1 p0 p1 q0 q1
  have a2 := fun w => Add_any m c p q w m0 m1 c0 c1 p0 p1 q0 q1
  have fl := fun w => Floor_any n d w n0 n1 d0 d1
  rw [Rp.cmpS_ok h k] at k1
  rw [Rp.cmpS_ok k h, Rp.cmp_neg (Rp.q n d) (Rp.q m c)] at k2
  rw [Rp.cmpS_ok k l] at k3
  rw [Rp.cmpS_ok h l] at k4
  rw [Rp.addS_ok h l] at a1
  rw [Rp.addS_ok k l] at a2
  rw [Rp.floorS_ok h] at fl
  obtain ⟨F0, F1⟩ := Rp.floor_bounds h
  have hx : (Rp.cmpQ (Rp.q n d) (Rp.q m c) = 1 ∧ ¬ (n = m ∧ d = c)) ∨ (Rp.cmpQ (Rp.q n d) (Rp.q m c) = -1 ∧ ¬ (n = m ∧ d = c)) ∨ (Rp.cmpQ (Rp.q n d) (Rp.q m c) = 0 ∧ n = m ∧ d = c) := by
    rcases Rp.cmp_cases (Rp.q n d) (Rp.q m c) with ⟨e, g⟩ | ⟨e, g⟩ | ⟨e, g⟩
    · exact .inr (.inl ⟨e, fun ⟨e1, e2⟩ => by subst e1; subst e2; exact Rat.lt_irrefl g⟩)
    · exact .inr (.inr ⟨e, Rp.q_inj h k g⟩)
    · exact .inl ⟨e, fun ⟨e1, e2⟩ => by subst e1; subst e2; exact Rat.lt_irrefl g⟩
  have ht := Rp.cmp_trans (Rp.q n d) (Rp.q m c) (Rp.q p q)
  have k5 : ∀ R1 R2 R3 T1 T2 T3, Rp.ofQ (Rp.q n d + Rp.q p q) = (R1, R2, R3) → Rp.ofQ (Rp.q m c + Rp.q p q) = (T1, T2, T3) → R3 = 0 → T3 = 0 → ∀ w, Calls Tryd.prog 14 #[.agg #[.int .i64 R1, .int .i64 R2], .agg #[.int .i64 T1, .int .i64 T2]] w fun e w' => e = .returned (.tuple #[.int .i64 (Rp.cmpQ (Rp.q n d) (Rp.q m c)), .int .i64 0]) ∧ Below w.heap.size w w' := by
    intro R1 R2 R3 T1 T2 T3 e1 e2 z1 z2 w
    obtain ⟨o1, v1⟩ := Rp.ofQ_ok e1 z1
    obtain ⟨o2, v2⟩ := Rp.ofQ_ok e2 z2
    have o1' := o1
    have o2' := o2
    obtain ⟨x1, x2, x3, x4, _⟩ := o1'
    obtain ⟨y1, y2, y3, y4, _⟩ := o2'
    have cc := Cmp_any R1 R2 T1 T2 w (by omega) (by omega) (by omega) (by omega) (by omega) (by omega) (by omega) (by omega)
    rw [Rp.cmpS_ok o1 o2, v1, v2, Rp.cmp_add] at cc
    exact cc
  have k6 := fun w => Cmp_any (n / d) 1 n d w (by omega) (by omega) (by omega) (by omega) n0 n1 d0 d1
  rw [Rp.cmpS_ok (Rp.Ok_one F0 F1) h] at k6
  have hlo := Rp.floor_low h
  have hgr := fun g => Rp.floor_great (n := n) (d := d) h g
  have k7 : ¬ n / d = 1000000000000000000 → ∀ w, Calls Tryd.prog 14 #[.agg #[.int .i64 n, .int .i64 d], .agg #[.int .i64 (n / d + 1), .int .i64 1]] w fun e w' => e = .returned (.tuple #[.int .i64 (-1), .int .i64 0]) ∧ Below w.heap.size w w' := by
    intro g w
    have cc := Cmp_any n d (n / d + 1) 1 w n0 n1 d0 d1 (by omega) (by omega) (by omega) (by omega)
    rw [Rp.cmpS_ok h (Rp.Ok_one (by omega) (by omega)), Rp.floor_high h g] at cc
    exact cc
  generalize hR : Rp.ofQ (Rp.q n d + Rp.q p q) = R at *
  generalize hT : Rp.ofQ (Rp.q m c + Rp.q p q) = T at *
  obtain ⟨R1, R2, R3⟩ := R
  obtain ⟨T1, T2, T3⟩ := T
  replace k5 := k5 R1 R2 R3 T1 T2 T3 rfl rfl
  generalize Rp.cmpQ (Rp.q n d) (Rp.q m c) = x at *
  generalize Rp.cmpQ (Rp.q m c) (Rp.q p q) = z at *
  generalize Rp.cmpQ (Rp.q n d) (Rp.q p q) = u at *
  generalize Rp.cmpQ (Rp.q (n / d) 1) (Rp.q n d) = lo at *
  generalize n / d = F at *
  dsimp only at k1 k2 k3 k4 a1 a2 fl k6
  have CV := Lib.hid cv
  have K1 := Lib.hid k1
  have K2 := Lib.hid k2
  have K3 := Lib.hid k3
  have K4 := Lib.hid k4
  have K5 := Lib.hid k5
  have K6 := Lib.hid k6
  have K7 := Lib.hid k7
  have A1 := Lib.hid a1
  have A2 := Lib.hid a2
  have FL := Lib.hid fl
  have HX := Lib.hid hx
  have HT := Lib.hid ht
  have HLO := Lib.hid hlo
  have HGR := Lib.hid hgr
  have E := Lib.hid E0
  clear cv k1 k2 k3 k4 k5 k6 k7 a1 a2 fl hx ht hlo hgr E0 hR hT h k l m0 m1 c0 c1 p0 p1 q0 q1 d0 d1 n0 n1
  go_enter Tryd.func7, Tryd.ntmps7
  go_wp2_with fail
  refine (CV.out _).mono ?_
  rintro e w1 ⟨rfl, hb⟩
  have a0 : w1.cell? ⟨w.heap.size, 0, none⟩ = some (.int .i64 n) := keepC hb (by go_simp)
  have a1 : w1.cell? ⟨w.heap.size, 1, none⟩ = some (.int .i64 d) := keepC hb (by go_simp)
  have b0 : w1.cell? ⟨w.heap.size + 1, 0, none⟩ = some (.int .i64 m) := keepC hb (by go_simp)
  have b1 : w1.cell? ⟨w.heap.size + 1, 1, none⟩ = some (.int .i64 c) := keepC hb (by go_simp)
  have c0 : w1.cell? ⟨w.heap.size + 1 + 1, 0, none⟩ = some (.int .i64 p) := keepC hb (by go_simp)
  have c1 : w1.cell? ⟨w.heap.size + 1 + 1, 1, none⟩ = some (.int .i64 q) := keepC hb (by go_simp)
  have hbb : Below w.heap.size w w1 := keepB ((((Below.refl _ _).alloc (Nat.le_refl _) _).alloc (by simp) _).alloc (by simp; omega) _) hb
  have hE := Lib.hid (((E.out).keep ((((Below.refl _ _).alloc (Nat.le_refl _) _).alloc (by simp) _).alloc (by simp; omega) _)).keep hb)
  clear hb
  go_wp2_with fail
  refine (K1.out _).mono ?_
  rintro e w2 ⟨rfl, hb⟩
  replace a0 := keepC hb a0
  replace a1 := keepC hb a1
  replace b0 := keepC hb b0
  replace b1 := keepC hb b1
  replace c0 := keepC hb c0
  replace c1 := keepC hb c1
  replace hbb := keepB hbb hb
  have hE' := Lib.hid ((hE.out).keep hb)
  clear hE
  have hE := hE'
  clear hE'
  clear hb
  go_wp2_with fail
  refine (K2.out _).mono ?_
  rintro e w3 ⟨rfl, hb⟩
  replace a0 := keepC hb a0
  replace a1 := keepC hb a1
  replace b0 := keepC hb b0
  replace b1 := keepC hb b1
  replace c0 := keepC hb c0
  replace c1 := keepC hb c1
  replace hbb := keepB hbb hb
  have hE' := Lib.hid ((hE.out).keep hb)
  clear hE
  have hE := hE'
  clear hE'
  clear hb
  go_wp2_with fail
  refine (K3.out _).mono ?_
  rintro e w4 ⟨rfl, hb⟩
  replace a0 := keepC hb a0
  replace a1 := keepC hb a1
  replace b0 := keepC hb b0
  replace b1 := keepC hb b1
  replace c0 := keepC hb c0
  replace c1 := keepC hb c1
  replace hbb := keepB hbb hb
  have hE' := Lib.hid ((hE.out).keep hb)
  clear hE
  have hE := hE'
  clear hE'
  clear hb
  go_wp2_with fail
  refine (K4.out _).mono ?_
  rintro e w5 ⟨rfl, hb⟩
  replace a0 := keepC hb a0
  replace a1 := keepC hb a1
  replace b0 := keepC hb b0
  replace b1 := keepC hb b1
  replace c0 := keepC hb c0
  replace c1 := keepC hb c1
  replace hbb := keepB hbb hb
  have hE' := Lib.hid ((hE.out).keep hb)
  clear hE
  have hE := hE'
  clear hE'
  clear hb
  go_upto_region 7 with fail
  have hE' := hE.out
  clear hE
  go_cut [104] (fun s v => s = .bool false ∧ Env v ∧ Below w.heap.size w v ∧ v.cell? ⟨w.heap.size, 0, none⟩ = some (.int .i64 n) ∧ v.cell? ⟨w.heap.size, 1, none⟩ = some (.int .i64 d) ∧ v.cell? ⟨w.heap.size + 1, 0, none⟩ = some (.int .i64 m) ∧ v.cell? ⟨w.heap.size + 1, 1, none⟩ = some (.int .i64 c) ∧ v.cell? ⟨w.heap.size + 1 + 1, 0, none⟩ = some (.int .i64 p) ∧ v.cell? ⟨w.heap.size + 1 + 1, 1, none⟩ = some (.int .i64 q))
  case first =>
    have hE' := Lib.hid hE'
    rcases HX.out with ⟨rfl, hne⟩ | ⟨rfl, hne⟩ | ⟨rfl, rfl, rfl⟩
    · by_cases g : n = m
      · have g' : (d == c) = false := by rw [beq_eq_false_iff_ne]; exact fun e => hne ⟨g, e⟩
        subst g
        clear hne
        go_wp2_with fail
        all_goals
          go_meet
          exact ⟨rfl, hE'.out, hbb, a0, a1, b0, b1, c0, c1⟩
      · have g' : (n == m) = false := by rw [beq_eq_false_iff_ne]; exact g
        clear hne g
        go_wp2_with fail
        all_goals
          go_meet
          exact ⟨rfl, hE'.out, hbb, a0, a1, b0, b1, c0, c1⟩
    · by_cases gz : z ≤ 0
      · have gu : u ≤ 0 := HT.out (by decide) gz
        have gu' : ¬ 0 < u := by omega
        by_cases g : n = m
        · have g' : (d == c) = false := by rw [beq_eq_false_iff_ne]; exact fun e => hne ⟨g, e⟩
          subst g
          clear hne
          go_wp2_with fail
          all_goals
            go_meet
            exact ⟨rfl, hE'.out, hbb, a0, a1, b0, b1, c0, c1⟩
        · have g' : (n == m) = false := by rw [beq_eq_false_iff_ne]; exact g
          clear hne g
          go_wp2_with fail
          all_goals
            go_meet
            exact ⟨rfl, hE'.out, hbb, a0, a1, b0, b1, c0, c1⟩
      · by_cases g : n = m
        · have g' : (d == c) = false := by rw [beq_eq_false_iff_ne]; exact fun e => hne ⟨g, e⟩
          subst g
          clear hne
          go_wp2_with fail
          all_goals
            go_meet
            exact ⟨rfl, hE'.out, hbb, a0, a1, b0, b1, c0, c1⟩
        · have g' : (n == m) = false := by rw [beq_eq_false_iff_ne]; exact g
          clear hne g
          go_wp2_with fail
          all_goals
            go_meet
            exact ⟨rfl, hE'.out, hbb, a0, a1, b0, b1, c0, c1⟩
    · by_cases gz : z ≤ 0
      · have gu : u ≤ 0 := HT.out (by decide) gz
        have gu' : ¬ 0 < u := by omega
        go_wp2_with fail
        all_goals
          go_meet
          exact ⟨rfl, hE'.out, hbb, a0, a1, b0, b1, c0, c1⟩
      · skip
        go_wp2_with fail
        all_goals
          go_meet
          exact ⟨rfl, hE'.out, hbb, a0, a1, b0, b1, c0, c1⟩
  case rest =>
    clear a0 a1 b0 b1 c0 c1 hbb hE' HX HT
    obtain ⟨rfl, hE0, hbb, a0, a1, b0, b1, c0, c1⟩ := hcut
    have hE := Lib.hid hE0
    clear hE0
    go_wp2_with fail
    refine (A1.out _).mono ?_
    rintro e w6 ⟨rfl, hb⟩
    replace a0 := keepC hb a0
    replace a1 := keepC hb a1
    replace b0 := keepC hb b0
    replace b1 := keepC hb b1
    replace c0 := keepC hb c0
    replace c1 := keepC hb c1
    replace hbb := keepB hbb hb
    have hE' := Lib.hid ((hE.out).keep hb)
    clear hE
    have hE := hE'
    clear hE'
    clear hb
    have l1 := lt_of_cell a0
    have l2 := lt_of_cell b0
    have l3 := lt_of_cell c0
    go_wp2_with fail
    refine at_worldR (fun v => Env v ∧ Below w.heap.size w v ∧ v.cell? ⟨w.heap.size, 0, none⟩ = some (.int .i64 n) ∧ v.cell? ⟨w.heap.size, 1, none⟩ = some (.int .i64 d) ∧ v.cell? ⟨w.heap.size + 1, 0, none⟩ = some (.int .i64 m) ∧ v.cell? ⟨w.heap.size + 1, 1, none⟩ = some (.int .i64 c) ∧ v.cell? ⟨w.heap.size + 1 + 1, 0, none⟩ = some (.int .i64 p) ∧ v.cell? ⟨w.heap.size + 1 + 1, 1, none⟩ = some (.int .i64 q) ∧ v.cell? ⟨w6.heap.size, 0, none⟩ = some (.int .i64 R1) ∧ v.cell? ⟨w6.heap.size, 1, none⟩ = some (.int .i64 R2)) ⟨(hE.out).keep (below_al (Below.refl _ _) _), below_al hbb _, cell_alloc a0 _, cell_alloc a1 _, cell_alloc b0 _, cell_alloc b1 _, cell_alloc c0 _, cell_alloc c1 _, n20 _ _ _ _, n21 _ _ _ _⟩ (fun V1 hS => ?_)
    obtain ⟨hE, hbb, a0, a1, b0, b1, c0, c1, r0, r1⟩ := hS
    have hE' := hE
    clear hE
    have hE := Lib.hid hE'
    clear hE'
    refine (A2.out _).mono ?_
    rintro e w7 ⟨rfl, hb⟩
    replace a0 := keepC hb a0
    replace a1 := keepC hb a1
    replace b0 := keepC hb b0
    replace b1 := keepC hb b1
    replace c0 := keepC hb c0
    replace c1 := keepC hb c1
    replace r0 := keepC hb r0
    replace r1 := keepC hb r1
    replace hbb := keepB hbb hb
    have hE' := Lib.hid ((hE.out).keep hb)
    clear hE
    have hE := hE'
    clear hE'
    clear hb
    have l1 := lt_of_cell a0
    have l2 := lt_of_cell b0
    have l3 := lt_of_cell c0
    have l4 := lt_of_cell r0
    go_upto_region 11 with fail
    refine at_worldC (fun v => Env v ∧ Below w.heap.size w v ∧ v.cell? ⟨w.heap.size, 0, none⟩ = some (.int .i64 n) ∧ v.cell? ⟨w.heap.size, 1, none⟩ = some (.int .i64 d) ∧ v.cell? ⟨w.heap.size + 1, 0, none⟩ = some (.int .i64 m) ∧ v.cell? ⟨w.heap.size + 1, 1, none⟩ = some (.int .i64 c) ∧ v.cell? ⟨w.heap.size + 1 + 1, 0, none⟩ = some (.int .i64 p) ∧ v.cell? ⟨w.heap.size + 1 + 1, 1, none⟩ = some (.int .i64 q) ∧ v.cell? ⟨w6.heap.size, 0, none⟩ = some (.int .i64 R1) ∧ v.cell? ⟨w6.heap.size, 1, none⟩ = some (.int .i64 R2) ∧ v.cell? ⟨w7.heap.size, 0, none⟩ = some (.int .i64 T1) ∧ v.cell? ⟨w7.heap.size, 1, none⟩ = some (.int .i64 T2)) ⟨(hE.out).keep (below_al (Below.refl _ _) _), below_al hbb _, cell_alloc a0 _, cell_alloc a1 _, cell_alloc b0 _, cell_alloc b1 _, cell_alloc c0 _, cell_alloc c1 _, cell_alloc r0 _, cell_alloc r1 _, n20 _ _ _ _, n21 _ _ _ _⟩ (fun V9 hS => ?_)
    clear hE
    obtain ⟨hE, hbb, a0, a1, b0, b1, c0, c1, r0, r1, t0, t1⟩ := hS
    obtain ⟨bR, hbR⟩ : ∃ b : Bool, b = decide (R3 = 0 ∧ T3 = 0) := ⟨_, rfl⟩
    have HB := Lib.hid hbR
    clear hbR
    go_cut [122] (fun s v => s = .bool bR ∧ Env v ∧ Below w.heap.size w v ∧ v.cell? ⟨w.heap.size, 0, none⟩ = some (.int .i64 n) ∧ v.cell? ⟨w.heap.size, 1, none⟩ = some (.int .i64 d) ∧ v.cell? ⟨w.heap.size + 1, 0, none⟩ = some (.int .i64 m) ∧ v.cell? ⟨w.heap.size + 1, 1, none⟩ = some (.int .i64 c) ∧ v.cell? ⟨w.heap.size + 1 + 1, 0, none⟩ = some (.int .i64 p) ∧ v.cell? ⟨w.heap.size + 1 + 1, 1, none⟩ = some (.int .i64 q) ∧ v.cell? ⟨w6.heap.size, 0, none⟩ = some (.int .i64 R1) ∧ v.cell? ⟨w6.heap.size, 1, none⟩ = some (.int .i64 R2) ∧ v.cell? ⟨w7.heap.size, 0, none⟩ = some (.int .i64 T1) ∧ v.cell? ⟨w7.heap.size, 1, none⟩ = some (.int .i64 T2))
    case first =>
      have hE := Lib.hid hE
      by_cases g1 : R3 = 0
      · by_cases g2 : T3 = 0
        · have e : bR = true := by rw [HB.out]; exact decide_eq_true ⟨g1, g2⟩
          subst g1 g2
          go_wp2_with fail
          all_goals
            go_meet
            exact ⟨congrArg Value.bool e.symm, hE.out, hbb, a0, a1, b0, b1, c0, c1, r0, r1, t0, t1⟩
        · have e : bR = false := by rw [HB.out]; exact decide_eq_false (fun h => g2 h.2)
          have g3 : (T3 == 0) = false := by rw [beq_eq_false_iff_ne]; exact g2
          subst g1
          clear g2
          go_wp2_with fail
          all_goals
            go_meet
            exact ⟨congrArg Value.bool e.symm, hE.out, hbb, a0, a1, b0, b1, c0, c1, r0, r1, t0, t1⟩
      · have e : bR = false := by rw [HB.out]; exact decide_eq_false (fun h => g1 h.1)
        have g3 : (R3 == 0) = false := by rw [beq_eq_false_iff_ne]; exact g1
        clear g1
        go_wp2_with fail
        all_goals
          go_meet
          exact ⟨congrArg Value.bool e.symm, hE.out, hbb, a0, a1, b0, b1, c0, c1, r0, r1, t0, t1⟩
    case rest =>
    clear a0 a1 b0 b1 c0 c1 r0 r1 t0 t1 hbb hE
    obtain ⟨rfl, hE0, hbb, a0, a1, b0, b1, c0, c1, r0, r1, t0, t1⟩ := hcut
    have hE := Lib.hid hE0
    clear hE0
    go_upto_if 122 with fail
    go_cut [6] (fun s v => s = .bool false ∧ Env v ∧ Below w.heap.size w v ∧ v.cell? ⟨w.heap.size, 0, none⟩ = some (.int .i64 n) ∧ v.cell? ⟨w.heap.size, 1, none⟩ = some (.int .i64 d) ∧ v.cell? ⟨w.heap.size + 1, 0, none⟩ = some (.int .i64 m) ∧ v.cell? ⟨w.heap.size + 1, 1, none⟩ = some (.int .i64 c) ∧ v.cell? ⟨w.heap.size + 1 + 1, 0, none⟩ = some (.int .i64 p) ∧ v.cell? ⟨w.heap.size + 1 + 1, 1, none⟩ = some (.int .i64 q))
    case first =>
      cases bR
      · go_wp2_with fail
        all_goals
          go_meet
          exact ⟨rfl, hE.out, hbb, a0, a1, b0, b1, c0, c1⟩
      · have hh := of_decide_eq_true HB.out.symm
        have k5 := K5.out hh.1 hh.2
        have K5 := Lib.hid k5
        clear k5 hh
        go_wp2_with fail
        refine (K5.out _).mono ?_
        rintro e w8 ⟨rfl, hb⟩
        replace a0 := keepC hb a0
        replace a1 := keepC hb a1
        replace b0 := keepC hb b0
        replace b1 := keepC hb b1
        replace c0 := keepC hb c0
        replace c1 := keepC hb c1
        replace r0 := keepC hb r0
        replace r1 := keepC hb r1
        replace t0 := keepC hb t0
        replace t1 := keepC hb t1
        replace hbb := keepB hbb hb
        have hE' := Lib.hid ((hE.out).keep hb)
        clear hE
        have hE := hE'
        clear hE'
        clear hb
        go_wp2_with fail
        all_goals
          go_meet
          exact ⟨rfl, hE.out, hbb, a0, a1, b0, b1, c0, c1⟩
    case rest =>
      clear a0 a1 b0 b1 c0 c1 r0 r1 t0 t1 hbb hE K5
      obtain ⟨rfl, hE0, hbb, a0, a1, b0, b1, c0, c1⟩ := hcut
      have hE := Lib.hid hE0
      clear hE0
      go_wp2_with fail
      refine (FL.out _).mono ?_
      rintro e w9 ⟨rfl, hb⟩
      replace a0 := keepC hb a0
      replace a1 := keepC hb a1
      replace b0 := keepC hb b0
      replace b1 := keepC hb b1
      replace c0 := keepC hb c0
      replace c1 := keepC hb c1
      replace hbb := keepB hbb hb
      have hE' := Lib.hid ((hE.out).keep hb)
      clear hE
      have hE := hE'
      clear hE'
      clear hb
      go_wp2_with fail
      refine (K6.out _).mono ?_
      rintro e w10 ⟨rfl, hb⟩
      replace a0 := keepC hb a0
      replace a1 := keepC hb a1
      replace b0 := keepC hb b0
      replace b1 := keepC hb b1
      replace c0 := keepC hb c0
      replace c1 := keepC hb c1
      replace hbb := keepB hbb hb
      have hE' := Lib.hid ((hE.out).keep hb)
      clear hE
      have hE := hE'
      clear hE'
      clear hb
      rcases HLO.out with rfl | ⟨rfl, rfl⟩
      · by_cases hF : F = 1000000000000000000
        · have hd := HGR.out hF
          subst hF hd
          have hb : ((1000000000000000000 : Int) == 1000000000000000000) = true := rfl
          go_wp2_with fail
          refine (alive_true _ (hE.out)).mono ?_
          rintro e w11 ⟨rfl, hb⟩
          replace a0 := keepC hb a0
          replace a1 := keepC hb a1
          replace b0 := keepC hb b0
          replace b1 := keepC hb b1
          replace c0 := keepC hb c0
          replace c1 := keepC hb c1
          replace hbb := keepB hbb hb
          have hE' := Lib.hid ((hE.out).keep hb)
          clear hE
          have hE := hE'
          clear hE'
          clear hb
          go_wp2
          go_ret
          exact ⟨rfl, hbb⟩
        · have hb : (F == 1000000000000000000) = false := by rw [beq_eq_false_iff_ne]; exact hF
          have k7 := K7.out hF
          have K7 := Lib.hid k7
          clear k7 hF
          go_wp2_with fail
          refine (K7.out _).mono ?_
          rintro e w11 ⟨rfl, hb⟩
          replace a0 := keepC hb a0
          replace a1 := keepC hb a1
          replace b0 := keepC hb b0
          replace b1 := keepC hb b1
          replace c0 := keepC hb c0
          replace c1 := keepC hb c1
          replace hbb := keepB hbb hb
          have hE' := Lib.hid ((hE.out).keep hb)
          clear hE
          have hE := hE'
          clear hE'
          clear hb
          go_wp2_with fail
          refine (alive_true _ (hE.out)).mono ?_
          rintro e w12 ⟨rfl, hb⟩
          replace a0 := keepC hb a0
          replace a1 := keepC hb a1
          replace b0 := keepC hb b0
          replace b1 := keepC hb b1
          replace c0 := keepC hb c0
          replace c1 := keepC hb c1
          replace hbb := keepB hbb hb
          have hE' := Lib.hid ((hE.out).keep hb)
          clear hE
          have hE := hE'
          clear hE'
          clear hb
          go_wp2
          go_ret
          exact ⟨rfl, hbb⟩
      · by_cases hF : F = 1000000000000000000
        · subst hF
          go_wp2_with fail
          refine (alive_true _ (hE.out)).mono ?_
          rintro e w11 ⟨rfl, hb⟩
          replace a0 := keepC hb a0
          replace a1 := keepC hb a1
          replace b0 := keepC hb b0
          replace b1 := keepC hb b1
          replace c0 := keepC hb c0
          replace c1 := keepC hb c1
          replace hbb := keepB hbb hb
          have hE' := Lib.hid ((hE.out).keep hb)
          clear hE
          have hE := hE'
          clear hE'
          clear hb
          go_wp2
          go_ret
          exact ⟨rfl, hbb⟩
        · have hb : (F == 1000000000000000000) = false := by rw [beq_eq_false_iff_ne]; exact hF
          have k7 := K7.out hF
          have K7 := Lib.hid k7
          clear k7 hF
          go_wp2_with fail
          refine (K7.out _).mono ?_
          rintro e w11 ⟨rfl, hb⟩
          replace a0 := keepC hb a0
          replace a1 := keepC hb a1
          replace b0 := keepC hb b0
          replace b1 := keepC hb b1
          replace c0 := keepC hb c0
          replace c1 := keepC hb c1
          replace hbb := keepB hbb hb
          have hE' := Lib.hid ((hE.out).keep hb)
          clear hE
          have hE := hE'
          clear hE'
          clear hb
          go_wp2_with fail
          refine (alive_true _ (hE.out)).mono ?_
          rintro e w12 ⟨rfl, hb⟩
          replace a0 := keepC hb a0
          replace a1 := keepC hb a1
          replace b0 := keepC hb b0
          replace b1 := keepC hb b1
          replace c0 := keepC hb c0
          replace c1 := keepC hb c1
          replace hbb := keepB hbb hb
          have hE' := Lib.hid ((hE.out).keep hb)
          clear hE
          have hE := hE'
          clear hE'
          clear hb
          go_wp2
          go_ret
          exact ⟨rfl, hbb⟩

set_option maxHeartbeats 1000000 in
set_option maxRecDepth 100000 in
theorem order_walk (n d m c p q : Int) (w : World) (n0 : -9223372036854775808 ≤ n) (n1 : n ≤ 9223372036854775807) (d0 : -9223372036854775808 ≤ d) (d1 : d ≤ 9223372036854775807) (m0 : -9223372036854775808 ≤ m) (m1 : m ≤ 9223372036854775807) (c0 : -9223372036854775808 ≤ c) (c1 : c ≤ 9223372036854775807) (p0 : -9223372036854775808 ≤ p) (p1 : p ≤ 9223372036854775807) (q0 : -9223372036854775808 ≤ q) (q1 : q ≤ 9223372036854775807) (E0 : Env w) :
    Calls Tryd.prog 7 #[.agg #[.int .i64 n, .int .i64 d], .agg #[.int .i64 m, .int .i64 c], .agg #[.int .i64 p, .int .i64 q]] w fun e w' => e = .returned (.bool true) ∧ Below w.heap.size w w' := by
  by_cases h : Rp.Ok n d ∧ Rp.Ok m c ∧ Rp.Ok p q
  · exact order_valid n d m c p q w h.1 h.2.1 h.2.2 n0 n1 d0 d1 m0 m1 c0 c1 p0 p1 q0 q1 E0
  · have cv := fun w => valid_any n d m c p q w n0 n1 d0 d1 m0 m1 c0 c1 p0 p1 q0 q1
    rw [show Rp.vld n d m c p q = false from decide_eq_false h] at cv
    have CV := Lib.hid cv
    have E := Lib.hid E0
    clear cv h E0
    go_enter Tryd.func7, Tryd.ntmps7
    go_wp2_with fail
    refine (CV.out _).mono ?_
    rintro e w1 ⟨rfl, hb⟩
    have hbb : Below w.heap.size w w1 := keepB ((((Below.refl _ _).alloc (Nat.le_refl _) _).alloc (by simp) _).alloc (by simp; omega) _) hb
    have hE := Lib.hid (((E.out).keep ((((Below.refl _ _).alloc (Nat.le_refl _) _).alloc (by simp) _).alloc (by simp; omega) _)).keep hb)
    clear hb
    go_wp2_with fail
    refine (alive_true _ (hE.out)).mono ?_
    rintro e w2 ⟨rfl, hb⟩
    replace hbb := keepB hbb hb
    have hE' := Lib.hid ((hE.out).keep hb)
    clear hE
    have hE := hE'
    clear hE'
    clear hb
    go_wp2
    go_ret
    exact ⟨rfl, hbb⟩
end Go.Proofs.YtkphaclfapkfoaaDoor
