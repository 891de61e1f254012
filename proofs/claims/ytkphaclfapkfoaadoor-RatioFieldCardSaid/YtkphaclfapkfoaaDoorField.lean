/- The walk of the law RatioField: it answers true for any two ratios. -/
import Derived.Test.YtkphaclfapkfoaaDoorOrder
import Derived.Test.YtkphaclfapkfoaaDoorInv
namespace Go.Proofs.YtkphaclfapkfoaaDoor
open Go.RowKit

set_option maxHeartbeats 16000000 in
set_option maxRecDepth 100000 in
theorem field_valid (n d m c : Int) (w : World) (h : Rp.Ok n d) (k : Rp.Ok m c) (n0 : -9223372036854775808 ≤ n) (n1 : n ≤ 9223372036854775807) (d0 : -9223372036854775808 ≤ d) (d1 : d ≤ 9223372036854775807) (m0 : -9223372036854775808 ≤ m) (m1 : m ≤ 9223372036854775807) (c0 : -9223372036854775808 ≤ c) (c1 : c ≤ 9223372036854775807) (E0 : Env w) :
    Calls Tryd.prog 5 #[.agg #[.int .i64 n, .int .i64 d], .agg #[.int .i64 m, .int .i64 c]] w fun e w' => e = .returned (.bool true) ∧ Below w.heap.size w w' := by
  have cv := fun w => valid_any n d m c n d w n0 n1 d0 d1 m0 m1 c0 c1 n0 n1 d0 d1
  rw [show Rp.vld n d m c n d = true from decide_eq_true ⟨h, k, h⟩] at cv
  have a1 := fun w => Add_any n d m c w n0 n1 d0 d1 m0 m1 c0 c1
  have a2 := fun w => Add_any m c n d w m0 m1 c0 c1 n0 n1 d0 d1
  have m1' := fun w => Mul_any n d m c w n0 n1 d0 d1 m0 m1 c0 c1
  have m2' := fun w => Mul_any m c n d w m0 m1 c0 c1 n0 n1 d0 d1
  have s1 := fun w => Sub_any n d m c w n0 n1 d0 d1 m0 m1 c0 c1
  have dv := fun w => Div_any n d m c w n0 n1 d0 d1 m0 m1 c0 c1
  have tx := fun w => Text_any n d w n0 n1 d0 d1
  rw [show Rp.txtS n d = (Rp.txt n d, 0) by unfold Rp.txtS; rw [if_pos h]] at tx
  have hlen : (⟨(Rp.txt n d).toArray⟩ : ByteArray).size < 4294967281 := by
    show Array.size _ < _
    rw [List.size_toArray]
    unfold Rp.txt
    have l1 := itoa_len n n0 n1
    have l2 := itoa_len d d0 d1
    rw [List.length_append]
    split
    · simp only [List.length_nil]; omega
    · simp only [List.length_cons]; omega
  have ps := fun w => Parse_any ⟨(Rp.txt n d).toArray⟩ w hlen
  rw [show (⟨(Rp.txt n d).toArray⟩ : ByteArray).data.toList = Rp.txt n d by simp, Rp.parse_txt h] at ps
  rw [Rp.addS_ok h k] at a1
  rw [Rp.addS_ok k h, Rat.add_comm] at a2
  rw [Rp.mulS_ok h k] at m1'
  rw [Rp.mulS_ok k h, Rat.mul_comm] at m2'
  rw [Rp.subS_ok h k] at s1
  have k5 : ∀ T1 T2 T3, Rp.ofQ (Rp.q n d - Rp.q m c) = (T1, T2, T3) → T3 = 0 → ∀ w, Calls Tryd.prog 10 #[.agg #[.int .i64 T1, .int .i64 T2], .agg #[.int .i64 m, .int .i64 c]] w fun e w' => e = .returned (.tuple #[.agg #[.int .i64 n, .int .i64 d], .int .i64 0]) ∧ Below w.heap.size w w' := by
    intro T1 T2 T3 e1 z1 w
    obtain ⟨o1, v1⟩ := Rp.ofQ_ok e1 z1
    have o1' := o1
    obtain ⟨x1, x2, x3, x4, _⟩ := o1'
    have cc := Add_any T1 T2 m c w (by omega) (by omega) (by omega) (by omega) m0 m1 c0 c1
    rw [Rp.addS_ok o1 k, v1, Rat.sub_add_cancel, Rp.ofQ_q h] at cc
    exact cc
  have hd : ∃ U1 U2 U3, Rp.divS n d m c = (U1, U2, U3) ∧ ((U3 = 18 ∧ m = 0) ∨ (U3 = 16 ∧ ¬ m = 0) ∨ (U3 = 0 ∧ ¬ m = 0 ∧ ∀ w, Calls Tryd.prog 12 #[.agg #[.int .i64 U1, .int .i64 U2], .agg #[.int .i64 m, .int .i64 c]] w fun e w' => e = .returned (.tuple #[.agg #[.int .i64 n, .int .i64 d], .int .i64 0]) ∧ Below w.heap.size w w')) := by
    by_cases hm : m = 0
    · exact ⟨0, 0, 18, Rp.divS_zero h k hm, .inl ⟨rfl, hm⟩⟩
    · rw [Rp.divS_ok h k hm]
      rcases hu : Rp.ofQ (Rp.q n d / Rp.q m c) with ⟨U1, U2, U3⟩
      refine ⟨U1, U2, U3, rfl, ?_⟩
      rcases Rp.ofQ_err hu with z | ⟨_, _, z⟩
      · refine .inr (.inr ⟨z, hm, fun w => ?_⟩)
        obtain ⟨o1, v1⟩ := Rp.ofQ_ok hu z
        have o1' := o1
        obtain ⟨x1, x2, x3, x4, _⟩ := o1'
        have cc := Mul_any U1 U2 m c w (by omega) (by omega) (by omega) (by omega) m0 m1 c0 c1
        rw [Rp.mulS_ok o1 k, v1, Rat.div_mul_cancel (Rp.q_ne k hm), Rp.ofQ_q h] at cc
        exact cc
      · exact .inr (.inl ⟨z, hm⟩)
  obtain ⟨U1, U2, U3, hU, hd⟩ := hd
  rw [hU] at dv
  have e1 := fun x y z g => Rp.ofQ_err (r := Rp.q n d + Rp.q m c) (a := x) (b := y) (c := z) g
  have e2 := fun x y z g => Rp.ofQ_err (r := Rp.q n d * Rp.q m c) (a := x) (b := y) (c := z) g
  have e3 := fun x y z g => Rp.ofQ_err (r := Rp.q n d - Rp.q m c) (a := x) (b := y) (c := z) g
  generalize hR : Rp.ofQ (Rp.q n d + Rp.q m c) = R at *
  generalize hS : Rp.ofQ (Rp.q n d * Rp.q m c) = S at *
  generalize hT : Rp.ofQ (Rp.q n d - Rp.q m c) = T at *
  obtain ⟨R1, R2, R3⟩ := R
  obtain ⟨S1, S2, S3⟩ := S
  obtain ⟨T1, T2, T3⟩ := T
  replace k5 := k5 T1 T2 T3 rfl
  replace e1 := e1 R1 R2 R3 rfl
  replace e2 := e2 S1 S2 S3 rfl
  replace e3 := e3 T1 T2 T3 rfl
  have f1 : R3 = 0 ∨ R3 = 16 := e1.imp id (fun g => g.2.2)
  have f2 : S3 = 0 ∨ S3 = 16 := e2.imp id (fun g => g.2.2)
  have f3 : T3 = 0 ∨ T3 = 16 := e3.imp id (fun g => g.2.2)
  generalize (⟨(Rp.txt n d).toArray⟩ : ByteArray) = X at *
  dsimp only at a1 a2 m1' m2' s1 dv tx ps
  have CV := Lib.hid cv
  have A1 := Lib.hid a1
  have A2 := Lib.hid a2
  have M1 := Lib.hid m1'
  have M2 := Lib.hid m2'
  have SB := Lib.hid s1
  have DV := Lib.hid dv
  have TX := Lib.hid tx
  have PS := Lib.hid ps
  have K5 := Lib.hid k5
  have HD := Lib.hid hd
  have F1 := Lib.hid f1
  have F2 := Lib.hid f2
  have F3 := Lib.hid f3
  have E := Lib.hid E0
  clear cv a1 a2 m1' m2' s1 dv tx ps k5 hd f1 f2 f3 e1 e2 e3 hR hS hT hU hlen h k E0 m0 m1 c0 c1 d0 d1 n0 n1
  go_enter Tryd.func5, Tryd.ntmps5
  go_wp2_with fail
  refine (CV.out _).mono ?_
  rintro e w1 ⟨rfl, hb⟩
  have a0 : w1.cell? ⟨w.heap.size, 0, none⟩ = some (.int .i64 n) := keepC hb (by go_simp)
  have a1 : w1.cell? ⟨w.heap.size, 1, none⟩ = some (.int .i64 d) := keepC hb (by go_simp)
  have b0 : w1.cell? ⟨w.heap.size + 1, 0, none⟩ = some (.int .i64 m) := keepC hb (by go_simp)
  have b1 : w1.cell? ⟨w.heap.size + 1, 1, none⟩ = some (.int .i64 c) := keepC hb (by go_simp)
  have hbb : Below w.heap.size w w1 := keepB (((Below.refl _ _).alloc (Nat.le_refl _) _).alloc (by simp) _) hb
  have hE := Lib.hid (((E.out).keep (((Below.refl _ _).alloc (Nat.le_refl _) _).alloc (by simp) _)).keep hb)
  clear hb
  go_wp2_with fail
  refine (A1.out _).mono ?_
  rintro e w2 ⟨rfl, hb⟩
  replace a0 := keepC hb a0
  replace a1 := keepC hb a1
  replace b0 := keepC hb b0
  replace b1 := keepC hb b1
  replace hbb := keepB hbb hb
  have hE' := Lib.hid ((hE.out).keep hb)
  clear hE
  have hE := hE'
  clear hE'
  clear hb
  have l1 := lt_of_cell a0
  have l2 := lt_of_cell b0
  go_wp2_with fail
  refine at_worldR (fun v => Env v ∧ Below w.heap.size w v ∧ v.cell? ⟨w.heap.size, 0, none⟩ = some (.int .i64 n) ∧ v.cell? ⟨w.heap.size, 1, none⟩ = some (.int .i64 d) ∧ v.cell? ⟨w.heap.size + 1, 0, none⟩ = some (.int .i64 m) ∧ v.cell? ⟨w.heap.size + 1, 1, none⟩ = some (.int .i64 c) ∧ v.cell? ⟨w2.heap.size, 0, none⟩ = some (.int .i64 R1) ∧ v.cell? ⟨w2.heap.size, 1, none⟩ = some (.int .i64 R2)) ⟨(hE.out).keep (below_al (Below.refl _ _) _), below_al hbb _, cell_alloc a0 _, cell_alloc a1 _, cell_alloc b0 _, cell_alloc b1 _, n20 _ _ _ _, n21 _ _ _ _⟩ (fun V1 hS => ?_)
  obtain ⟨hE, hbb, a0, a1, b0, b1, r0, r1⟩ := hS
  have hE' := hE
  clear hE
  have hE := Lib.hid hE'
  clear hE'
  refine (A2.out _).mono ?_
  rintro e w3 ⟨rfl, hb⟩
  replace a0 := keepC hb a0
  replace a1 := keepC hb a1
  replace b0 := keepC hb b0
  replace b1 := keepC hb b1
  replace r0 := keepC hb r0
  replace r1 := keepC hb r1
  replace hbb := keepB hbb hb
  have hE' := Lib.hid ((hE.out).keep hb)
  clear hE
  have hE := hE'
  clear hE'
  clear hb
  have l1 := lt_of_cell a0
  have l2 := lt_of_cell b0
  have l3 := lt_of_cell r0
  go_wp2_with fail
  refine at_worldR (fun v => Env v ∧ Below w.heap.size w v ∧ v.cell? ⟨w.heap.size, 0, none⟩ = some (.int .i64 n) ∧ v.cell? ⟨w.heap.size, 1, none⟩ = some (.int .i64 d) ∧ v.cell? ⟨w.heap.size + 1, 0, none⟩ = some (.int .i64 m) ∧ v.cell? ⟨w.heap.size + 1, 1, none⟩ = some (.int .i64 c) ∧ v.cell? ⟨w2.heap.size, 0, none⟩ = some (.int .i64 R1) ∧ v.cell? ⟨w2.heap.size, 1, none⟩ = some (.int .i64 R2) ∧ v.cell? ⟨w3.heap.size, 0, none⟩ = some (.int .i64 R1) ∧ v.cell? ⟨w3.heap.size, 1, none⟩ = some (.int .i64 R2)) ⟨(hE.out).keep (below_al (Below.refl _ _) _), below_al hbb _, cell_alloc a0 _, cell_alloc a1 _, cell_alloc b0 _, cell_alloc b1 _, cell_alloc r0 _, cell_alloc r1 _, n20 _ _ _ _, n21 _ _ _ _⟩ (fun V2 hS => ?_)
  obtain ⟨hE, hbb, a0, a1, b0, b1, r0, r1, s0, s1⟩ := hS
  have hE' := hE
  clear hE
  have hE := Lib.hid hE'
  clear hE'
  refine (M1.out _).mono ?_
  rintro e w4 ⟨rfl, hb⟩
  replace a0 := keepC hb a0
  replace a1 := keepC hb a1
  replace b0 := keepC hb b0
  replace b1 := keepC hb b1
  replace r0 := keepC hb r0
  replace r1 := keepC hb r1
  replace s0 := keepC hb s0
  replace s1 := keepC hb s1
  replace hbb := keepB hbb hb
  have hE' := Lib.hid ((hE.out).keep hb)
  clear hE
  have hE := hE'
  clear hE'
  clear hb
  have l1 := lt_of_cell a0
  have l2 := lt_of_cell b0
  have l3 := lt_of_cell r0
  have l4 := lt_of_cell s0
  go_wp2_with fail
  refine at_worldR (fun v => Env v ∧ Below w.heap.size w v ∧ v.cell? ⟨w.heap.size, 0, none⟩ = some (.int .i64 n) ∧ v.cell? ⟨w.heap.size, 1, none⟩ = some (.int .i64 d) ∧ v.cell? ⟨w.heap.size + 1, 0, none⟩ = some (.int .i64 m) ∧ v.cell? ⟨w.heap.size + 1, 1, none⟩ = some (.int .i64 c) ∧ v.cell? ⟨w2.heap.size, 0, none⟩ = some (.int .i64 R1) ∧ v.cell? ⟨w2.heap.size, 1, none⟩ = some (.int .i64 R2) ∧ v.cell? ⟨w3.heap.size, 0, none⟩ = some (.int .i64 R1) ∧ v.cell? ⟨w3.heap.size, 1, none⟩ = some (.int .i64 R2) ∧ v.cell? ⟨w4.heap.size, 0, none⟩ = some (.int .i64 S1) ∧ v.cell? ⟨w4.heap.size, 1, none⟩ = some (.int .i64 S2)) ⟨(hE.out).keep (below_al (Below.refl _ _) _), below_al hbb _, cell_alloc a0 _, cell_alloc a1 _, cell_alloc b0 _, cell_alloc b1 _, cell_alloc r0 _, cell_alloc r1 _, cell_alloc s0 _, cell_alloc s1 _, n20 _ _ _ _, n21 _ _ _ _⟩ (fun V3 hS => ?_)
  obtain ⟨hE, hbb, a0, a1, b0, b1, r0, r1, s0, s1, t0, t1⟩ := hS
  have hE' := hE
  clear hE
  have hE := Lib.hid hE'
  clear hE'
  refine (M2.out _).mono ?_
  rintro e w5 ⟨rfl, hb⟩
  replace a0 := keepC hb a0
  replace a1 := keepC hb a1
  replace b0 := keepC hb b0
  replace b1 := keepC hb b1
  replace r0 := keepC hb r0
  replace r1 := keepC hb r1
  replace s0 := keepC hb s0
  replace s1 := keepC hb s1
  replace t0 := keepC hb t0
  replace t1 := keepC hb t1
  replace hbb := keepB hbb hb
  have hE' := Lib.hid ((hE.out).keep hb)
  clear hE
  have hE := hE'
  clear hE'
  clear hb
  have l1 := lt_of_cell a0
  have l2 := lt_of_cell b0
  have l3 := lt_of_cell r0
  have l4 := lt_of_cell s0
  have l5 := lt_of_cell t0
  go_upto_region 7 with fail
  refine at_worldC (fun v => Env v ∧ Below w.heap.size w v ∧ v.cell? ⟨w.heap.size, 0, none⟩ = some (.int .i64 n) ∧ v.cell? ⟨w.heap.size, 1, none⟩ = some (.int .i64 d) ∧ v.cell? ⟨w.heap.size + 1, 0, none⟩ = some (.int .i64 m) ∧ v.cell? ⟨w.heap.size + 1, 1, none⟩ = some (.int .i64 c) ∧ v.cell? ⟨w2.heap.size, 0, none⟩ = some (.int .i64 R1) ∧ v.cell? ⟨w2.heap.size, 1, none⟩ = some (.int .i64 R2) ∧ v.cell? ⟨w3.heap.size, 0, none⟩ = some (.int .i64 R1) ∧ v.cell? ⟨w3.heap.size, 1, none⟩ = some (.int .i64 R2) ∧ v.cell? ⟨w4.heap.size, 0, none⟩ = some (.int .i64 S1) ∧ v.cell? ⟨w4.heap.size, 1, none⟩ = some (.int .i64 S2) ∧ v.cell? ⟨w5.heap.size, 0, none⟩ = some (.int .i64 S1) ∧ v.cell? ⟨w5.heap.size, 1, none⟩ = some (.int .i64 S2)) ⟨(hE.out).keep (below_al (Below.refl _ _) _), below_al hbb _, cell_alloc a0 _, cell_alloc a1 _, cell_alloc b0 _, cell_alloc b1 _, cell_alloc r0 _, cell_alloc r1 _, cell_alloc s0 _, cell_alloc s1 _, cell_alloc t0 _, cell_alloc t1 _, n20 _ _ _ _, n21 _ _ _ _⟩ (fun V9 hS => ?_)
  clear hE
  obtain ⟨hE, hbb, a0, a1, b0, b1, r0, r1, s0, s1, t0, t1, u0, u1⟩ := hS
  go_cut [88] (fun s v => s = .bool false ∧ Env v ∧ Below w.heap.size w v ∧ v.cell? ⟨w.heap.size, 0, none⟩ = some (.int .i64 n) ∧ v.cell? ⟨w.heap.size, 1, none⟩ = some (.int .i64 d) ∧ v.cell? ⟨w.heap.size + 1, 0, none⟩ = some (.int .i64 m) ∧ v.cell? ⟨w.heap.size + 1, 1, none⟩ = some (.int .i64 c))
  case first =>
    have hE := Lib.hid hE
    rcases F1.out with rfl | rfl
    · rcases F2.out with rfl | rfl
      · skip
        go_wp2_with fail
        all_goals
          go_meet
          exact ⟨rfl, hE.out, hbb, a0, a1, b0, b1⟩
      · skip
        go_wp2_with fail
        all_goals
          go_meet
          exact ⟨rfl, hE.out, hbb, a0, a1, b0, b1⟩
    · rcases F2.out with rfl | rfl
      · skip
        go_wp2_with fail
        all_goals
          go_meet
          exact ⟨rfl, hE.out, hbb, a0, a1, b0, b1⟩
      · skip
        go_wp2_with fail
        all_goals
          go_meet
          exact ⟨rfl, hE.out, hbb, a0, a1, b0, b1⟩
  case rest =>
    clear a0 a1 b0 b1 r0 r1 s0 s1 t0 t1 u0 u1 hbb hE
    obtain ⟨rfl, hE0, hbb, a0, a1, b0, b1⟩ := hcut
    have hE := Lib.hid hE0
    clear hE0
    go_wp2_with fail
    refine (SB.out _).mono ?_
    rintro e w6 ⟨rfl, hb⟩
    replace a0 := keepC hb a0
    replace a1 := keepC hb a1
    replace b0 := keepC hb b0
    replace b1 := keepC hb b1
    replace hbb := keepB hbb hb
    have hE' := Lib.hid ((hE.out).keep hb)
    clear hE
    have hE := hE'
    clear hE'
    clear hb
    have l1 := lt_of_cell a0
    have l2 := lt_of_cell b0
    go_upto_region 10 with fail
    refine at_worldC (fun v => Env v ∧ Below w.heap.size w v ∧ v.cell? ⟨w.heap.size, 0, none⟩ = some (.int .i64 n) ∧ v.cell? ⟨w.heap.size, 1, none⟩ = some (.int .i64 d) ∧ v.cell? ⟨w.heap.size + 1, 0, none⟩ = some (.int .i64 m) ∧ v.cell? ⟨w.heap.size + 1, 1, none⟩ = some (.int .i64 c) ∧ v.cell? ⟨w6.heap.size, 0, none⟩ = some (.int .i64 T1) ∧ v.cell? ⟨w6.heap.size, 1, none⟩ = some (.int .i64 T2)) ⟨(hE.out).keep (below_al (Below.refl _ _) _), below_al hbb _, cell_alloc a0 _, cell_alloc a1 _, cell_alloc b0 _, cell_alloc b1 _, n20 _ _ _ _, n21 _ _ _ _⟩ (fun V9 hS => ?_)
    clear hE
    obtain ⟨hE, hbb, a0, a1, b0, b1, v0, v1⟩ := hS
    go_cut [96] (fun s v => s = .bool (T3 == 0) ∧ Env v ∧ Below w.heap.size w v ∧ v.cell? ⟨w.heap.size, 0, none⟩ = some (.int .i64 n) ∧ v.cell? ⟨w.heap.size, 1, none⟩ = some (.int .i64 d) ∧ v.cell? ⟨w.heap.size + 1, 0, none⟩ = some (.int .i64 m) ∧ v.cell? ⟨w.heap.size + 1, 1, none⟩ = some (.int .i64 c) ∧ v.cell? ⟨w6.heap.size, 0, none⟩ = some (.int .i64 T1) ∧ v.cell? ⟨w6.heap.size, 1, none⟩ = some (.int .i64 T2))
    case first =>
      have hE := Lib.hid hE
      go_wp2_with fail
      all_goals
        go_meet
        exact ⟨rfl, hE.out, hbb, a0, a1, b0, b1, v0, v1⟩
    case rest =>
      clear a0 a1 b0 b1 v0 v1 hbb hE
      obtain ⟨rfl, hE0, hbb, a0, a1, b0, b1, v0, v1⟩ := hcut
      have hE := Lib.hid hE0
      clear hE0
      go_upto_if 96 with fail
      go_cut [4] (fun s v => s = .bool false ∧ Env v ∧ Below w.heap.size w v ∧ v.cell? ⟨w.heap.size, 0, none⟩ = some (.int .i64 n) ∧ v.cell? ⟨w.heap.size, 1, none⟩ = some (.int .i64 d) ∧ v.cell? ⟨w.heap.size + 1, 0, none⟩ = some (.int .i64 m) ∧ v.cell? ⟨w.heap.size + 1, 1, none⟩ = some (.int .i64 c))
      case first =>
        have hE := Lib.hid hE
        rcases F3.out with rfl | rfl
        · have k5 := K5.out rfl
          have K5' := Lib.hid k5
          clear k5 K5
          go_wp2_with fail
          refine (K5'.out _).mono ?_
          rintro e w7 ⟨rfl, hb⟩
          replace a0 := keepC hb a0
          replace a1 := keepC hb a1
          replace b0 := keepC hb b0
          replace b1 := keepC hb b1
          replace v0 := keepC hb v0
          replace v1 := keepC hb v1
          replace hbb := keepB hbb hb
          have hE' := Lib.hid ((hE.out).keep hb)
          clear hE
          have hE := hE'
          clear hE'
          clear hb
          have l1 := lt_of_cell a0
          have l2 := lt_of_cell b0
          have l3 := lt_of_cell v0
          go_wp2_with fail
          all_goals
            go_meet
            exact ⟨rfl, (hE.out).keep (below_al (Below.refl _ _) _), below_al hbb _, cell_alloc a0 _, cell_alloc a1 _, cell_alloc b0 _, cell_alloc b1 _⟩
        · skip
          go_wp2_with fail
          all_goals
            go_meet
            exact ⟨rfl, hE.out, hbb, a0, a1, b0, b1⟩
      case rest =>
        clear a0 a1 b0 b1 v0 v1 hbb hE
        obtain ⟨rfl, hE0, hbb, a0, a1, b0, b1⟩ := hcut
        have hE := Lib.hid hE0
        clear hE0
        go_wp2_with fail
        refine (DV.out _).mono ?_
        rintro e w8 ⟨rfl, hb⟩
        replace a0 := keepC hb a0
        replace a1 := keepC hb a1
        replace b0 := keepC hb b0
        replace b1 := keepC hb b1
        replace hbb := keepB hbb hb
        have hE' := Lib.hid ((hE.out).keep hb)
        clear hE
        have hE := hE'
        clear hE'
        clear hb
        have l1 := lt_of_cell a0
        have l2 := lt_of_cell b0
        go_upto_region 15 with fail
        refine at_worldC (fun v => Env v ∧ Below w.heap.size w v ∧ v.cell? ⟨w.heap.size, 0, none⟩ = some (.int .i64 n) ∧ v.cell? ⟨w.heap.size, 1, none⟩ = some (.int .i64 d) ∧ v.cell? ⟨w.heap.size + 1, 0, none⟩ = some (.int .i64 m) ∧ v.cell? ⟨w.heap.size + 1, 1, none⟩ = some (.int .i64 c) ∧ v.cell? ⟨w8.heap.size, 0, none⟩ = some (.int .i64 U1) ∧ v.cell? ⟨w8.heap.size, 1, none⟩ = some (.int .i64 U2)) ⟨(hE.out).keep (below_al (Below.refl _ _) _), below_al hbb _, cell_alloc a0 _, cell_alloc a1 _, cell_alloc b0 _, cell_alloc b1 _, n20 _ _ _ _, n21 _ _ _ _⟩ (fun V9 hS => ?_)
        clear hE
        obtain ⟨hE, hbb, a0, a1, b0, b1, x0, x1⟩ := hS
        have hE0 := Lib.hid hE
        clear hE
        have hE := hE0
        clear hE0
        rcases HD.out with ⟨rfl, hm⟩ | ⟨rfl, hm⟩ | ⟨rfl, hm, km⟩
        · have hm' : (m == 0) = true := by rw [beq_iff_eq]; exact hm
          clear hm
          go_wp2_with fail
          refine (TX.out _ (hE.out)).mono ?_
          rintro e w9 ⟨rfl, hb⟩
          replace a0 := keepC hb a0
          replace a1 := keepC hb a1
          replace b0 := keepC hb b0
          replace b1 := keepC hb b1
          replace x0 := keepC hb x0
          replace x1 := keepC hb x1
          replace hbb := keepB hbb hb
          have hE' := Lib.hid ((hE.out).keep hb)
          clear hE
          have hE := hE'
          clear hE'
          clear hb
          go_wp2_with fail
          refine (PS.out _ (hE.out)).mono ?_
          rintro e w10 ⟨rfl, hb⟩
          replace a0 := keepC hb a0
          replace a1 := keepC hb a1
          replace b0 := keepC hb b0
          replace b1 := keepC hb b1
          replace x0 := keepC hb x0
          replace x1 := keepC hb x1
          replace hbb := keepB hbb hb
          have hE' := Lib.hid ((hE.out).keep hb)
          clear hE
          have hE := hE'
          clear hE'
          clear hb
          have l1 := lt_of_cell a0
          have l2 := lt_of_cell b0
          have l3 := lt_of_cell x0
          go_wp2_with fail
          refine at_worldR (fun v => Env v ∧ Below w.heap.size w v ∧ v.cell? ⟨w.heap.size, 0, none⟩ = some (.int .i64 n) ∧ v.cell? ⟨w.heap.size, 1, none⟩ = some (.int .i64 d) ∧ v.cell? ⟨w.heap.size + 1, 0, none⟩ = some (.int .i64 m) ∧ v.cell? ⟨w.heap.size + 1, 1, none⟩ = some (.int .i64 c) ∧ v.cell? ⟨w8.heap.size, 0, none⟩ = some (.int .i64 U1) ∧ v.cell? ⟨w8.heap.size, 1, none⟩ = some (.int .i64 U2) ∧ v.cell? ⟨w10.heap.size, 0, none⟩ = some (.int .i64 n) ∧ v.cell? ⟨w10.heap.size, 1, none⟩ = some (.int .i64 d)) ⟨(hE.out).keep (below_al (Below.refl _ _) _), below_al hbb _, cell_alloc a0 _, cell_alloc a1 _, cell_alloc b0 _, cell_alloc b1 _, cell_alloc x0 _, cell_alloc x1 _, n20 _ _ _ _, n21 _ _ _ _⟩ (fun V1 hS => ?_)
          obtain ⟨hE, hbb, a0, a1, b0, b1, x0, x1, y0, y1⟩ := hS
          have hE' := hE
          clear hE
          have hE := Lib.hid hE'
          clear hE'
          refine (alive_true _ (hE.out)).mono ?_
          rintro e w11 ⟨rfl, hb⟩
          replace a0 := keepC hb a0
          replace a1 := keepC hb a1
          replace b0 := keepC hb b0
          replace b1 := keepC hb b1
          replace x0 := keepC hb x0
          replace x1 := keepC hb x1
          replace y0 := keepC hb y0
          replace y1 := keepC hb y1
          replace hbb := keepB hbb hb
          have hE' := Lib.hid ((hE.out).keep hb)
          clear hE
          have hE := hE'
          clear hE'
          clear hb
          go_wp2
          go_ret
          exact ⟨rfl, hbb⟩
        · have hm' : (m == 0) = false := by rw [beq_eq_false_iff_ne]; exact hm
          clear hm
          go_wp2_with fail
          refine (TX.out _ (hE.out)).mono ?_
          rintro e w9 ⟨rfl, hb⟩
          replace a0 := keepC hb a0
          replace a1 := keepC hb a1
          replace b0 := keepC hb b0
          replace b1 := keepC hb b1
          replace x0 := keepC hb x0
          replace x1 := keepC hb x1
          replace hbb := keepB hbb hb
          have hE' := Lib.hid ((hE.out).keep hb)
          clear hE
          have hE := hE'
          clear hE'
          clear hb
          go_wp2_with fail
          refine (PS.out _ (hE.out)).mono ?_
          rintro e w10 ⟨rfl, hb⟩
          replace a0 := keepC hb a0
          replace a1 := keepC hb a1
          replace b0 := keepC hb b0
          replace b1 := keepC hb b1
          replace x0 := keepC hb x0
          replace x1 := keepC hb x1
          replace hbb := keepB hbb hb
          have hE' := Lib.hid ((hE.out).keep hb)
          clear hE
          have hE := hE'
          clear hE'
          clear hb
          have l1 := lt_of_cell a0
          have l2 := lt_of_cell b0
          have l3 := lt_of_cell x0
          go_wp2_with fail
          refine at_worldR (fun v => Env v ∧ Below w.heap.size w v ∧ v.cell? ⟨w.heap.size, 0, none⟩ = some (.int .i64 n) ∧ v.cell? ⟨w.heap.size, 1, none⟩ = some (.int .i64 d) ∧ v.cell? ⟨w.heap.size + 1, 0, none⟩ = some (.int .i64 m) ∧ v.cell? ⟨w.heap.size + 1, 1, none⟩ = some (.int .i64 c) ∧ v.cell? ⟨w8.heap.size, 0, none⟩ = some (.int .i64 U1) ∧ v.cell? ⟨w8.heap.size, 1, none⟩ = some (.int .i64 U2) ∧ v.cell? ⟨w10.heap.size, 0, none⟩ = some (.int .i64 n) ∧ v.cell? ⟨w10.heap.size, 1, none⟩ = some (.int .i64 d)) ⟨(hE.out).keep (below_al (Below.refl _ _) _), below_al hbb _, cell_alloc a0 _, cell_alloc a1 _, cell_alloc b0 _, cell_alloc b1 _, cell_alloc x0 _, cell_alloc x1 _, n20 _ _ _ _, n21 _ _ _ _⟩ (fun V1 hS => ?_)
          obtain ⟨hE, hbb, a0, a1, b0, b1, x0, x1, y0, y1⟩ := hS
          have hE' := hE
          clear hE
          have hE := Lib.hid hE'
          clear hE'
          refine (alive_true _ (hE.out)).mono ?_
          rintro e w11 ⟨rfl, hb⟩
          replace a0 := keepC hb a0
          replace a1 := keepC hb a1
          replace b0 := keepC hb b0
          replace b1 := keepC hb b1
          replace x0 := keepC hb x0
          replace x1 := keepC hb x1
          replace y0 := keepC hb y0
          replace y1 := keepC hb y1
          replace hbb := keepB hbb hb
          have hE' := Lib.hid ((hE.out).keep hb)
          clear hE
          have hE := hE'
          clear hE'
          clear hb
          go_wp2
          go_ret
          exact ⟨rfl, hbb⟩
        · have hm' : (m == 0) = false := by rw [beq_eq_false_iff_ne]; exact hm
          have KM := Lib.hid km
          clear hm km HD
          go_wp2_with fail
          refine (KM.out _).mono ?_
          rintro e w9 ⟨rfl, hb⟩
          replace a0 := keepC hb a0
          replace a1 := keepC hb a1
          replace b0 := keepC hb b0
          replace b1 := keepC hb b1
          replace x0 := keepC hb x0
          replace x1 := keepC hb x1
          replace hbb := keepB hbb hb
          have hE' := Lib.hid ((hE.out).keep hb)
          clear hE
          have hE := hE'
          clear hE'
          clear hb
          have l1 := lt_of_cell a0
          have l2 := lt_of_cell b0
          have l3 := lt_of_cell x0
          go_wp2_with fail
          refine at_worldR (fun v => Env v ∧ Below w.heap.size w v ∧ v.cell? ⟨w.heap.size, 0, none⟩ = some (.int .i64 n) ∧ v.cell? ⟨w.heap.size, 1, none⟩ = some (.int .i64 d) ∧ v.cell? ⟨w.heap.size + 1, 0, none⟩ = some (.int .i64 m) ∧ v.cell? ⟨w.heap.size + 1, 1, none⟩ = some (.int .i64 c) ∧ v.cell? ⟨w8.heap.size, 0, none⟩ = some (.int .i64 U1) ∧ v.cell? ⟨w8.heap.size, 1, none⟩ = some (.int .i64 U2) ∧ v.cell? ⟨w9.heap.size, 0, none⟩ = some (.int .i64 n) ∧ v.cell? ⟨w9.heap.size, 1, none⟩ = some (.int .i64 d)) ⟨(hE.out).keep (below_al (Below.refl _ _) _), below_al hbb _, cell_alloc a0 _, cell_alloc a1 _, cell_alloc b0 _, cell_alloc b1 _, cell_alloc x0 _, cell_alloc x1 _, n20 _ _ _ _, n21 _ _ _ _⟩ (fun V1 hS => ?_)
          obtain ⟨hE, hbb, a0, a1, b0, b1, x0, x1, z0, z1⟩ := hS
          have hE' := hE
          clear hE
          have hE := Lib.hid hE'
          clear hE'
          refine (TX.out _ (hE.out)).mono ?_
          rintro e w10 ⟨rfl, hb⟩
          replace a0 := keepC hb a0
          replace a1 := keepC hb a1
          replace b0 := keepC hb b0
          replace b1 := keepC hb b1
          replace x0 := keepC hb x0
          replace x1 := keepC hb x1
          replace z0 := keepC hb z0
          replace z1 := keepC hb z1
          replace hbb := keepB hbb hb
          have hE' := Lib.hid ((hE.out).keep hb)
          clear hE
          have hE := hE'
          clear hE'
          clear hb
          go_wp2_with fail
          refine (PS.out _ (hE.out)).mono ?_
          rintro e w11 ⟨rfl, hb⟩
          replace a0 := keepC hb a0
          replace a1 := keepC hb a1
          replace b0 := keepC hb b0
          replace b1 := keepC hb b1
          replace x0 := keepC hb x0
          replace x1 := keepC hb x1
          replace z0 := keepC hb z0
          replace z1 := keepC hb z1
          replace hbb := keepB hbb hb
          have hE' := Lib.hid ((hE.out).keep hb)
          clear hE
          have hE := hE'
          clear hE'
          clear hb
          have l1 := lt_of_cell a0
          have l2 := lt_of_cell b0
          have l3 := lt_of_cell x0
          have l4 := lt_of_cell z0
          go_wp2_with fail
          refine at_worldR (fun v => Env v ∧ Below w.heap.size w v ∧ v.cell? ⟨w.heap.size, 0, none⟩ = some (.int .i64 n) ∧ v.cell? ⟨w.heap.size, 1, none⟩ = some (.int .i64 d) ∧ v.cell? ⟨w.heap.size + 1, 0, none⟩ = some (.int .i64 m) ∧ v.cell? ⟨w.heap.size + 1, 1, none⟩ = some (.int .i64 c) ∧ v.cell? ⟨w8.heap.size, 0, none⟩ = some (.int .i64 U1) ∧ v.cell? ⟨w8.heap.size, 1, none⟩ = some (.int .i64 U2) ∧ v.cell? ⟨w9.heap.size, 0, none⟩ = some (.int .i64 n) ∧ v.cell? ⟨w9.heap.size, 1, none⟩ = some (.int .i64 d) ∧ v.cell? ⟨w11.heap.size, 0, none⟩ = some (.int .i64 n) ∧ v.cell? ⟨w11.heap.size, 1, none⟩ = some (.int .i64 d)) ⟨(hE.out).keep (below_al (Below.refl _ _) _), below_al hbb _, cell_alloc a0 _, cell_alloc a1 _, cell_alloc b0 _, cell_alloc b1 _, cell_alloc x0 _, cell_alloc x1 _, cell_alloc z0 _, cell_alloc z1 _, n20 _ _ _ _, n21 _ _ _ _⟩ (fun V2 hS => ?_)
          obtain ⟨hE, hbb, a0, a1, b0, b1, x0, x1, z0, z1, y0, y1⟩ := hS
          have hE' := hE
          clear hE
          have hE := Lib.hid hE'
          clear hE'
          refine (alive_true _ (hE.out)).mono ?_
          rintro e w12 ⟨rfl, hb⟩
          replace a0 := keepC hb a0
          replace a1 := keepC hb a1
          replace b0 := keepC hb b0
          replace b1 := keepC hb b1
          replace x0 := keepC hb x0
          replace x1 := keepC hb x1
          replace z0 := keepC hb z0
          replace z1 := keepC hb z1
          replace y0 := keepC hb y0
          replace y1 := keepC hb y1
          replace hbb := keepB hbb hb
          have hE' := Lib.hid ((hE.out).keep hb)
          clear hE
          have hE := hE'
          clear hE'
          clear hb
          go_wp2
          go_ret
          exact ⟨rfl, hbb⟩

set_option maxHeartbeats 1000000 in
set_option maxRecDepth 100000 in
theorem field_walk (n d m c : Int) (w : World) (n0 : -9223372036854775808 ≤ n) (n1 : n ≤ 9223372036854775807) (d0 : -9223372036854775808 ≤ d) (d1 : d ≤ 9223372036854775807) (m0 : -9223372036854775808 ≤ m) (m1 : m ≤ 9223372036854775807) (c0 : -9223372036854775808 ≤ c) (c1 : c ≤ 9223372036854775807) (E0 : Env w) :
    Calls Tryd.prog 5 #[.agg #[.int .i64 n, .int .i64 d], .agg #[.int .i64 m, .int .i64 c]] w fun e w' => e = .returned (.bool true) ∧ Below w.heap.size w w' := by
  by_cases h : Rp.Ok n d ∧ Rp.Ok m c ∧ Rp.Ok n d
  · exact field_valid n d m c w h.1 h.2.1 n0 n1 d0 d1 m0 m1 c0 c1 E0
  · have cv := fun w => valid_any n d m c n d w n0 n1 d0 d1 m0 m1 c0 c1 n0 n1 d0 d1
    rw [show Rp.vld n d m c n d = false from decide_eq_false h] at cv
    have CV := Lib.hid cv
    have E := Lib.hid E0
    clear cv h E0
    go_enter Tryd.func5, Tryd.ntmps5
    go_wp2_with fail
    refine (CV.out _).mono ?_
    rintro e w1 ⟨rfl, hb⟩
    have hbb : Below w.heap.size w w1 := keepB (((Below.refl _ _).alloc (Nat.le_refl _) _).alloc (by simp) _) hb
    have hE := Lib.hid (((E.out).keep (((Below.refl _ _).alloc (Nat.le_refl _) _).alloc (by simp) _)).keep hb)
    clear hb
    go_wp2_with fail
    refine (alive_true _ (hE.out)).mono ?_
    rintro e w2 ⟨rfl, hb⟩
    replace hbb := keepB hbb hb
    have hE' := Lib.hid ((hE.out).keep hb)
    clear hE
    have hE := hE'
    clear hE'
    clear hb
    go_wp2
    go_ret
    exact ⟨rfl, hbb⟩
end Go.Proofs.YtkphaclfapkfoaaDoor
