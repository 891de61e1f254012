/- The walk of the law RatioProducts: it answers true for any two numbers and any two ratios. -/
import Derived.Test.YtkphaclfapkfoaaRdiv
import Derived.Test.YtkphaclfapkfoaaMake
import Derived.Test.YtkphaclfapkfoaaFloor
namespace Go.Proofs.Ytkphaclfapkfoaa
open Go.RowKit

theorem at_worldP {P : Program} {f : FuncId} {args : Array Value} {Q : Ending → World → Prop} {w : World} (S : World → Prop) (h : S w) (k : ∀ V, S V → Calls P f args V Q) : Calls P f args w Q := k w h

set_option maxHeartbeats 8000000 in
set_option maxRecDepth 100000 in
theorem products_walk (x y n d m c : Int) (w : World) (x0 : -9223372036854775808 ≤ x) (x1 : x ≤ 9223372036854775807) (y0 : -9223372036854775808 ≤ y) (y1 : y ≤ 9223372036854775807) (n0 : -9223372036854775808 ≤ n) (n1 : n ≤ 9223372036854775807) (d0 : -9223372036854775808 ≤ d) (d1 : d ≤ 9223372036854775807)
    (m0 : -9223372036854775808 ≤ m) (m1 : m ≤ 9223372036854775807) (c0 : -9223372036854775808 ≤ c) (c1 : c ≤ 9223372036854775807) :
    Calls Try.prog 4 #[.int .i64 x, .int .i64 y, .agg #[.int .i64 n, .int .i64 d], .agg #[.int .i64 m, .int .i64 c]] w fun e w' => e = .returned (.bool true) ∧ Below w.heap.size w w' := by
  have a1 := fun w => Make_any x y x0 x1 y0 y1 w
  have a2 := fun w => rMake_any x y x0 x1 y0 y1 w
  have s1 := fun w => Mul_any n d m c w n0 n1 d0 d1 m0 m1 c0 c1
  have s2 := fun w => rMul_any n d m c w n0 n1 d0 d1 m0 m1 c0 c1
  have t1 := fun w => Div_any n d m c w n0 n1 d0 d1 m0 m1 c0 c1
  have t2 := fun w => rDiv_any n d m c w n0 n1 d0 d1 m0 m1 c0 c1
  have k1 := fun w => Floor_any n d w n0 n1 d0 d1
  have k2 := fun w => rFloor_any n d w n0 n1 d0 d1
  generalize Rp.makeS x y = R at *
  generalize Rp.mulS n d m c = T at *
  generalize Rp.divS n d m c = U at *
  generalize Rp.floorS n d = K at *
  obtain ⟨R1, R2, R3⟩ := R
  obtain ⟨T1, T2, T3⟩ := T
  obtain ⟨U1, U2, U3⟩ := U
  obtain ⟨K1, K2⟩ := K
  dsimp only at a1 a2 s1 s2 t1 t2 k1 k2
  have C1 := Lib.hid a1
  have C2 := Lib.hid a2
  have C3 := Lib.hid s1
  have C4 := Lib.hid s2
  have C5 := Lib.hid t1
  have C6 := Lib.hid t2
  have C7 := Lib.hid k1
  have C8 := Lib.hid k2
  clear a1 a2 s1 s2 t1 t2 k1 k2 n0 n1 d0 d1 m0 m1 c0 c1 x0 x1 y0 y1
  go_enter Try.func4, Try.ntmps4
  go_wp2_with fail
  refine (C1.out _).mono ?_
  rintro e w1 ⟨rfl, hb1⟩
  have an : w1.cell? ⟨w.heap.size, 0, none⟩ = some (.int .i64 n) := keepC hb1 (by go_simp)
  have ad : w1.cell? ⟨w.heap.size, 1, none⟩ = some (.int .i64 d) := keepC hb1 (by go_simp)
  have bn : w1.cell? ⟨w.heap.size + 1, 0, none⟩ = some (.int .i64 m) := keepC hb1 (by go_simp)
  have bd : w1.cell? ⟨w.heap.size + 1, 1, none⟩ = some (.int .i64 c) := keepC hb1 (by go_simp)
  have hbb : Below w.heap.size w w1 := keepB (((Below.refl _ _).alloc (Nat.le_refl _) _).alloc (by simp) _) hb1
  clear hb1
  have l0 := lt_of_cell an
  have l1 := lt_of_cell bn
  go_wp2_with fail
  refine at_worldP (fun v => Below w.heap.size w v ∧ v.cell? ⟨w.heap.size, 0, none⟩ = some (.int .i64 n) ∧ v.cell? ⟨w.heap.size, 1, none⟩ = some (.int .i64 d) ∧ v.cell? ⟨w.heap.size + 1, 0, none⟩ = some (.int .i64 m) ∧ v.cell? ⟨w.heap.size + 1, 1, none⟩ = some (.int .i64 c) ∧ v.cell? ⟨w1.heap.size, 0, none⟩ = some (.int .i64 R1) ∧ v.cell? ⟨w1.heap.size, 1, none⟩ = some (.int .i64 R2)) ⟨below_al hbb _, cell_alloc an _, cell_alloc ad _, cell_alloc bn _, cell_alloc bd _, n20 _ _ _ _, n21 _ _ _ _⟩ (fun V1 hS => ?_)
  obtain ⟨hbb, an, ad, bn, bd, r0, r1⟩ := hS
  refine (C2.out _).mono ?_
  rintro e w2 ⟨rfl, hb⟩
  replace an := keepC hb an
  replace ad := keepC hb ad
  replace bn := keepC hb bn
  replace bd := keepC hb bd
  replace r0 := keepC hb r0
  replace r1 := keepC hb r1
  replace hbb := keepB hbb hb
  clear hb
  have l0 := lt_of_cell an
  have l1 := lt_of_cell bn
  have l2 := lt_of_cell r0
  go_wp2_with fail
  refine at_worldP (fun v => Below w.heap.size w v ∧ v.cell? ⟨w.heap.size, 0, none⟩ = some (.int .i64 n) ∧ v.cell? ⟨w.heap.size, 1, none⟩ = some (.int .i64 d) ∧ v.cell? ⟨w.heap.size + 1, 0, none⟩ = some (.int .i64 m) ∧ v.cell? ⟨w.heap.size + 1, 1, none⟩ = some (.int .i64 c) ∧ v.cell? ⟨w1.heap.size, 0, none⟩ = some (.int .i64 R1) ∧ v.cell? ⟨w1.heap.size, 1, none⟩ = some (.int .i64 R2) ∧ v.cell? ⟨w2.heap.size, 0, none⟩ = some (.int .i64 R1) ∧ v.cell? ⟨w2.heap.size, 1, none⟩ = some (.int .i64 R2)) ⟨below_al hbb _, cell_alloc an _, cell_alloc ad _, cell_alloc bn _, cell_alloc bd _, cell_alloc r0 _, cell_alloc r1 _, n20 _ _ _ _, n21 _ _ _ _⟩ (fun V2 hS => ?_)
  obtain ⟨hbb, an, ad, bn, bd, r0, r1, s0, s1⟩ := hS
  refine (C3.out _).mono ?_
  rintro e w3 ⟨rfl, hb⟩
  replace an := keepC hb an
  replace ad := keepC hb ad
  replace bn := keepC hb bn
  replace bd := keepC hb bd
  replace r0 := keepC hb r0
  replace r1 := keepC hb r1
  replace s0 := keepC hb s0
  replace s1 := keepC hb s1
  replace hbb := keepB hbb hb
  clear hb
  have l0 := lt_of_cell an
  have l1 := lt_of_cell bn
  have l2 := lt_of_cell r0
  have l3 := lt_of_cell s0
  go_wp2_with fail
  refine at_worldP (fun v => Below w.heap.size w v ∧ v.cell? ⟨w.heap.size, 0, none⟩ = some (.int .i64 n) ∧ v.cell? ⟨w.heap.size, 1, none⟩ = some (.int .i64 d) ∧ v.cell? ⟨w.heap.size + 1, 0, none⟩ = some (.int .i64 m) ∧ v.cell? ⟨w.heap.size + 1, 1, none⟩ = some (.int .i64 c) ∧ v.cell? ⟨w1.heap.size, 0, none⟩ = some (.int .i64 R1) ∧ v.cell? ⟨w1.heap.size, 1, none⟩ = some (.int .i64 R2) ∧ v.cell? ⟨w2.heap.size, 0, none⟩ = some (.int .i64 R1) ∧ v.cell? ⟨w2.heap.size, 1, none⟩ = some (.int .i64 R2) ∧ v.cell? ⟨w3.heap.size, 0, none⟩ = some (.int .i64 T1) ∧ v.cell? ⟨w3.heap.size, 1, none⟩ = some (.int .i64 T2)) ⟨below_al hbb _, cell_alloc an _, cell_alloc ad _, cell_alloc bn _, cell_alloc bd _, cell_alloc r0 _, cell_alloc r1 _, cell_alloc s0 _, cell_alloc s1 _, n20 _ _ _ _, n21 _ _ _ _⟩ (fun V3 hS => ?_)
  obtain ⟨hbb, an, ad, bn, bd, r0, r1, s0, s1, t0, t1⟩ := hS
  refine (C4.out _).mono ?_
  rintro e w4 ⟨rfl, hb⟩
  replace an := keepC hb an
  replace ad := keepC hb ad
  replace bn := keepC hb bn
  replace bd := keepC hb bd
  replace r0 := keepC hb r0
  replace r1 := keepC hb r1
  replace s0 := keepC hb s0
  replace s1 := keepC hb s1
  replace t0 := keepC hb t0
  replace t1 := keepC hb t1
  replace hbb := keepB hbb hb
  clear hb
  have l0 := lt_of_cell an
  have l1 := lt_of_cell bn
  have l2 := lt_of_cell r0
  have l3 := lt_of_cell s0
  have l4 := lt_of_cell t0
  go_wp2_with fail
  refine at_worldP (fun v => Below w.heap.size w v ∧ v.cell? ⟨w.heap.size, 0, none⟩ = some (.int .i64 n) ∧ v.cell? ⟨w.heap.size, 1, none⟩ = some (.int .i64 d) ∧ v.cell? ⟨w.heap.size + 1, 0, none⟩ = some (.int .i64 m) ∧ v.cell? ⟨w.heap.size + 1, 1, none⟩ = some (.int .i64 c) ∧ v.cell? ⟨w1.heap.size, 0, none⟩ = some (.int .i64 R1) ∧ v.cell? ⟨w1.heap.size, 1, none⟩ = some (.int .i64 R2) ∧ v.cell? ⟨w2.heap.size, 0, none⟩ = some (.int .i64 R1) ∧ v.cell? ⟨w2.heap.size, 1, none⟩ = some (.int .i64 R2) ∧ v.cell? ⟨w3.heap.size, 0, none⟩ = some (.int .i64 T1) ∧ v.cell? ⟨w3.heap.size, 1, none⟩ = some (.int .i64 T2) ∧ v.cell? ⟨w4.heap.size, 0, none⟩ = some (.int .i64 T1) ∧ v.cell? ⟨w4.heap.size, 1, none⟩ = some (.int .i64 T2)) ⟨below_al hbb _, cell_alloc an _, cell_alloc ad _, cell_alloc bn _, cell_alloc bd _, cell_alloc r0 _, cell_alloc r1 _, cell_alloc s0 _, cell_alloc s1 _, cell_alloc t0 _, cell_alloc t1 _, n20 _ _ _ _, n21 _ _ _ _⟩ (fun V4 hS => ?_)
  obtain ⟨hbb, an, ad, bn, bd, r0, r1, s0, s1, t0, t1, u0, u1⟩ := hS
  refine (C5.out _).mono ?_
  rintro e w5 ⟨rfl, hb⟩
  replace an := keepC hb an
  replace ad := keepC hb ad
  replace bn := keepC hb bn
  replace bd := keepC hb bd
  replace r0 := keepC hb r0
  replace r1 := keepC hb r1
  replace s0 := keepC hb s0
  replace s1 := keepC hb s1
  replace t0 := keepC hb t0
  replace t1 := keepC hb t1
  replace u0 := keepC hb u0
  replace u1 := keepC hb u1
  replace hbb := keepB hbb hb
  clear hb
  have l0 := lt_of_cell an
  have l1 := lt_of_cell bn
  have l2 := lt_of_cell r0
  have l3 := lt_of_cell s0
  have l4 := lt_of_cell t0
  have l5 := lt_of_cell u0
  go_wp2_with fail
  refine at_worldP (fun v => Below w.heap.size w v ∧ v.cell? ⟨w.heap.size, 0, none⟩ = some (.int .i64 n) ∧ v.cell? ⟨w.heap.size, 1, none⟩ = some (.int .i64 d) ∧ v.cell? ⟨w.heap.size + 1, 0, none⟩ = some (.int .i64 m) ∧ v.cell? ⟨w.heap.size + 1, 1, none⟩ = some (.int .i64 c) ∧ v.cell? ⟨w1.heap.size, 0, none⟩ = some (.int .i64 R1) ∧ v.cell? ⟨w1.heap.size, 1, none⟩ = some (.int .i64 R2) ∧ v.cell? ⟨w2.heap.size, 0, none⟩ = some (.int .i64 R1) ∧ v.cell? ⟨w2.heap.size, 1, none⟩ = some (.int .i64 R2) ∧ v.cell? ⟨w3.heap.size, 0, none⟩ = some (.int .i64 T1) ∧ v.cell? ⟨w3.heap.size, 1, none⟩ = some (.int .i64 T2) ∧ v.cell? ⟨w4.heap.size, 0, none⟩ = some (.int .i64 T1) ∧ v.cell? ⟨w4.heap.size, 1, none⟩ = some (.int .i64 T2) ∧ v.cell? ⟨w5.heap.size, 0, none⟩ = some (.int .i64 U1) ∧ v.cell? ⟨w5.heap.size, 1, none⟩ = some (.int .i64 U2)) ⟨below_al hbb _, cell_alloc an _, cell_alloc ad _, cell_alloc bn _, cell_alloc bd _, cell_alloc r0 _, cell_alloc r1 _, cell_alloc s0 _, cell_alloc s1 _, cell_alloc t0 _, cell_alloc t1 _, cell_alloc u0 _, cell_alloc u1 _, n20 _ _ _ _, n21 _ _ _ _⟩ (fun V5 hS => ?_)
  obtain ⟨hbb, an, ad, bn, bd, r0, r1, s0, s1, t0, t1, u0, u1, v0, v1⟩ := hS
  refine (C6.out _).mono ?_
  rintro e w6 ⟨rfl, hb⟩
  replace an := keepC hb an
  replace ad := keepC hb ad
  replace bn := keepC hb bn
  replace bd := keepC hb bd
  replace r0 := keepC hb r0
  replace r1 := keepC hb r1
  replace s0 := keepC hb s0
  replace s1 := keepC hb s1
  replace t0 := keepC hb t0
  replace t1 := keepC hb t1
  replace u0 := keepC hb u0
  replace u1 := keepC hb u1
  replace v0 := keepC hb v0
  replace v1 := keepC hb v1
  replace hbb := keepB hbb hb
  clear hb
  have l0 := lt_of_cell an
  have l1 := lt_of_cell bn
  have l2 := lt_of_cell r0
  have l3 := lt_of_cell s0
  have l4 := lt_of_cell t0
  have l5 := lt_of_cell u0
  have l6 := lt_of_cell v0
  go_wp2_with fail
  refine at_worldP (fun v => Below w.heap.size w v ∧ v.cell? ⟨w.heap.size, 0, none⟩ = some (.int .i64 n) ∧ v.cell? ⟨w.heap.size, 1, none⟩ = some (.int .i64 d) ∧ v.cell? ⟨w.heap.size + 1, 0, none⟩ = some (.int .i64 m) ∧ v.cell? ⟨w.heap.size + 1, 1, none⟩ = some (.int .i64 c) ∧ v.cell? ⟨w1.heap.size, 0, none⟩ = some (.int .i64 R1) ∧ v.cell? ⟨w1.heap.size, 1, none⟩ = some (.int .i64 R2) ∧ v.cell? ⟨w2.heap.size, 0, none⟩ = some (.int .i64 R1) ∧ v.cell? ⟨w2.heap.size, 1, none⟩ = some (.int .i64 R2) ∧ v.cell? ⟨w3.heap.size, 0, none⟩ = some (.int .i64 T1) ∧ v.cell? ⟨w3.heap.size, 1, none⟩ = some (.int .i64 T2) ∧ v.cell? ⟨w4.heap.size, 0, none⟩ = some (.int .i64 T1) ∧ v.cell? ⟨w4.heap.size, 1, none⟩ = some (.int .i64 T2) ∧ v.cell? ⟨w5.heap.size, 0, none⟩ = some (.int .i64 U1) ∧ v.cell? ⟨w5.heap.size, 1, none⟩ = some (.int .i64 U2) ∧ v.cell? ⟨w6.heap.size, 0, none⟩ = some (.int .i64 U1) ∧ v.cell? ⟨w6.heap.size, 1, none⟩ = some (.int .i64 U2)) ⟨below_al hbb _, cell_alloc an _, cell_alloc ad _, cell_alloc bn _, cell_alloc bd _, cell_alloc r0 _, cell_alloc r1 _, cell_alloc s0 _, cell_alloc s1 _, cell_alloc t0 _, cell_alloc t1 _, cell_alloc u0 _, cell_alloc u1 _, cell_alloc v0 _, cell_alloc v1 _, n20 _ _ _ _, n21 _ _ _ _⟩ (fun V6 hS => ?_)
  obtain ⟨hbb, an, ad, bn, bd, r0, r1, s0, s1, t0, t1, u0, u1, v0, v1, q0, q1⟩ := hS
  refine (C7.out _).mono ?_
  rintro e w7 ⟨rfl, hb⟩
  replace an := keepC hb an
  replace ad := keepC hb ad
  replace bn := keepC hb bn
  replace bd := keepC hb bd
  replace r0 := keepC hb r0
  replace r1 := keepC hb r1
  replace s0 := keepC hb s0
  replace s1 := keepC hb s1
  replace t0 := keepC hb t0
  replace t1 := keepC hb t1
  replace u0 := keepC hb u0
  replace u1 := keepC hb u1
  replace v0 := keepC hb v0
  replace v1 := keepC hb v1
  replace q0 := keepC hb q0
  replace q1 := keepC hb q1
  replace hbb := keepB hbb hb
  clear hb
  go_wp2_with fail
  refine (C8.out _).mono ?_
  rintro e w8 ⟨rfl, hb⟩
  replace an := keepC hb an
  replace ad := keepC hb ad
  replace bn := keepC hb bn
  replace bd := keepC hb bd
  replace r0 := keepC hb r0
  replace r1 := keepC hb r1
  replace s0 := keepC hb s0
  replace s1 := keepC hb s1
  replace t0 := keepC hb t0
  replace t1 := keepC hb t1
  replace u0 := keepC hb u0
  replace u1 := keepC hb u1
  replace v0 := keepC hb v0
  replace v1 := keepC hb v1
  replace q0 := keepC hb q0
  replace q1 := keepC hb q1
  replace hbb := keepB hbb hb
  clear hb
  clear C1 C2 C3 C4 C5 C6 C7 C8
  go_wp2
  go_ret
  exact ⟨rfl, hbb⟩
end Go.Proofs.Ytkphaclfapkfoaa
