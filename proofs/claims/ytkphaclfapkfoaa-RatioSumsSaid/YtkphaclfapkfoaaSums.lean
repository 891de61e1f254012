/- The walk of the law RatioSums: it answers true for any two ratios. -/
import Derived.Test.YtkphaclfapkfoaaRadda
import Derived.Test.YtkphaclfapkfoaaRcmp
namespace Go.Proofs.Ytkphaclfapkfoaa
open Go.RowKit

set_option maxHeartbeats 8000000 in
set_option maxRecDepth 100000 in
theorem sums_walk (n d m c : Int) (w : World) (n0 : -9223372036854775808 ≤ n) (n1 : n ≤ 9223372036854775807) (d0 : -9223372036854775808 ≤ d) (d1 : d ≤ 9223372036854775807)
    (m0 : -9223372036854775808 ≤ m) (m1 : m ≤ 9223372036854775807) (c0 : -9223372036854775808 ≤ c) (c1 : c ≤ 9223372036854775807) :
    Calls Try.prog 3 #[.agg #[.int .i64 n, .int .i64 d], .agg #[.int .i64 m, .int .i64 c]] w fun e w' => e = .returned (.bool true) ∧ Below w.heap.size w w' := by
  have a1 := fun w => Add_any n d m c w n0 n1 d0 d1 m0 m1 c0 c1
  have a2 := fun w => rAdd_any n d m c w n0 n1 d0 d1 m0 m1 c0 c1
  have s1 := fun w => Sub_any n d m c w n0 n1 d0 d1 m0 m1 c0 c1
  have s2 := fun w => rSub_any n d m c w n0 n1 d0 d1 m0 m1 c0 c1
  have k1 := fun w => Cmp_any n d m c w n0 n1 d0 d1 m0 m1 c0 c1
  have k2 := fun w => rCmp_any n d m c w n0 n1 d0 d1 m0 m1 c0 c1
  have h1 := fun w => check_any n d w n0 n1 d0 d1
  have h2 := fun w => rCheck_any n d w n0 n1 d0 d1
  generalize Rp.addS n d m c = R at *
  generalize Rp.subS n d m c = T at *
  generalize Rp.cmpS n d m c = K at *
  generalize Rp.chk n d = H at *
  obtain ⟨R1, R2, R3⟩ := R
  obtain ⟨T1, T2, T3⟩ := T
  obtain ⟨K1, K2⟩ := K
  dsimp only at a1 a2 s1 s2 k1 k2
  have CA := Lib.hid a1
  have CA2 := Lib.hid a2
  have CB := Lib.hid s1
  have CB2 := Lib.hid s2
  have CK := Lib.hid k1
  have CK2 := Lib.hid k2
  have CH := Lib.hid h1
  have CH2 := Lib.hid h2
  clear a1 a2 s1 s2 k1 k2 h1 h2 n0 n1 d0 d1 m0 m1 c0 c1
  go_enter Try.func3, Try.ntmps3
  go_wp2_with fail
  refine (CA.out _).mono ?_
  rintro e w1 ⟨rfl, hb1⟩
  have an : w1.cell? ⟨w.heap.size, 0, none⟩ = some (.int .i64 n) := keepC hb1 (by go_simp)
  have ad : w1.cell? ⟨w.heap.size, 1, none⟩ = some (.int .i64 d) := keepC hb1 (by go_simp)
  have bn : w1.cell? ⟨w.heap.size + 1, 0, none⟩ = some (.int .i64 m) := keepC hb1 (by go_simp)
  have bd : w1.cell? ⟨w.heap.size + 1, 1, none⟩ = some (.int .i64 c) := keepC hb1 (by go_simp)
  have hbb : Below w.heap.size w w1 := keepB (((Below.refl _ _).alloc (Nat.le_refl _) _).alloc (by simp) _) hb1
  clear hb1
  have l0 := lt_of_cell an
  have l1 := lt_of_cell bn
  go_wp2_with fail
  refine at_worldC (fun v => Below w.heap.size w v ∧ v.cell? ⟨w.heap.size, 0, none⟩ = some (.int .i64 n) ∧ v.cell? ⟨w.heap.size, 1, none⟩ = some (.int .i64 d) ∧ v.cell? ⟨w.heap.size + 1, 0, none⟩ = some (.int .i64 m) ∧ v.cell? ⟨w.heap.size + 1, 1, none⟩ = some (.int .i64 c) ∧ v.cell? ⟨w1.heap.size, 0, none⟩ = some (.int .i64 R1) ∧ v.cell? ⟨w1.heap.size, 1, none⟩ = some (.int .i64 R2)) ⟨below_al hbb _, cell_alloc an _, cell_alloc ad _, cell_alloc bn _, cell_alloc bd _, n20 _ _ _ _, n21 _ _ _ _⟩ (fun V1 hS => ?_)
  obtain ⟨hbb, an, ad, bn, bd, r0, r1⟩ := hS
  refine (CA2.out _).mono ?_
  rintro e w2 ⟨rfl, hb⟩
  replace an := keepC hb an
  replace ad := keepC hb ad
  replace bn := keepC hb bn
  replace bd := keepC hb bd
  replace r0 := keepC hb r0
  replace r1 := keepC hb r1
  replace hbb := keepB hbb hb
  clear hb
  have l0 := lt_of_cell an
  have l1 := lt_of_cell bn
  have l2 := lt_of_cell r0
  go_wp2_with fail
  refine at_worldC (fun v => Below w.heap.size w v ∧ v.cell? ⟨w.heap.size, 0, none⟩ = some (.int .i64 n) ∧ v.cell? ⟨w.heap.size, 1, none⟩ = some (.int .i64 d) ∧ v.cell? ⟨w.heap.size + 1, 0, none⟩ = some (.int .i64 m) ∧ v.cell? ⟨w.heap.size + 1, 1, none⟩ = some (.int .i64 c) ∧ v.cell? ⟨w1.heap.size, 0, none⟩ = some (.int .i64 R1) ∧ v.cell? ⟨w1.heap.size, 1, none⟩ = some (.int .i64 R2) ∧ v.cell? ⟨w2.heap.size, 0, none⟩ = some (.int .i64 R1) ∧ v.cell? ⟨w2.heap.size, 1, none⟩ = some (.int .i64 R2)) ⟨below_al hbb _, cell_alloc an _, cell_alloc ad _, cell_alloc bn _, cell_alloc bd _, cell_alloc r0 _, cell_alloc r1 _, n20 _ _ _ _, n21 _ _ _ _⟩ (fun V2 hS => ?_)
  obtain ⟨hbb, an, ad, bn, bd, r0, r1, s0, s1⟩ := hS
  refine (CB.out _).mono ?_
  rintro e w3 ⟨rfl, hb⟩
  replace an := keepC hb an
  replace ad := keepC hb ad
  replace bn := keepC hb bn
  replace bd := keepC hb bd
  replace r0 := keepC hb r0
  replace r1 := keepC hb r1
  replace s0 := keepC hb s0
  replace s1 := keepC hb s1
  replace hbb := keepB hbb hb
  clear hb
  have l0 := lt_of_cell an
  have l1 := lt_of_cell bn
  have l2 := lt_of_cell r0
  have l3 := lt_of_cell s0
  go_wp2_with fail
  refine at_worldC (fun v => Below w.heap.size w v ∧ v.cell? ⟨w.heap.size, 0, none⟩ = some (.int .i64 n) ∧ v.cell? ⟨w.heap.size, 1, none⟩ = some (.int .i64 d) ∧ v.cell? ⟨w.heap.size + 1, 0, none⟩ = some (.int .i64 m) ∧ v.cell? ⟨w.heap.size + 1, 1, none⟩ = some (.int .i64 c) ∧ v.cell? ⟨w1.heap.size, 0, none⟩ = some (.int .i64 R1) ∧ v.cell? ⟨w1.heap.size, 1, none⟩ = some (.int .i64 R2) ∧ v.cell? ⟨w2.heap.size, 0, none⟩ = some (.int .i64 R1) ∧ v.cell? ⟨w2.heap.size, 1, none⟩ = some (.int .i64 R2) ∧ v.cell? ⟨w3.heap.size, 0, none⟩ = some (.int .i64 T1) ∧ v.cell? ⟨w3.heap.size, 1, none⟩ = some (.int .i64 T2)) ⟨below_al hbb _, cell_alloc an _, cell_alloc ad _, cell_alloc bn _, cell_alloc bd _, cell_alloc r0 _, cell_alloc r1 _, cell_alloc s0 _, cell_alloc s1 _, n20 _ _ _ _, n21 _ _ _ _⟩ (fun V3 hS => ?_)
  obtain ⟨hbb, an, ad, bn, bd, r0, r1, s0, s1, t0, t1⟩ := hS
  refine (CB2.out _).mono ?_
  rintro e w4 ⟨rfl, hb⟩
  replace an := keepC hb an
  replace ad := keepC hb ad
  replace bn := keepC hb bn
  replace bd := keepC hb bd
  replace r0 := keepC hb r0
  replace r1 := keepC hb r1
  replace s0 := keepC hb s0
  replace s1 := keepC hb s1
  replace t0 := keepC hb t0
  replace t1 := keepC hb t1
  replace hbb := keepB hbb hb
  clear hb
  have l0 := lt_of_cell an
  have l1 := lt_of_cell bn
  have l2 := lt_of_cell r0
  have l3 := lt_of_cell s0
  have l4 := lt_of_cell t0
  go_wp2_with fail
  refine at_worldC (fun v => Below w.heap.size w v ∧ v.cell? ⟨w.heap.size, 0, none⟩ = some (.int .i64 n) ∧ v.cell? ⟨w.heap.size, 1, none⟩ = some (.int .i64 d) ∧ v.cell? ⟨w.heap.size + 1, 0, none⟩ = some (.int .i64 m) ∧ v.cell? ⟨w.heap.size + 1, 1, none⟩ = some (.int .i64 c) ∧ v.cell? ⟨w1.heap.size, 0, none⟩ = some (.int .i64 R1) ∧ v.cell? ⟨w1.heap.size, 1, none⟩ = some (.int .i64 R2) ∧ v.cell? ⟨w2.heap.size, 0, none⟩ = some (.int .i64 R1) ∧ v.cell? ⟨w2.heap.size, 1, none⟩ = some (.int .i64 R2) ∧ v.cell? ⟨w3.heap.size, 0, none⟩ = some (.int .i64 T1) ∧ v.cell? ⟨w3.heap.size, 1, none⟩ = some (.int .i64 T2) ∧ v.cell? ⟨w4.heap.size, 0, none⟩ = some (.int .i64 T1) ∧ v.cell? ⟨w4.heap.size, 1, none⟩ = some (.int .i64 T2)) ⟨below_al hbb _, cell_alloc an _, cell_alloc ad _, cell_alloc bn _, cell_alloc bd _, cell_alloc r0 _, cell_alloc r1 _, cell_alloc s0 _, cell_alloc s1 _, cell_alloc t0 _, cell_alloc t1 _, n20 _ _ _ _, n21 _ _ _ _⟩ (fun V4 hS => ?_)
  obtain ⟨hbb, an, ad, bn, bd, r0, r1, s0, s1, t0, t1, u0, u1⟩ := hS
  refine (CK.out _).mono ?_
  rintro e w5 ⟨rfl, hb⟩
  replace an := keepC hb an
  replace ad := keepC hb ad
  replace bn := keepC hb bn
  replace bd := keepC hb bd
  replace r0 := keepC hb r0
  replace r1 := keepC hb r1
  replace s0 := keepC hb s0
  replace s1 := keepC hb s1
  replace t0 := keepC hb t0
  replace t1 := keepC hb t1
  replace u0 := keepC hb u0
  replace u1 := keepC hb u1
  replace hbb := keepB hbb hb
  clear hb
  go_wp2_with fail
  refine (CK2.out _).mono ?_
  rintro e w6 ⟨rfl, hb⟩
  replace an := keepC hb an
  replace ad := keepC hb ad
  replace bn := keepC hb bn
  replace bd := keepC hb bd
  replace r0 := keepC hb r0
  replace r1 := keepC hb r1
  replace s0 := keepC hb s0
  replace s1 := keepC hb s1
  replace t0 := keepC hb t0
  replace t1 := keepC hb t1
  replace u0 := keepC hb u0
  replace u1 := keepC hb u1
  replace hbb := keepB hbb hb
  clear hb
  clear CA CA2 CB CB2 CK CK2
  go_wp2_with fail
  go_region_held3 (fun v => Below w.heap.size w v ∧ v.cell? ⟨w.heap.size, 0, none⟩ = some (.int .i64 n) ∧ v.cell? ⟨w.heap.size, 1, none⟩ = some (.int .i64 d) ∧ v.cell? ⟨w.heap.size + 1, 0, none⟩ = some (.int .i64 m) ∧ v.cell? ⟨w.heap.size + 1, 1, none⟩ = some (.int .i64 c) ∧ v.cell? ⟨w1.heap.size, 0, none⟩ = some (.int .i64 R1) ∧ v.cell? ⟨w1.heap.size, 1, none⟩ = some (.int .i64 R2) ∧ v.cell? ⟨w2.heap.size, 0, none⟩ = some (.int .i64 R1) ∧ v.cell? ⟨w2.heap.size, 1, none⟩ = some (.int .i64 R2) ∧ v.cell? ⟨w3.heap.size, 0, none⟩ = some (.int .i64 T1) ∧ v.cell? ⟨w3.heap.size, 1, none⟩ = some (.int .i64 T2) ∧ v.cell? ⟨w4.heap.size, 0, none⟩ = some (.int .i64 T1) ∧ v.cell? ⟨w4.heap.size, 1, none⟩ = some (.int .i64 T2))
    (first | (exact ⟨hbb.drew, an, ad, bn, bd, r0, r1, s0, s1, t0, t1, u0, u1⟩) | (with_reducible assumption) | (obtain ⟨k0, kan, kad, kbn, kbd, kr0, kr1, ks0, ks1, kt0, kt1, ku0, ku1⟩ := ‹Below w.heap.size w _ ∧ _›; exact ⟨keepB k0 hb3, keepC hb3 kan, keepC hb3 kad, keepC hb3 kbn, keepC hb3 kbd, keepC hb3 kr0, keepC hb3 kr1, keepC hb3 ks0, keepC hb3 ks1, keepC hb3 kt0, keepC hb3 kt1, keepC hb3 ku0, keepC hb3 ku1⟩))
    (first
      | (go_at_call 16; refine (CH.out _).mono ?_; rintro e w3' ⟨rfl, hb3⟩)
      | (go_at_call 17; refine (CH2.out _).mono ?_; rintro e w3' ⟨rfl, hb3⟩))
  go_wp2
  go_ret
  obtain ⟨k0, kan, kad, kbn, kbd, kr0, kr1, ks0, ks1, kt0, kt1, ku0, ku1⟩ := ‹Below w.heap.size w _ ∧ _›
  exact ⟨rfl, k0⟩
end Go.Proofs.Ytkphaclfapkfoaa
