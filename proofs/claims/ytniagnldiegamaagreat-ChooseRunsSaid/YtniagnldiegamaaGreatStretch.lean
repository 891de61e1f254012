/- Package cake's greater, lesser, measure and reach. -/
import Derived.Test.YtniagnldiegamaaGreatPoint
import Derived.Test.YtniagnldiegamaaGreatGt
import Derived.Deep.CutBlock
import Derived.Deep.DeepCutAuto
namespace Go.Proofs.YtniagnldiegamaaGreat
open Go.RowKit
/-- The greater one, the lesser one of two fractions. -/
def Ck.mxS (n d m c : Int) : Int × Int := if Rp.q n d < Rp.q m c then (m, c) else (n, d)
def Ck.mnS (n d m c : Int) : Int × Int := if Rp.q m c < Rp.q n d then (m, c) else (n, d)
/-- A stretch's worth, or the error that stands for it. -/
def Ck.wthS (n d m c k : Int) : Int × Int × Int := if (Rp.subS m c n d).2.2 = 0 then Rp.mulS (Rp.subS m c n d).1 (Rp.subS m c n d).2.1 k 1 else (0, 0, (Rp.subS m c n d).2.2)
/-- How far a density reaches for a value, from a point on. -/
def Ck.rchS (n d k m c : Int) : Int × Int × Int := if (Rp.divS m c k 1).2.2 = 0 then Rp.addS n d (Rp.divS m c k 1).1 (Rp.divS m c k 1).2.1 else (0, 0, (Rp.divS m c k 1).2.2)

set_option maxHeartbeats 1000000 in
set_option maxRecDepth 100000 in
theorem ckgreater_any (n d m c : Int) (h : Rp.Ok n d) (k : Rp.Ok m c) (w : World) :
    Calls Tryz.prog 190 #[.agg #[.int .i64 n, .int .i64 d], .agg #[.int .i64 m, .int .i64 c]] w fun e w' => e = .returned (.agg #[.int .i64 (Ck.mxS n d m c).1, .int .i64 (Ck.mxS n d m c).2]) ∧ Below w.heap.size w w' := by
  have cc := fun w => ckless_any n d m c h k w
  unfold Ck.mxS
  clear h k
  by_cases g : Rp.q n d < Rp.q m c
  · rw [if_pos g]
    rw [decide_eq_true g] at cc; have CC := Lib.hid cc; clear cc g
    go_enter Tryz.func190, Tryz.ntmps190
    (go_wp2_with fail); refine (CC.out _).mono ?_; rintro e w1 ⟨rfl, hb⟩; have b0 : w1.cell? ⟨w.heap.size + 1, 0, none⟩ = some (.int .i64 m) := keepC hb (by go_simp); have b1 : w1.cell? ⟨w.heap.size + 1, 1, none⟩ = some (.int .i64 c) := keepC hb (by go_simp); have r0 : w1.cell? ⟨w.heap.size + 1 + 1, 0, none⟩ = some (.int .i64 0) := keepC hb (by go_simp); have r1 : w1.cell? ⟨w.heap.size + 1 + 1, 1, none⟩ = some (.int .i64 0) := keepC hb (by go_simp); have f0 : w1.frozen? ⟨w.heap.size + 1 + 1, 0, none⟩ = false := keepF hb (v := .int .i64 0) (by go_simp) (by go_simp); have f1 : w1.frozen? ⟨w.heap.size + 1 + 1, 1, none⟩ = false := keepF hb (v := .int .i64 0) (by go_simp) (by go_simp); have hbb : Below w.heap.size w w1 := keepB ((((Below.refl _ _).alloc (Nat.le_refl _) _).alloc (by simp) _).alloc (by simp; omega) _) hb; clear hb CC; (go_wp2_with fail); exact bodyPost_ret (v := .agg #[.int .i64 m, .int .i64 c]) (by simp [results, Tryz.results190, go_sem, r0, r1]) rfl ⟨rfl, below_set (below_set hbb (by omega) _) (by omega) _⟩
  · rw [if_neg g]
    rw [decide_eq_false g] at cc; have CC := Lib.hid cc; clear cc g
    go_enter Tryz.func190, Tryz.ntmps190
    (go_wp2_with fail); refine (CC.out _).mono ?_; rintro e w1 ⟨rfl, hb⟩; have b0 : w1.cell? ⟨w.heap.size, 0, none⟩ = some (.int .i64 n) := keepC hb (by go_simp); have b1 : w1.cell? ⟨w.heap.size, 1, none⟩ = some (.int .i64 d) := keepC hb (by go_simp); have r0 : w1.cell? ⟨w.heap.size + 1 + 1, 0, none⟩ = some (.int .i64 0) := keepC hb (by go_simp); have r1 : w1.cell? ⟨w.heap.size + 1 + 1, 1, none⟩ = some (.int .i64 0) := keepC hb (by go_simp); have f0 : w1.frozen? ⟨w.heap.size + 1 + 1, 0, none⟩ = false := keepF hb (v := .int .i64 0) (by go_simp) (by go_simp); have f1 : w1.frozen? ⟨w.heap.size + 1 + 1, 1, none⟩ = false := keepF hb (v := .int .i64 0) (by go_simp) (by go_simp); have hbb : Below w.heap.size w w1 := keepB ((((Below.refl _ _).alloc (Nat.le_refl _) _).alloc (by simp) _).alloc (by simp; omega) _) hb; clear hb CC; (go_wp2_with fail); exact bodyPost_ret (v := .agg #[.int .i64 n, .int .i64 d]) (by simp [results, Tryz.results190, go_sem, r0, r1]) rfl ⟨rfl, below_set (below_set hbb (by omega) _) (by omega) _⟩

set_option maxHeartbeats 1000000 in
set_option maxRecDepth 100000 in
theorem cklesser_any (n d m c : Int) (h : Rp.Ok n d) (k : Rp.Ok m c) (w : World) :
    Calls Tryz.prog 191 #[.agg #[.int .i64 n, .int .i64 d], .agg #[.int .i64 m, .int .i64 c]] w fun e w' => e = .returned (.agg #[.int .i64 (Ck.mnS n d m c).1, .int .i64 (Ck.mnS n d m c).2]) ∧ Below w.heap.size w w' := by
  have cc := fun w => ckless_any m c n d k h w
  unfold Ck.mnS
  clear h k
  by_cases g : Rp.q m c < Rp.q n d
  · rw [if_pos g]
    rw [decide_eq_true g] at cc; have CC := Lib.hid cc; clear cc g
    go_enter Tryz.func191, Tryz.ntmps191
    (go_wp2_with fail); refine (CC.out _).mono ?_; rintro e w1 ⟨rfl, hb⟩; have b0 : w1.cell? ⟨w.heap.size + 1, 0, none⟩ = some (.int .i64 m) := keepC hb (by go_simp); have b1 : w1.cell? ⟨w.heap.size + 1, 1, none⟩ = some (.int .i64 c) := keepC hb (by go_simp); have r0 : w1.cell? ⟨w.heap.size + 1 + 1, 0, none⟩ = some (.int .i64 0) := keepC hb (by go_simp); have r1 : w1.cell? ⟨w.heap.size + 1 + 1, 1, none⟩ = some (.int .i64 0) := keepC hb (by go_simp); have f0 : w1.frozen? ⟨w.heap.size + 1 + 1, 0, none⟩ = false := keepF hb (v := .int .i64 0) (by go_simp) (by go_simp); have f1 : w1.frozen? ⟨w.heap.size + 1 + 1, 1, none⟩ = false := keepF hb (v := .int .i64 0) (by go_simp) (by go_simp); have hbb : Below w.heap.size w w1 := keepB ((((Below.refl _ _).alloc (Nat.le_refl _) _).alloc (by simp) _).alloc (by simp; omega) _) hb; clear hb CC; (go_wp2_with fail); exact bodyPost_ret (v := .agg #[.int .i64 m, .int .i64 c]) (by simp [results, Tryz.results191, go_sem, r0, r1]) rfl ⟨rfl, below_set (below_set hbb (by omega) _) (by omega) _⟩
  · rw [if_neg g]
    rw [decide_eq_false g] at cc; have CC := Lib.hid cc; clear cc g
    go_enter Tryz.func191, Tryz.ntmps191
    (go_wp2_with fail); refine (CC.out _).mono ?_; rintro e w1 ⟨rfl, hb⟩; have b0 : w1.cell? ⟨w.heap.size, 0, none⟩ = some (.int .i64 n) := keepC hb (by go_simp); have b1 : w1.cell? ⟨w.heap.size, 1, none⟩ = some (.int .i64 d) := keepC hb (by go_simp); have r0 : w1.cell? ⟨w.heap.size + 1 + 1, 0, none⟩ = some (.int .i64 0) := keepC hb (by go_simp); have r1 : w1.cell? ⟨w.heap.size + 1 + 1, 1, none⟩ = some (.int .i64 0) := keepC hb (by go_simp); have f0 : w1.frozen? ⟨w.heap.size + 1 + 1, 0, none⟩ = false := keepF hb (v := .int .i64 0) (by go_simp) (by go_simp); have f1 : w1.frozen? ⟨w.heap.size + 1 + 1, 1, none⟩ = false := keepF hb (v := .int .i64 0) (by go_simp) (by go_simp); have hbb : Below w.heap.size w w1 := keepB ((((Below.refl _ _).alloc (Nat.le_refl _) _).alloc (by simp) _).alloc (by simp; omega) _) hb; clear hb CC; (go_wp2_with fail); exact bodyPost_ret (v := .agg #[.int .i64 n, .int .i64 d]) (by simp [results, Tryz.results191, go_sem, r0, r1]) rfl ⟨rfl, below_set (below_set hbb (by omega) _) (by omega) _⟩

set_option maxHeartbeats 4000000 in
set_option maxRecDepth 100000 in
theorem ckmeasure_any (n d m c k : Int) (h : Rp.Ok n d) (h2 : Rp.Ok m c) (k0 : -1000000000000000000 ≤ k) (k1 : k ≤ 1000000000000000000) (w : World) :
    Calls Tryz.prog 192 #[.agg #[.int .i64 n, .int .i64 d], .agg #[.int .i64 m, .int .i64 c], .int .i64 k] w fun e w' => e = .returned (.tuple #[if (Ck.wthS n d m c k).2.2 = 0 then .agg #[.int .i64 n, .int .i64 d, .int .i64 (Ck.wthS n d m c k).1, .int .i64 (Ck.wthS n d m c k).2.1, .int .i64 k] else .agg #[.int .i64 0, .int .i64 0, .int .i64 0, .int .i64 0, .int .i64 0], .int .i64 (Ck.wthS n d m c k).2.2]) ∧ Below w.heap.size w w' := by
  have h' := h; have h2' := h2; obtain ⟨e1, e2, e3, e4, _⟩ := h'; obtain ⟨g1, g2, g3, g4, _⟩ := h2'
  have cs := fun w => Sub_any m c n d w (by omega) (by omega) (by omega) (by omega) (by omega) (by omega) (by omega) (by omega)
  have hs := Rp.ofQ_cases (Rp.q m c - Rp.q n d); rw [← Rp.subS_ok h2 h] at hs; obtain ⟨⟨W1, W2, W3⟩, hW⟩ : ∃ W, Ck.wthS n d m c k = W := ⟨_, rfl⟩; rw [hW]
  dsimp only
  obtain ⟨RV, hRV⟩ : ∃ RV : Value, (if W3 = 0 then .agg #[.int .i64 n, .int .i64 d, .int .i64 W1, .int .i64 W2, .int .i64 k] else .agg #[.int .i64 0, .int .i64 0, .int .i64 0, .int .i64 0, .int .i64 0]) = RV := ⟨_, rfl⟩; rw [hRV]
  unfold Ck.wthS at hW
  obtain ⟨⟨s1, s2, s3⟩, hS⟩ : ∃ S, Rp.subS m c n d = S := ⟨_, rfl⟩; rw [hS] at cs hs hW; dsimp only at cs hs hW; have CS := Lib.hid cs; clear cs hS e1 e2 e3 e4 g1 g2 g3 g4 h h2
  rcases hs with ⟨rfl, hok, _⟩ | hs
  · have n1 : (((0 : Int)) != 0) = false := rfl
    have hok' := hok; obtain ⟨e1, e2, e3, e4, _⟩ := hok'
    have cm := fun w => Mul_any s1 s2 k 1 w (by omega) (by omega) (by omega) (by omega) (by omega) (by omega) (by omega) (by omega)
    have ht := Rp.ofQ_cases (Rp.q s1 s2 * Rp.q k 1); rw [← Rp.mulS_ok hok (Rp.Ok_one k0 k1)] at ht; rw [if_pos rfl] at hW; rw [hW] at cm ht; dsimp only at cm ht
    have ht' : W3 = 0 ∨ (W1 = 0 ∧ W2 = 0 ∧ W3 = 16) := by
      rcases ht with ⟨e, _⟩ | e
      · exact .inl e
      · simp only [Prod.mk.injEq] at e
        exact .inr e
    have CM := Lib.hid cm; have CW := Lib.hid (fun w => ckwhole_any k w); have HV := Lib.hid hRV; clear cm ht hW hok e1 e2 e3 e4 hRV
    go_enter Tryz.func192, Tryz.ntmps192
    (go_wp2_with fail); refine (CS.out _).mono ?_; rintro e w1 ⟨rfl, hb⟩; have a0 : w1.cell? ⟨w.heap.size, 0, none⟩ = some (.int .i64 n) := keepC hb (by go_simp); have a1 : w1.cell? ⟨w.heap.size, 1, none⟩ = some (.int .i64 d) := keepC hb (by go_simp); have r0 : w1.cell? ⟨w.heap.size + 1 + 1, 0, none⟩ = some (.int .i64 0) := keepC hb (by go_simp); have r1 : w1.cell? ⟨w.heap.size + 1 + 1, 1, none⟩ = some (.int .i64 0) := keepC hb (by go_simp); have r2 : w1.cell? ⟨w.heap.size + 1 + 1, 2, none⟩ = some (.int .i64 0) := keepC hb (by go_simp); have r3 : w1.cell? ⟨w.heap.size + 1 + 1, 3, none⟩ = some (.int .i64 0) := keepC hb (by go_simp); have r4 : w1.cell? ⟨w.heap.size + 1 + 1, 4, none⟩ = some (.int .i64 0) := keepC hb (by go_simp); have fr0 : w1.frozen? ⟨w.heap.size + 1 + 1, 0, none⟩ = false := keepF hb (v := .int .i64 0) (by go_simp) (by go_simp); have fr1 : w1.frozen? ⟨w.heap.size + 1 + 1, 1, none⟩ = false := keepF hb (v := .int .i64 0) (by go_simp) (by go_simp); have fr2 : w1.frozen? ⟨w.heap.size + 1 + 1, 2, none⟩ = false := keepF hb (v := .int .i64 0) (by go_simp) (by go_simp); have fr3 : w1.frozen? ⟨w.heap.size + 1 + 1, 3, none⟩ = false := keepF hb (v := .int .i64 0) (by go_simp) (by go_simp); have fr4 : w1.frozen? ⟨w.heap.size + 1 + 1, 4, none⟩ = false := keepF hb (v := .int .i64 0) (by go_simp) (by go_simp); have hbb : Below w.heap.size w w1 := keepB ((((Below.refl _ _).alloc (Nat.le_refl _) _).alloc (by simp) _).alloc (by simp; omega) _) hb; have l1 := lt_of_cell a0; have l2 := lt_of_cell r0; clear hb CS
    go_upto_region 4 with fail
    refine at_worldQ (fun v => Below w.heap.size w v ∧ v.cell? ⟨w.heap.size, 0, none⟩ = some (.int .i64 n) ∧ v.cell? ⟨w.heap.size, 1, none⟩ = some (.int .i64 d) ∧ v.cell? ⟨w.heap.size + 1 + 1, 0, none⟩ = some (.int .i64 0) ∧ v.cell? ⟨w.heap.size + 1 + 1, 1, none⟩ = some (.int .i64 0) ∧ v.cell? ⟨w.heap.size + 1 + 1, 2, none⟩ = some (.int .i64 0) ∧ v.cell? ⟨w.heap.size + 1 + 1, 3, none⟩ = some (.int .i64 0) ∧ v.cell? ⟨w.heap.size + 1 + 1, 4, none⟩ = some (.int .i64 0) ∧ v.cell? ⟨w1.heap.size, 0, none⟩ = some (.int .i64 s1) ∧ v.cell? ⟨w1.heap.size, 1, none⟩ = some (.int .i64 s2) ∧ v.frozen? ⟨w.heap.size + 1 + 1, 0, none⟩ = false ∧ v.frozen? ⟨w.heap.size + 1 + 1, 1, none⟩ = false ∧ v.frozen? ⟨w.heap.size + 1 + 1, 2, none⟩ = false ∧ v.frozen? ⟨w.heap.size + 1 + 1, 3, none⟩ = false ∧ v.frozen? ⟨w.heap.size + 1 + 1, 4, none⟩ = false) ⟨below_al hbb _, cell_alloc a0 _, cell_alloc a1 _, cell_alloc r0 _, cell_alloc r1 _, cell_alloc r2 _, cell_alloc r3 _, cell_alloc r4 _, n20 _ _ _ _, n21 _ _ _ _, froz_alloc r0 fr0 _, froz_alloc r1 fr1 _, froz_alloc r2 fr2 _, froz_alloc r3 fr3 _, froz_alloc r4 fr4 _⟩ (fun V hS => ?_); clear hbb a0 a1 r0 r1 r2 r3 r4 fr0 fr1 fr2 fr3 fr4; obtain ⟨hbb, a0, a1, r0, r1, r2, r3, r4, l0, l1, fr0, fr1, fr2, fr3, fr4⟩ := hS; have v3 := lt_of_cell l0
    go_cut [9, 10] (fun y x v => ∃ p : Nat, x = .pointer (some ⟨p, 0, none⟩) ∧ y = .int .i64 W3 ∧ Below V.heap.size V v ∧ v.cell? ⟨p, 0, none⟩ = some (.int .i64 W1) ∧ v.cell? ⟨p, 1, none⟩ = some (.int .i64 W2))
    case first =>
      go_region_held3 (fun v => Below V.heap.size V v ∧ v.cell? ⟨w1.heap.size, 0, none⟩ = some (.int .i64 s1) ∧ v.cell? ⟨w1.heap.size, 1, none⟩ = some (.int .i64 s2))
        (first | (exact ⟨(Below.refl _ _).drew, l0, l1⟩) | (obtain ⟨k0, kl0, kl1⟩ := ‹Below V.heap.size V _ ∧ _›; exact ⟨keepB k0 hb3, keepC hb3 kl0, keepC hb3 kl1⟩) | (exact ⟨below_al j0.out _, cell_alloc jl0.out _, cell_alloc jl1.out _⟩) | (obtain ⟨k0, kl0, kl1⟩ := ‹Below V.heap.size V _ ∧ _›; exact ⟨below_al k0 _, cell_alloc kl0 _, cell_alloc kl1 _⟩) | (exact ⟨below_set (below_set j0.out (by omega) _) (by omega) _, cell_far (cell_far jl0.out (by omega) _) (by omega) _, cell_far (cell_far jl1.out (by omega) _) (by omega) _⟩))
        (first
          | (go_at_call 172; refine (CW.out _).mono ?_; rintro e w3 ⟨rfl, hb3⟩; (first | (replace fnb0 := keepF hb3 nb0 fnb0; replace fnb1 := keepF hb3 nb1 fnb1; replace nb0 := keepC hb3 nb0; replace nb1 := keepC hb3 nb1) | (obtain ⟨k0, kl0, kl1⟩ := ‹Below V.heap.size V _ ∧ _›; have nb0 := keepC hb3 (n20 _ _ _ _); have nb1 := keepC hb3 (n21 _ _ _ _); have fnb0 := keepF hb3 (n20 _ _ _ _) (n2f _ _ _ _ 0); have fnb1 := keepF hb3 (n21 _ _ _ _) (n2f _ _ _ _ 1); clear k0 kl0 kl1) | skip); obtain ⟨k0, kl0, kl1⟩ := ‹Below V.heap.size V _ ∧ _›; have i0 := (keepB k0 hb3).size; clear k0 kl0 kl1)
          | (go_at_call 139; refine (CM.out _).mono ?_; rintro e w3 ⟨rfl, hb3⟩; (first | (replace fnb0 := keepF hb3 nb0 fnb0; replace fnb1 := keepF hb3 nb1 fnb1; replace nb0 := keepC hb3 nb0; replace nb1 := keepC hb3 nb1) | (obtain ⟨k0, kl0, kl1⟩ := ‹Below V.heap.size V _ ∧ _›; have nb0 := keepC hb3 (n20 _ _ _ _); have nb1 := keepC hb3 (n21 _ _ _ _); have fnb0 := keepF hb3 (n20 _ _ _ _) (n2f _ _ _ _ 0); have fnb1 := keepF hb3 (n21 _ _ _ _) (n2f _ _ _ _ 1); clear k0 kl0 kl1) | skip); obtain ⟨k0, kl0, kl1⟩ := ‹Below V.heap.size V _ ∧ _›; have j0 := Lib.hid (keepB k0 hb3); have jl0 := Lib.hid (keepC hb3 kl0); have jl1 := Lib.hid (keepC hb3 kl1); clear k0 kl0 kl1))
      all_goals
        go_wp2_with fail
        go_meet
        refine ⟨_, rfl, rfl, ?_, ?_, ?_⟩
        · obtain ⟨k0, kl0, kl1⟩ := ‹Below V.heap.size V _ ∧ _›; exact k0
        · go_simp
        · go_simp
    case rest =>
      obtain ⟨p, rfl, rfl, hv, q0, q1⟩ := hcut; replace fr0 := keepF hv r0 fr0; replace fr1 := keepF hv r1 fr1; replace fr2 := keepF hv r2 fr2; replace fr3 := keepF hv r3 fr3; replace fr4 := keepF hv r4 fr4; replace a0 := keepC hv a0; replace a1 := keepC hv a1; replace r0 := keepC hv r0; replace r1 := keepC hv r1; replace r2 := keepC hv r2; replace r3 := keepC hv r3; replace r4 := keepC hv r4; replace hbb := keepB hbb hv; clear hv l0 l1 v3
      rcases ht' with rfl | ⟨rfl, rfl, rfl⟩
      · have e := HV.out
        rw [if_pos rfl] at e; subst e; clear HV; (go_wp2_with fail); exact bodyPost_ret (v := .tuple #[.agg #[.int .i64 n, .int .i64 d, .int .i64 W1, .int .i64 W2, .int .i64 k], .int .i64 0]) (by simp [results, Tryz.results192, go_sem, r0, r1, r2, r3, r4]) rfl ⟨rfl, below_set (below_set (below_set (below_set (below_set (hbb) (by omega) _) (by omega) _) (by omega) _) (by omega) _) (by omega) _⟩
      · have n2 : (((16 : Int)) != 0) = true := rfl
        have e := HV.out; rw [if_neg (show ¬ (16 : Int) = 0 by decide)] at e; subst e; clear HV; (go_wp2_with fail); exact bodyPost_ret (v := .tuple #[.agg #[.int .i64 0, .int .i64 0, .int .i64 0, .int .i64 0, .int .i64 0], .int .i64 16]) (by simp [results, Tryz.results192, go_sem, r0, r1, r2, r3, r4]) rfl ⟨rfl, below_set (below_set (below_set (below_set (below_set (hbb) (by omega) _) (by omega) _) (by omega) _) (by omega) _) (by omega) _⟩
  · simp only [Prod.mk.injEq] at hs
    obtain ⟨rfl, rfl, rfl⟩ := hs; have n1 : (((16 : Int)) != 0) = true := rfl; rw [if_neg (show ¬ (16 : Int) = 0 by decide)] at hW
    simp only [Prod.mk.injEq] at hW
    obtain ⟨rfl, rfl, rfl⟩ := hW; rw [if_neg (show ¬ (16 : Int) = 0 by decide)] at hRV; subst hRV
    go_enter Tryz.func192, Tryz.ntmps192
    (go_wp2_with fail); refine (CS.out _).mono ?_; rintro e w1 ⟨rfl, hb⟩; have a0 : w1.cell? ⟨w.heap.size, 0, none⟩ = some (.int .i64 n) := keepC hb (by go_simp); have a1 : w1.cell? ⟨w.heap.size, 1, none⟩ = some (.int .i64 d) := keepC hb (by go_simp); have r0 : w1.cell? ⟨w.heap.size + 1 + 1, 0, none⟩ = some (.int .i64 0) := keepC hb (by go_simp); have r1 : w1.cell? ⟨w.heap.size + 1 + 1, 1, none⟩ = some (.int .i64 0) := keepC hb (by go_simp); have r2 : w1.cell? ⟨w.heap.size + 1 + 1, 2, none⟩ = some (.int .i64 0) := keepC hb (by go_simp); have r3 : w1.cell? ⟨w.heap.size + 1 + 1, 3, none⟩ = some (.int .i64 0) := keepC hb (by go_simp); have r4 : w1.cell? ⟨w.heap.size + 1 + 1, 4, none⟩ = some (.int .i64 0) := keepC hb (by go_simp); have fr0 : w1.frozen? ⟨w.heap.size + 1 + 1, 0, none⟩ = false := keepF hb (v := .int .i64 0) (by go_simp) (by go_simp); have fr1 : w1.frozen? ⟨w.heap.size + 1 + 1, 1, none⟩ = false := keepF hb (v := .int .i64 0) (by go_simp) (by go_simp); have fr2 : w1.frozen? ⟨w.heap.size + 1 + 1, 2, none⟩ = false := keepF hb (v := .int .i64 0) (by go_simp) (by go_simp); have fr3 : w1.frozen? ⟨w.heap.size + 1 + 1, 3, none⟩ = false := keepF hb (v := .int .i64 0) (by go_simp) (by go_simp); have fr4 : w1.frozen? ⟨w.heap.size + 1 + 1, 4, none⟩ = false := keepF hb (v := .int .i64 0) (by go_simp) (by go_simp); have hbb : Below w.heap.size w w1 := keepB ((((Below.refl _ _).alloc (Nat.le_refl _) _).alloc (by simp) _).alloc (by simp; omega) _) hb; clear hb CS
    go_upto_region 2 with fail
    refine at_worldQ (fun v => Below w.heap.size w v ∧ v.cell? ⟨w.heap.size + 1 + 1, 0, none⟩ = some (.int .i64 0) ∧ v.cell? ⟨w.heap.size + 1 + 1, 1, none⟩ = some (.int .i64 0) ∧ v.cell? ⟨w.heap.size + 1 + 1, 2, none⟩ = some (.int .i64 0) ∧ v.cell? ⟨w.heap.size + 1 + 1, 3, none⟩ = some (.int .i64 0) ∧ v.cell? ⟨w.heap.size + 1 + 1, 4, none⟩ = some (.int .i64 0) ∧ v.frozen? ⟨w.heap.size + 1 + 1, 0, none⟩ = false ∧ v.frozen? ⟨w.heap.size + 1 + 1, 1, none⟩ = false ∧ v.frozen? ⟨w.heap.size + 1 + 1, 2, none⟩ = false ∧ v.frozen? ⟨w.heap.size + 1 + 1, 3, none⟩ = false ∧ v.frozen? ⟨w.heap.size + 1 + 1, 4, none⟩ = false) ⟨below_al hbb _, cell_alloc r0 _, cell_alloc r1 _, cell_alloc r2 _, cell_alloc r3 _, cell_alloc r4 _, froz_alloc r0 fr0 _, froz_alloc r1 fr1 _, froz_alloc r2 fr2 _, froz_alloc r3 fr3 _, froz_alloc r4 fr4 _⟩ (fun V hS => ?_); clear hbb a0 a1 r0 r1 r2 r3 r4 fr0 fr1 fr2 fr3 fr4; obtain ⟨hbb, r0, r1, r2, r3, r4, fr0, fr1, fr2, fr3, fr4⟩ := hS; (go_wp2_with fail); exact bodyPost_ret (v := .tuple #[.agg #[.int .i64 0, .int .i64 0, .int .i64 0, .int .i64 0, .int .i64 0], .int .i64 16]) (by simp [results, Tryz.results192, go_sem, r0, r1, r2, r3, r4]) rfl ⟨rfl, below_set (below_set (below_set (below_set (below_set (hbb) (by omega) _) (by omega) _) (by omega) _) (by omega) _) (by omega) _⟩

set_option maxHeartbeats 4000000 in
set_option maxRecDepth 100000 in
theorem ckreach_any (n d x y k m c : Int) (h : Rp.Ok n d) (h2 : Rp.Ok m c) (k0 : 1 ≤ k) (k1 : k ≤ 1000000000000000000) (w : World) :
    Calls Tryz.prog 175 #[.agg #[.int .i64 n, .int .i64 d, .int .i64 x, .int .i64 y, .int .i64 k], .agg #[.int .i64 m, .int .i64 c]] w fun e w' => e = .returned (.tuple #[.agg #[.int .i64 (Ck.rchS n d k m c).1, .int .i64 (Ck.rchS n d k m c).2.1], .int .i64 (Ck.rchS n d k m c).2.2]) ∧ Below w.heap.size w w' := by
  have h' := h; have h2' := h2; obtain ⟨e1, e2, e3, e4, _⟩ := h'; obtain ⟨g1, g2, g3, g4, _⟩ := h2'
  have cd := fun w => Div_any m c k 1 w (by omega) (by omega) (by omega) (by omega) (by omega) (by omega) (by omega) (by omega)
  have hs := Rp.ofQ_cases (Rp.q m c / Rp.q k 1); rw [← Rp.divS_ok h2 (Rp.Ok_one (by omega) k1) (by omega)] at hs; obtain ⟨⟨W1, W2, W3⟩, hW⟩ : ∃ W, Ck.rchS n d k m c = W := ⟨_, rfl⟩; rw [hW]
  dsimp only
  unfold Ck.rchS at hW
  obtain ⟨⟨s1, s2, s3⟩, hS⟩ : ∃ S, Rp.divS m c k 1 = S := ⟨_, rfl⟩; rw [hS] at cd hs hW; dsimp only at cd hs hW; have CD := Lib.hid cd; have CW := Lib.hid (fun w => ckwhole_any k w)
  have hA := Lib.hid (fun (i0 : s3 = 0) w => (show Calls Tryz.prog 174 #[.agg #[.int .i64 n, .int .i64 d], .agg #[.int .i64 s1, .int .i64 s2]] w fun e w' => e = .returned (.tuple #[.agg #[.int .i64 W1, .int .i64 W2], .int .i64 W3]) ∧ Below w.heap.size w w' by
    rcases hs with ⟨_, hok, _⟩ | hs
    · obtain ⟨i1, i2, i3, i4, _⟩ := hok
      have ca := Add_any n d s1 s2 w (by omega) (by omega) (by omega) (by omega) (by omega) (by omega) (by omega) (by omega); rw [if_pos i0] at hW; rw [hW] at ca; exact ca
    · simp only [Prod.mk.injEq] at hs
      omega))
  have hE := Lib.hid (show s3 = 0 ∨ (s3 = 16 ∧ W1 = 0 ∧ W2 = 0 ∧ W3 = 16) by
    rcases hs with ⟨e, _⟩ | hs
    · exact .inl e
    · simp only [Prod.mk.injEq] at hs
      obtain ⟨rfl, rfl, rfl⟩ := hs; rw [if_neg (show ¬ (16 : Int) = 0 by decide)] at hW
      simp only [Prod.mk.injEq] at hW
      exact .inr ⟨rfl, hW.1.symm, hW.2.1.symm, hW.2.2.symm⟩)
  clear cd hs hW hS h h2 e1 e2 e3 e4 g1 g2 g3 g4
  go_enter Tryz.func175, Tryz.ntmps175
  go_upto_region 1 with fail
  refine at_worldQ (fun v => Below w.heap.size w v ∧ v.cell? ⟨w.heap.size, 0, none⟩ = some (.int .i64 n) ∧ v.cell? ⟨w.heap.size, 1, none⟩ = some (.int .i64 d) ∧ v.cell? ⟨w.heap.size, 4, none⟩ = some (.int .i64 k) ∧ v.cell? ⟨w.heap.size + 1, 0, none⟩ = some (.int .i64 m) ∧ v.cell? ⟨w.heap.size + 1, 1, none⟩ = some (.int .i64 c) ∧ v.cell? ⟨w.heap.size + 1 + 1, 0, none⟩ = some (.int .i64 0) ∧ v.cell? ⟨w.heap.size + 1 + 1, 1, none⟩ = some (.int .i64 0) ∧ v.frozen? ⟨w.heap.size + 1 + 1, 0, none⟩ = false ∧ v.frozen? ⟨w.heap.size + 1 + 1, 1, none⟩ = false) ⟨(((Below.refl _ _).alloc (Nat.le_refl _) _).alloc (by simp) _).alloc (by simp; omega) _, by go_simp, by go_simp, by go_simp, by go_simp, by go_simp, by go_simp, by go_simp, by go_simp, by go_simp⟩ (fun V hS => ?_); obtain ⟨hbb, b0, b1, b4, m0, m1, r0, r1, fr0, fr1⟩ := hS; have v1 := lt_of_cell b0; have v2 := lt_of_cell m0
  go_cut [6, 7] (fun x y v => ∃ p : Nat, x = .pointer (some ⟨p, 0, none⟩) ∧ y = .int .i64 s3 ∧ Below V.heap.size V v ∧ v.cell? ⟨p, 0, none⟩ = some (.int .i64 s1) ∧ v.cell? ⟨p, 1, none⟩ = some (.int .i64 s2))
  case first =>
    go_region_held3 (fun v => Below V.heap.size V v ∧ v.cell? ⟨w.heap.size, 4, none⟩ = some (.int .i64 k) ∧ v.cell? ⟨w.heap.size + 1, 0, none⟩ = some (.int .i64 m) ∧ v.cell? ⟨w.heap.size + 1, 1, none⟩ = some (.int .i64 c))
      (first | (exact ⟨(Below.refl _ _).drew, b4, m0, m1⟩) | (obtain ⟨k0, kb4, km0, km1⟩ := ‹Below V.heap.size V _ ∧ _›; exact ⟨keepB k0 hb3, keepC hb3 kb4, keepC hb3 km0, keepC hb3 km1⟩) | (exact ⟨below_al j0.out _, cell_alloc jb4.out _, cell_alloc jm0.out _, cell_alloc jm1.out _⟩) | (obtain ⟨k0, kb4, km0, km1⟩ := ‹Below V.heap.size V _ ∧ _›; exact ⟨below_al k0 _, cell_alloc kb4 _, cell_alloc km0 _, cell_alloc km1 _⟩) | (exact ⟨below_set (below_set j0.out (by omega) _) (by omega) _, cell_far (cell_far jb4.out (by omega) _) (by omega) _, cell_far (cell_far jm0.out (by omega) _) (by omega) _, cell_far (cell_far jm1.out (by omega) _) (by omega) _⟩))
      (first
        | (go_at_call 172; refine (CW.out _).mono ?_; rintro e w3 ⟨rfl, hb3⟩; (first | (replace fnb0 := keepF hb3 nb0 fnb0; replace fnb1 := keepF hb3 nb1 fnb1; replace nb0 := keepC hb3 nb0; replace nb1 := keepC hb3 nb1) | (obtain ⟨k0, kb4, km0, km1⟩ := ‹Below V.heap.size V _ ∧ _›; have nb0 := keepC hb3 (n20 _ _ _ _); have nb1 := keepC hb3 (n21 _ _ _ _); have fnb0 := keepF hb3 (n20 _ _ _ _) (n2f _ _ _ _ 0); have fnb1 := keepF hb3 (n21 _ _ _ _) (n2f _ _ _ _ 1); clear k0 kb4 km0 km1) | skip); obtain ⟨k0, kb4, km0, km1⟩ := ‹Below V.heap.size V _ ∧ _›; have i0 := (keepB k0 hb3).size; clear k0 kb4 km0 km1)
        | (go_at_call 194; refine (CD.out _).mono ?_; rintro e w3 ⟨rfl, hb3⟩; (first | (replace fnb0 := keepF hb3 nb0 fnb0; replace fnb1 := keepF hb3 nb1 fnb1; replace nb0 := keepC hb3 nb0; replace nb1 := keepC hb3 nb1) | (obtain ⟨k0, kb4, km0, km1⟩ := ‹Below V.heap.size V _ ∧ _›; have nb0 := keepC hb3 (n20 _ _ _ _); have nb1 := keepC hb3 (n21 _ _ _ _); have fnb0 := keepF hb3 (n20 _ _ _ _) (n2f _ _ _ _ 0); have fnb1 := keepF hb3 (n21 _ _ _ _) (n2f _ _ _ _ 1); clear k0 kb4 km0 km1) | skip); obtain ⟨k0, kb4, km0, km1⟩ := ‹Below V.heap.size V _ ∧ _›; have j0 := Lib.hid (keepB k0 hb3); have jb4 := Lib.hid (keepC hb3 kb4); have jm0 := Lib.hid (keepC hb3 km0); have jm1 := Lib.hid (keepC hb3 km1); clear k0 kb4 km0 km1))
    all_goals
      go_wp2_with fail
      go_meet
      refine ⟨_, rfl, rfl, ?_, ?_, ?_⟩
      · obtain ⟨k0, kb4, km0, km1⟩ := ‹Below V.heap.size V _ ∧ _›; exact k0
      · go_simp
      · go_simp
  case rest =>
    obtain ⟨p, rfl, rfl, hv, q0, q1⟩ := hcut; replace fr0 := keepF hv r0 fr0; replace fr1 := keepF hv r1 fr1; replace b0 := keepC hv b0; replace b1 := keepC hv b1; replace r0 := keepC hv r0; replace r1 := keepC hv r1; replace hbb := keepB hbb hv; clear hv b4 m0 m1 v1 v2
    rcases hE.out with rfl | ⟨rfl, rfl, rfl, rfl⟩
    · have CA := Lib.hid (hA.out rfl)
      have n1 : (((0 : Int)) != 0) = false := rfl; clear hA hE CD CW; (go_wp2_with fail); refine (CA.out _).mono ?_; rintro e w1 ⟨rfl, hb⟩; replace fr0 := keepF hb r0 fr0; replace fr1 := keepF hb r1 fr1; replace r0 := keepC hb r0; replace r1 := keepC hb r1; replace hbb := keepB hbb hb; clear hb CA; (go_wp2_with fail); exact bodyPost_ret (v := .tuple #[.agg #[.int .i64 W1, .int .i64 W2], .int .i64 W3]) (by simp [results, Tryz.results175, go_sem, r0, r1]) rfl ⟨rfl, below_set (below_set hbb (by omega) _) (by omega) _⟩
    · have n1 : (((16 : Int)) != 0) = true := rfl
      clear hA hE CD CW; (go_wp2_with fail); exact bodyPost_ret (v := .tuple #[.agg #[.int .i64 0, .int .i64 0], .int .i64 16]) (by simp [results, Tryz.results175, go_sem, r0, r1]) rfl ⟨rfl, below_set (below_set hbb (by omega) _) (by omega) _⟩
end Go.Proofs.YtniagnldiegamaaGreat

