/- The walk of the law CakeInverse: it answers true for any cake, any two points, any value and any third point. -/
import Derived.Test.YtomokdepndclpaaInvl
namespace Go.Proofs.Ytomokdepndclpaa
open Go.RowKit
set_option linter.unusedVariables false in
set_option linter.unusedSimpArgs false in
set_option maxHeartbeats 8000000 in
set_option maxRecDepth 100000 in
theorem inv_no1 (len : Int) (K : Option Addr) (cuts : List Int) (ck : Nat) (Z : Option Addr) (dens : List Int) (cz : Nat) (n1 d1 n2 d2 v1 v2 n3 d3 : Int) (w : World) (h : IsCake w len K cuts Z dens) (hn1 : I64 n1) (hd1 : I64 d1) (hn2 : I64 n2) (hd2 : I64 d2) (hv1 : I64 v1) (hv2 : I64 v2) (hn3 : I64 n3) (hd3 : I64 d3) (hv : Ck.vld len cuts dens n1 d1 n2 d2 = false) :
    Calls Try.prog 4 #[.agg #[.int .i64 len, .slice K cuts.length ck, .slice Z dens.length cz], .agg #[.int .i64 n1, .int .i64 d1], .agg #[.int .i64 n2, .int .i64 d2], .agg #[.int .i64 v1, .int .i64 v2], .agg #[.int .i64 n3, .int .i64 d3]] w fun e w' => e = .returned (.bool true) ∧ Below w.heap.size w w' := by
  have cv1 := fun v (hb : Below w.heap.size w v) => vld_any len K cuts ck Z dens cz n1 d1 n2 d2 v (h.keep hb) hn1 hd1 hn2 hd2
  obtain ⟨kn, hkn⟩ : ∃ kn, cuts.length = kn := ⟨_, rfl⟩
  obtain ⟨zn, hzn⟩ : ∃ zn, dens.length = zn := ⟨_, rfl⟩
  rw [hv] at cv1
  rw [hkn, hzn] at cv1 ⊢
  have CV1 := Lib.hid cv1
  clear cv1 hv h hkn hzn
  clear hn1 hd1 hn2 hd2 hv1 hv2 hn3 hd3
  go_enter Try.func4, Try.ntmps4
  go_wp2_with fail
  refine (CV1.out _ ((((((Below.refl _ _).alloc (Nat.le_refl _) _).alloc (by simp) _).alloc (by simp; omega) _).alloc (by simp; omega) _).alloc (by simp; omega) _)).mono ?_
  rintro e w1 ⟨rfl, hb⟩
  have B5 : BK w1 (w.heap.size) [.int .i64 len, .slice K kn ck, .slice Z zn cz] := BK.keep (v := _) ⟨by simp <;> omega, fun j x e => by
    match j with
    | 0 => injection e with e; subst e; exact ⟨by go_simp, by go_simp⟩
    | 1 => injection e with e; subst e; exact ⟨by go_simp, by go_simp⟩
    | 2 => injection e with e; subst e; exact ⟨by go_simp, by go_simp⟩
    | j + 3 => cases e⟩ hb
  have B6 : BK w1 (w.heap.size + 1) [.int .i64 n1, .int .i64 d1] := BK.keep (v := _) ⟨by simp <;> omega, fun j x e => by
    match j with
    | 0 => injection e with e; subst e; exact ⟨by go_simp, by go_simp⟩
    | 1 => injection e with e; subst e; exact ⟨by go_simp, by go_simp⟩
    | j + 2 => cases e⟩ hb
  have B7 : BK w1 (w.heap.size + 1 + 1) [.int .i64 n2, .int .i64 d2] := BK.keep (v := _) ⟨by simp <;> omega, fun j x e => by
    match j with
    | 0 => injection e with e; subst e; exact ⟨by go_simp, by go_simp⟩
    | 1 => injection e with e; subst e; exact ⟨by go_simp, by go_simp⟩
    | j + 2 => cases e⟩ hb
  have B8 : BK w1 (w.heap.size + 1 + 1 + 1) [.int .i64 v1, .int .i64 v2] := BK.keep (v := _) ⟨by simp <;> omega, fun j x e => by
    match j with
    | 0 => injection e with e; subst e; exact ⟨by go_simp, by go_simp⟩
    | 1 => injection e with e; subst e; exact ⟨by go_simp, by go_simp⟩
    | j + 2 => cases e⟩ hb
  have B9 : BK w1 (w.heap.size + 1 + 1 + 1 + 1) [.int .i64 n3, .int .i64 d3] := BK.keep (v := _) ⟨by simp <;> omega, fun j x e => by
    match j with
    | 0 => injection e with e; subst e; exact ⟨by go_simp, by go_simp⟩
    | 1 => injection e with e; subst e; exact ⟨by go_simp, by go_simp⟩
    | j + 2 => cases e⟩ hb
  have hbb : Below w.heap.size w w1 := keepB ((((((Below.refl _ _).alloc (Nat.le_refl _) _).alloc (by simp) _).alloc (by simp; omega) _).alloc (by simp; omega) _).alloc (by simp; omega) _) hb
  clear hb
  go_wp2_with fail
  refine (alive2_any _).mono ?_
  rintro e w2 ⟨rfl, hb⟩
  replace B5 := B5.keep hb
  replace B6 := B6.keep hb
  replace B7 := B7.keep hb
  replace B8 := B8.keep hb
  replace B9 := B9.keep hb
  replace hbb := keepB hbb hb
  clear hb
  go_wp2_with fail
  go_ret
  exact ⟨rfl, hbb⟩

set_option linter.unusedVariables false in
set_option linter.unusedSimpArgs false in
set_option maxHeartbeats 8000000 in
set_option maxRecDepth 100000 in
theorem inv_no2 (len : Int) (K : Option Addr) (cuts : List Int) (ck : Nat) (Z : Option Addr) (dens : List Int) (cz : Nat) (n1 d1 n2 d2 v1 v2 n3 d3 : Int) (w : World) (h : IsCake w len K cuts Z dens) (hn1 : I64 n1) (hd1 : I64 d1) (hn2 : I64 n2) (hd2 : I64 d2) (hv1 : I64 v1) (hv2 : I64 v2) (hn3 : I64 n3) (hd3 : I64 d3) (hv : Ck.vld len cuts dens n1 d1 n2 d2 = true) (hk : ¬ Rp.Ok v1 v2) :
    Calls Try.prog 4 #[.agg #[.int .i64 len, .slice K cuts.length ck, .slice Z dens.length cz], .agg #[.int .i64 n1, .int .i64 d1], .agg #[.int .i64 n2, .int .i64 d2], .agg #[.int .i64 v1, .int .i64 v2], .agg #[.int .i64 n3, .int .i64 d3]] w fun e w' => e = .returned (.bool true) ∧ Below w.heap.size w w' := by
  have cv1 := fun v (hb : Below w.heap.size w v) => vld_any len K cuts ck Z dens cz n1 d1 n2 d2 v (h.keep hb) hn1 hd1 hn2 hd2
  have ck1 := fun v => rCheck_any v1 v2 v hv1.1 hv1.2 hv2.1 hv2.2
  rw [show Rp.chk v1 v2 = 8 from if_neg hk] at ck1
  obtain ⟨kn, hkn⟩ : ∃ kn, cuts.length = kn := ⟨_, rfl⟩
  obtain ⟨zn, hzn⟩ : ∃ zn, dens.length = zn := ⟨_, rfl⟩
  rw [hv] at cv1
  rw [hkn, hzn] at cv1 ⊢
  have e0 : (((8 : Int)) != 0) = true := rfl
  have CV1 := Lib.hid cv1
  have CK := Lib.hid ck1
  clear cv1 ck1 hv hk h hkn hzn
  clear hn1 hd1 hn2 hd2 hv1 hv2 hn3 hd3
  go_enter Try.func4, Try.ntmps4
  go_wp2_with fail
  refine (CV1.out _ ((((((Below.refl _ _).alloc (Nat.le_refl _) _).alloc (by simp) _).alloc (by simp; omega) _).alloc (by simp; omega) _).alloc (by simp; omega) _)).mono ?_
  rintro e w1 ⟨rfl, hb⟩
  have B5 : BK w1 (w.heap.size) [.int .i64 len, .slice K kn ck, .slice Z zn cz] := BK.keep (v := _) ⟨by simp <;> omega, fun j x e => by
    match j with
    | 0 => injection e with e; subst e; exact ⟨by go_simp, by go_simp⟩
    | 1 => injection e with e; subst e; exact ⟨by go_simp, by go_simp⟩
    | 2 => injection e with e; subst e; exact ⟨by go_simp, by go_simp⟩
    | j + 3 => cases e⟩ hb
  have B6 : BK w1 (w.heap.size + 1) [.int .i64 n1, .int .i64 d1] := BK.keep (v := _) ⟨by simp <;> omega, fun j x e => by
    match j with
    | 0 => injection e with e; subst e; exact ⟨by go_simp, by go_simp⟩
    | 1 => injection e with e; subst e; exact ⟨by go_simp, by go_simp⟩
    | j + 2 => cases e⟩ hb
  have B7 : BK w1 (w.heap.size + 1 + 1) [.int .i64 n2, .int .i64 d2] := BK.keep (v := _) ⟨by simp <;> omega, fun j x e => by
    match j with
    | 0 => injection e with e; subst e; exact ⟨by go_simp, by go_simp⟩
    | 1 => injection e with e; subst e; exact ⟨by go_simp, by go_simp⟩
    | j + 2 => cases e⟩ hb
  have B8 : BK w1 (w.heap.size + 1 + 1 + 1) [.int .i64 v1, .int .i64 v2] := BK.keep (v := _) ⟨by simp <;> omega, fun j x e => by
    match j with
    | 0 => injection e with e; subst e; exact ⟨by go_simp, by go_simp⟩
    | 1 => injection e with e; subst e; exact ⟨by go_simp, by go_simp⟩
    | j + 2 => cases e⟩ hb
  have B9 : BK w1 (w.heap.size + 1 + 1 + 1 + 1) [.int .i64 n3, .int .i64 d3] := BK.keep (v := _) ⟨by simp <;> omega, fun j x e => by
    match j with
    | 0 => injection e with e; subst e; exact ⟨by go_simp, by go_simp⟩
    | 1 => injection e with e; subst e; exact ⟨by go_simp, by go_simp⟩
    | j + 2 => cases e⟩ hb
  have hbb : Below w.heap.size w w1 := keepB ((((((Below.refl _ _).alloc (Nat.le_refl _) _).alloc (by simp) _).alloc (by simp; omega) _).alloc (by simp; omega) _).alloc (by simp; omega) _) hb
  clear hb
  have b5_0 := B5.c 0 rfl
  have b5_1 := B5.c 1 rfl
  have b5_2 := B5.c 2 rfl
  have b8_0 := B8.c 0 rfl
  have b8_1 := B8.c 1 rfl
  go_wp2_with fail
  refine (CK.out _).mono ?_
  rintro e w2 ⟨rfl, hb⟩
  clear b5_0 b5_1 b5_2 b8_0 b8_1
  replace B5 := B5.keep hb
  replace B6 := B6.keep hb
  replace B7 := B7.keep hb
  replace B8 := B8.keep hb
  replace B9 := B9.keep hb
  replace hbb := keepB hbb hb
  clear hb
  go_wp2_with fail
  refine (alive2_any _).mono ?_
  rintro e w3 ⟨rfl, hb⟩
  replace B5 := B5.keep hb
  replace B6 := B6.keep hb
  replace B7 := B7.keep hb
  replace B8 := B8.keep hb
  replace B9 := B9.keep hb
  replace hbb := keepB hbb hb
  clear hb
  go_wp2_with fail
  go_ret
  exact ⟨rfl, hbb⟩

set_option linter.unusedVariables false in
set_option linter.unusedSimpArgs false in
set_option maxHeartbeats 8000000 in
set_option maxRecDepth 100000 in
theorem inv_no3 (len : Int) (K : Option Addr) (cuts : List Int) (ck : Nat) (Z : Option Addr) (dens : List Int) (cz : Nat) (n1 d1 n2 d2 v1 v2 n3 d3 : Int) (w : World) (h : IsCake w len K cuts Z dens) (hn1 : I64 n1) (hd1 : I64 d1) (hn2 : I64 n2) (hd2 : I64 d2) (hv1 : I64 v1) (hv2 : I64 v2) (hn3 : I64 n3) (hd3 : I64 d3) (hv : Ck.vld len cuts dens n1 d1 n2 d2 = true) (hk : Rp.Ok v1 v2) (h0 : v1 < 0) :
    Calls Try.prog 4 #[.agg #[.int .i64 len, .slice K cuts.length ck, .slice Z dens.length cz], .agg #[.int .i64 n1, .int .i64 d1], .agg #[.int .i64 n2, .int .i64 d2], .agg #[.int .i64 v1, .int .i64 v2], .agg #[.int .i64 n3, .int .i64 d3]] w fun e w' => e = .returned (.bool true) ∧ Below w.heap.size w w' := by
  have cv1 := fun v (hb : Below w.heap.size w v) => vld_any len K cuts ck Z dens cz n1 d1 n2 d2 v (h.keep hb) hn1 hd1 hn2 hd2
  have ck1 := fun v => rCheck_any v1 v2 v hv1.1 hv1.2 hv2.1 hv2.2
  rw [show Rp.chk v1 v2 = 0 from if_pos hk] at ck1
  obtain ⟨kn, hkn⟩ : ∃ kn, cuts.length = kn := ⟨_, rfl⟩
  obtain ⟨zn, hzn⟩ : ∃ zn, dens.length = zn := ⟨_, rfl⟩
  rw [hv] at cv1
  rw [hkn, hzn] at cv1 ⊢
  have e0 : (((0 : Int)) != 0) = false := rfl
  have e1 : decide (v1 < 0) = true := decide_eq_true h0
  have CV1 := Lib.hid cv1
  have CK := Lib.hid ck1
  clear cv1 ck1 hv hk h hkn hzn h0
  clear hn1 hd1 hn2 hd2 hv1 hv2 hn3 hd3
  go_enter Try.func4, Try.ntmps4
  go_wp2_with fail
  refine (CV1.out _ ((((((Below.refl _ _).alloc (Nat.le_refl _) _).alloc (by simp) _).alloc (by simp; omega) _).alloc (by simp; omega) _).alloc (by simp; omega) _)).mono ?_
  rintro e w1 ⟨rfl, hb⟩
  have B5 : BK w1 (w.heap.size) [.int .i64 len, .slice K kn ck, .slice Z zn cz] := BK.keep (v := _) ⟨by simp <;> omega, fun j x e => by
    match j with
    | 0 => injection e with e; subst e; exact ⟨by go_simp, by go_simp⟩
    | 1 => injection e with e; subst e; exact ⟨by go_simp, by go_simp⟩
    | 2 => injection e with e; subst e; exact ⟨by go_simp, by go_simp⟩
    | j + 3 => cases e⟩ hb
  have B6 : BK w1 (w.heap.size + 1) [.int .i64 n1, .int .i64 d1] := BK.keep (v := _) ⟨by simp <;> omega, fun j x e => by
    match j with
    | 0 => injection e with e; subst e; exact ⟨by go_simp, by go_simp⟩
    | 1 => injection e with e; subst e; exact ⟨by go_simp, by go_simp⟩
    | j + 2 => cases e⟩ hb
  have B7 : BK w1 (w.heap.size + 1 + 1) [.int .i64 n2, .int .i64 d2] := BK.keep (v := _) ⟨by simp <;> omega, fun j x e => by
    match j with
    | 0 => injection e with e; subst e; exact ⟨by go_simp, by go_simp⟩
    | 1 => injection e with e; subst e; exact ⟨by go_simp, by go_simp⟩
    | j + 2 => cases e⟩ hb
  have B8 : BK w1 (w.heap.size + 1 + 1 + 1) [.int .i64 v1, .int .i64 v2] := BK.keep (v := _) ⟨by simp <;> omega, fun j x e => by
    match j with
    | 0 => injection e with e; subst e; exact ⟨by go_simp, by go_simp⟩
    | 1 => injection e with e; subst e; exact ⟨by go_simp, by go_simp⟩
    | j + 2 => cases e⟩ hb
  have B9 : BK w1 (w.heap.size + 1 + 1 + 1 + 1) [.int .i64 n3, .int .i64 d3] := BK.keep (v := _) ⟨by simp <;> omega, fun j x e => by
    match j with
    | 0 => injection e with e; subst e; exact ⟨by go_simp, by go_simp⟩
    | 1 => injection e with e; subst e; exact ⟨by go_simp, by go_simp⟩
    | j + 2 => cases e⟩ hb
  have hbb : Below w.heap.size w w1 := keepB ((((((Below.refl _ _).alloc (Nat.le_refl _) _).alloc (by simp) _).alloc (by simp; omega) _).alloc (by simp; omega) _).alloc (by simp; omega) _) hb
  clear hb
  have b5_0 := B5.c 0 rfl
  have b5_1 := B5.c 1 rfl
  have b5_2 := B5.c 2 rfl
  have b8_0 := B8.c 0 rfl
  have b8_1 := B8.c 1 rfl
  go_wp2_with fail
  refine (CK.out _).mono ?_
  rintro e w2 ⟨rfl, hb⟩
  clear b5_0 b5_1 b5_2 b8_0 b8_1
  replace B5 := B5.keep hb
  replace B6 := B6.keep hb
  replace B7 := B7.keep hb
  replace B8 := B8.keep hb
  replace B9 := B9.keep hb
  replace hbb := keepB hbb hb
  clear hb
  have b8_0 := B8.c 0 rfl
  have b8_1 := B8.c 1 rfl
  go_wp2_with fail
  refine (alive2_any _).mono ?_
  rintro e w3 ⟨rfl, hb⟩
  clear b8_0 b8_1
  replace B5 := B5.keep hb
  replace B6 := B6.keep hb
  replace B7 := B7.keep hb
  replace B8 := B8.keep hb
  replace B9 := B9.keep hb
  replace hbb := keepB hbb hb
  clear hb
  go_wp2_with fail
  go_ret
  exact ⟨rfl, hbb⟩


set_option linter.unusedSimpArgs false in
set_option maxHeartbeats 8000000 in
set_option maxRecDepth 100000 in
theorem inv_yes (len : Int) (K : Option Addr) (cuts : List Int) (ck : Nat) (Z : Option Addr) (dens : List Int) (cz : Nat) (n1 d1 n2 d2 v1 v2 n3 d3 : Int) (w : World) (h : IsCake w len K cuts Z dens) (hn1 : I64 n1) (hd1 : I64 d1) (hn2 : I64 n2) (hd2 : I64 d2) (hv1 : I64 v1) (hv2 : I64 v2) (hn3 : I64 n3) (hd3 : I64 d3) (hv : Ck.vld len cuts dens n1 d1 n2 d2 = true) (oV : Rp.Ok v1 v2) (h0 : 0 ≤ v1) :
    Calls Try.prog 4 #[.agg #[.int .i64 len, .slice K cuts.length ck, .slice Z dens.length cz], .agg #[.int .i64 n1, .int .i64 d1], .agg #[.int .i64 n2, .int .i64 d2], .agg #[.int .i64 v1, .int .i64 v2], .agg #[.int .i64 n3, .int .i64 d3]] w fun e w' => e = .returned (.bool true) ∧ Below w.heap.size w w' := by
  have cv1 := fun v (hb : Below w.heap.size w v) => vld_any len K cuts ck Z dens cz n1 d1 n2 d2 v (h.keep hb) hn1 hd1 hn2 hd2
  have cv3 := fun v (hb : Below w.heap.size w v) => vld_any len K cuts ck Z dens cz n1 d1 n3 d3 v (h.keep hb) hn1 hd1 hn3 hd3
  have ck1 := fun v => rCheck_any v1 v2 v hv1.1 hv1.2 hv2.1 hv2.2
  rw [show Rp.chk v1 v2 = 0 from if_pos oV] at ck1
  rw [hv] at cv1
  obtain ⟨hc, pa, pb, hab⟩ := vld_spec hv
  have hG := Ck.chk_good hc
  have oa := (pt_spec pa).1
  have ob := (pt_spec pb).1
  have lb := pt_le hG.len0 hG.len1 pb
  obtain ⟨P1, P2, P3, hP, cM, hPc⟩ := mrk_c ck cz h hc pa oV h0
  obtain ⟨X1, X2, X3, hX, cX, hXc⟩ := val_c ck cz h hc pa pb hab
  obtain ⟨kn, hkn⟩ : ∃ kn, cuts.length = kn := ⟨_, rfl⟩
  obtain ⟨zn, hzn⟩ : ∃ zn, dens.length = zn := ⟨_, rfl⟩
  have e0 : (((0 : Int)) != 0) = false := rfl
  have e1 : decide (v1 < 0) = false := decide_eq_false (by omega)
  have H := Lib.hid h
  have HC := Lib.hid hc
  have HKN := Lib.hid hkn
  have HZN := Lib.hid hzn
  rw [hkn, hzn] at cv1 cv3 cM cX ⊢
  have HVX := Lib.hid hX
  have CV1 := Lib.hid cv1
  have CV3 := Lib.hid cv3
  have CK := Lib.hid ck1
  have CM := Lib.hid cM
  have CX := Lib.hid cX
  have HM := Lib.hid hP
  have HPC := Lib.hid hPc
  have HXC := Lib.hid hXc
  have HG := Lib.hid hG
  have OA := Lib.hid oa
  have OB := Lib.hid ob
  have OV := Lib.hid oV
  have PA := Lib.hid pa
  have LAB := Lib.hid (Rat.not_lt.1 hab)
  have LB := Lib.hid lb
  clear cv1 cv3 ck1 hv hc pa pb hab hG oa ob lb hP cM hPc hX cX hXc hkn hzn h h0 oV
  clear hn1 hd1 hn2 hd2 hv1 hv2 hn3 hd3
  go_enter Try.func4, Try.ntmps4
  go_wp2_with fail
  refine (CV1.out _ ((((((Below.refl _ _).alloc (Nat.le_refl _) _).alloc (by simp) _).alloc (by simp; omega) _).alloc (by simp; omega) _).alloc (by simp; omega) _)).mono ?_
  rintro e w1 ⟨rfl, hb⟩
  have B5 : BK w1 (w.heap.size) [.int .i64 len, .slice K kn ck, .slice Z zn cz] := BK.keep (v := _) ⟨by simp <;> omega, fun j x e => by
    match j with
    | 0 => injection e with e; subst e; exact ⟨by go_simp, by go_simp⟩
    | 1 => injection e with e; subst e; exact ⟨by go_simp, by go_simp⟩
    | 2 => injection e with e; subst e; exact ⟨by go_simp, by go_simp⟩
    | j + 3 => cases e⟩ hb
  have B6 : BK w1 (w.heap.size + 1) [.int .i64 n1, .int .i64 d1] := BK.keep (v := _) ⟨by simp <;> omega, fun j x e => by
    match j with
    | 0 => injection e with e; subst e; exact ⟨by go_simp, by go_simp⟩
    | 1 => injection e with e; subst e; exact ⟨by go_simp, by go_simp⟩
    | j + 2 => cases e⟩ hb
  have B7 : BK w1 (w.heap.size + 1 + 1) [.int .i64 n2, .int .i64 d2] := BK.keep (v := _) ⟨by simp <;> omega, fun j x e => by
    match j with
    | 0 => injection e with e; subst e; exact ⟨by go_simp, by go_simp⟩
    | 1 => injection e with e; subst e; exact ⟨by go_simp, by go_simp⟩
    | j + 2 => cases e⟩ hb
  have B8 : BK w1 (w.heap.size + 1 + 1 + 1) [.int .i64 v1, .int .i64 v2] := BK.keep (v := _) ⟨by simp <;> omega, fun j x e => by
    match j with
    | 0 => injection e with e; subst e; exact ⟨by go_simp, by go_simp⟩
    | 1 => injection e with e; subst e; exact ⟨by go_simp, by go_simp⟩
    | j + 2 => cases e⟩ hb
  have B9 : BK w1 (w.heap.size + 1 + 1 + 1 + 1) [.int .i64 n3, .int .i64 d3] := BK.keep (v := _) ⟨by simp <;> omega, fun j x e => by
    match j with
    | 0 => injection e with e; subst e; exact ⟨by go_simp, by go_simp⟩
    | 1 => injection e with e; subst e; exact ⟨by go_simp, by go_simp⟩
    | j + 2 => cases e⟩ hb
  have hbb : Below w.heap.size w w1 := keepB ((((((Below.refl _ _).alloc (Nat.le_refl _) _).alloc (by simp) _).alloc (by simp; omega) _).alloc (by simp; omega) _).alloc (by simp; omega) _) hb
  clear hb
  have b5_0 := B5.c 0 rfl
  have b5_1 := B5.c 1 rfl
  have b5_2 := B5.c 2 rfl
  have b8_0 := B8.c 0 rfl
  have b8_1 := B8.c 1 rfl
  go_wp2_with fail
  refine (CK.out _).mono ?_
  rintro e w2 ⟨rfl, hb⟩
  clear b5_0 b5_1 b5_2 b8_0 b8_1
  replace B5 := B5.keep hb
  replace B6 := B6.keep hb
  replace B7 := B7.keep hb
  replace B8 := B8.keep hb
  replace B9 := B9.keep hb
  replace hbb := keepB hbb hb
  clear hb
  have b5_0 := B5.c 0 rfl
  have b5_1 := B5.c 1 rfl
  have b5_2 := B5.c 2 rfl
  have b6_0 := B6.c 0 rfl
  have b6_1 := B6.c 1 rfl
  have b8_0 := B8.c 0 rfl
  have b8_1 := B8.c 1 rfl
  go_wp2_with fail
  refine (CM.out _ hbb).mono ?_
  rintro e w3 ⟨rfl, hb⟩
  clear b5_0 b5_1 b5_2 b6_0 b6_1 b8_0 b8_1
  replace B5 := B5.keep hb
  replace B6 := B6.keep hb
  replace B7 := B7.keep hb
  replace B8 := B8.keep hb
  replace B9 := B9.keep hb
  replace hbb := keepB hbb hb
  clear hb
  go_upto_if 49 with fail
  refine at_worldQ (fun v => Below w.heap.size w v ∧ BK v (w.heap.size) [.int .i64 len, .slice K kn ck, .slice Z zn cz] ∧ BK v (w.heap.size + 1) [.int .i64 n1, .int .i64 d1] ∧ BK v (w.heap.size + 1 + 1) [.int .i64 n2, .int .i64 d2] ∧ BK v (w.heap.size + 1 + 1 + 1) [.int .i64 v1, .int .i64 v2] ∧ BK v (w.heap.size + 1 + 1 + 1 + 1) [.int .i64 n3, .int .i64 d3] ∧ BK v (w3.heap.size) [.int .i64 P1, .int .i64 P2]) ⟨below_al hbb _, B5.al _, B6.al _, B7.al _, B8.al _, B9.al _, BK.new _ _ _⟩ (fun Vw4 hS => ?_)
  clear hbb B5 B6 B7 B8 B9
  obtain ⟨hbb, B5, B6, B7, B8, B9, BP⟩ := hS
  have hbw := hbb
  clear hbb
  go_cut [] (fun v => Below Vw4.heap.size Vw4 v)
  case first =>
    have hbb := Below.refl Vw4.heap.size Vw4
    rcases HPC.out with ⟨rfl, ptP, naP⟩ | ⟨rfl, rfl, rfl⟩ | ⟨rfl, rfl, rfl⟩
    ·
      obtain ⟨U1, U2, U3, hU, cU, hUc⟩ := val_c ck cz H.out HC.out PA.out ptP naP
      have oP := (pt_spec ptP).1
      have hval : U3 = 0 → v1 = U1 ∧ v2 = U2 := fun e => by
        have e2 := Ck.mrk_val HG.out OA.out OV.out HM.out rfl (by dsimp only; rw [hU]; exact e)
        dsimp only at e2
        rw [hU] at e2
        exact ⟨e2.1.symm, e2.2.symm⟩
      have cpp := fun v => rpoint_any len P1 P2 v HG.out.len0 HG.out.len1 ⟨by have := oP.2.2.1; omega, by have := oP.2.2.2.1; omega⟩ ⟨by have := oP.1; omega, by have := oP.2.1; omega⟩
      rw [ptP] at cpp
      have clp := fun v => Less_any P1 P2 n1 d1 oP OA.out v
      rw [decide_eq_false naP] at clp
      rw [HKN.out, HZN.out] at cU
      have CU := Lib.hid cU
      have CPP := Lib.hid cpp
      have CLP := Lib.hid clp
      have HVAL := Lib.hid hval
      have HUC := Lib.hid hUc
      have OP := Lib.hid oP
      have PTP := Lib.hid ptP
      clear cU hU cpp clp hval hUc oP ptP naP
      have n00 : (((0 : Int)) == 0) = true := rfl
      have n01 : (((0 : Int)) != 0) = false := rfl
      have n02 : (((16 : Int)) == 0) = false := rfl
      have n03 : (((16 : Int)) != 0) = true := rfl
      have n04 : (((16 : Int)) != 16) = false := rfl
      have b5_0 := B5.c 0 rfl
      have b5_1 := B5.c 1 rfl
      have b5_2 := B5.c 2 rfl
      have b6_0 := B6.c 0 rfl
      have b6_1 := B6.c 1 rfl
      have bp_0 := BP.c 0 rfl
      have bp_1 := BP.c 1 rfl
      go_wp2_with fail
      refine (CU.out _ (keepB hbw hbb)).mono ?_
      rintro e y1 ⟨rfl, hb⟩
      clear b5_0 b5_1 b5_2 b6_0 b6_1 bp_0 bp_1
      replace B5 := B5.keep hb
      replace B6 := B6.keep hb
      replace B7 := B7.keep hb
      replace B8 := B8.keep hb
      replace B9 := B9.keep hb
      replace BP := BP.keep hb
      replace hbb := keepB hbb hb
      clear hb
      go_upto_region 6 with fail
      refine at_worldQ (fun v => Below Vw4.heap.size Vw4 v ∧ BK v (w.heap.size) [.int .i64 len, .slice K kn ck, .slice Z zn cz] ∧ BK v (w.heap.size + 1) [.int .i64 n1, .int .i64 d1] ∧ BK v (w.heap.size + 1 + 1) [.int .i64 n2, .int .i64 d2] ∧ BK v (w.heap.size + 1 + 1 + 1) [.int .i64 v1, .int .i64 v2] ∧ BK v (w.heap.size + 1 + 1 + 1 + 1) [.int .i64 n3, .int .i64 d3] ∧ BK v (w3.heap.size) [.int .i64 P1, .int .i64 P2] ∧ BK v (y1.heap.size) [.int .i64 U1, .int .i64 U2]) ⟨below_al hbb _, B5.al _, B6.al _, B7.al _, B8.al _, B9.al _, BP.al _, BK.new _ _ _⟩ (fun Vy2 hS => ?_)
      clear hbb B5 B6 B7 B8 B9 BP
      obtain ⟨hbb, B5, B6, B7, B8, B9, BP, BU⟩ := hS
      rcases HUC.out with ⟨rfl, oU, _⟩ | ⟨rfl, rfl, rfl⟩
      ·
        obtain ⟨rfl, rfl⟩ := HVAL.out rfl
        clear oU
        have b5_0 := B5.c 0 rfl
        have b5_1 := B5.c 1 rfl
        have b5_2 := B5.c 2 rfl
        have b8_0 := B8.c 0 rfl
        have b8_1 := B8.c 1 rfl
        have bp_0 := BP.c 0 rfl
        have bp_1 := BP.c 1 rfl
        have bu_0 := BU.c 0 rfl
        have bu_1 := BU.c 1 rfl
        go_wp2_with fail
        refine (CPP.out _).mono ?_
        rintro e y3 ⟨rfl, hb⟩
        clear b5_0 b5_1 b5_2 b8_0 b8_1 bp_0 bp_1 bu_0 bu_1
        replace B5 := B5.keep hb
        replace B6 := B6.keep hb
        replace B7 := B7.keep hb
        replace B8 := B8.keep hb
        replace B9 := B9.keep hb
        replace BP := BP.keep hb
        replace BU := BU.keep hb
        replace hbb := keepB hbb hb
        clear hb
        have b6_0 := B6.c 0 rfl
        have b6_1 := B6.c 1 rfl
        have bp_0 := BP.c 0 rfl
        have bp_1 := BP.c 1 rfl
        go_wp2_with fail
        refine (CLP.out _).mono ?_
        rintro e y4 ⟨rfl, hb⟩
        clear b6_0 b6_1 bp_0 bp_1
        replace B5 := B5.keep hb
        replace B6 := B6.keep hb
        replace B7 := B7.keep hb
        replace B8 := B8.keep hb
        replace B9 := B9.keep hb
        replace BP := BP.keep hb
        replace BU := BU.keep hb
        replace hbb := keepB hbb hb
        clear hb
        obtain ⟨G3, hG3⟩ : ∃ G, Ck.vld len cuts dens n1 d1 n3 d3 = G := ⟨_, rfl⟩
        have cv3 := CV3.out
        rw [hG3] at cv3
        cases G3
        ·
          have CV := Lib.hid cv3
          clear cv3 hG3
          have b5_0 := B5.c 0 rfl
          have b5_1 := B5.c 1 rfl
          have b5_2 := B5.c 2 rfl
          have b6_0 := B6.c 0 rfl
          have b6_1 := B6.c 1 rfl
          have b9_0 := B9.c 0 rfl
          have b9_1 := B9.c 1 rfl
          go_wp2_with fail
          refine (CV.out _ (keepB hbw hbb)).mono ?_
          rintro e y5 ⟨rfl, hb⟩
          clear b5_0 b5_1 b5_2 b6_0 b6_1 b9_0 b9_1
          replace B5 := B5.keep hb
          replace B6 := B6.keep hb
          replace B7 := B7.keep hb
          replace B8 := B8.keep hb
          replace B9 := B9.keep hb
          replace BP := BP.keep hb
          replace BU := BU.keep hb
          replace hbb := keepB hbb hb
          clear hb
          go_wp2_with fail
          go_meet
          exact hbb
        ·
          obtain ⟨_, _, po, hao⟩ := vld_spec hG3
          have oo := (pt_spec po).1
          have clo := fun v => Less_any n3 d3 P1 P2 oo OP.out v
          have CV := Lib.hid cv3
          by_cases hlt : Rp.q n3 d3 < Rp.q P1 P2
          ·
            rw [decide_eq_true hlt] at clo
            obtain ⟨O1, O2, O3, hO, cO, hOc⟩ := val_c ck cz H.out HC.out PA.out po hao
            have hfl : O3 = 0 → Rp.q O1 O2 < Rp.q v1 v2 := fun e => by
              have e2 := Ck.mrk_first HG.out OA.out oo (Rat.not_lt.1 hao) HM.out rfl hlt (by rw [hO]; exact e)
              rw [hO] at e2
              exact e2
            rw [HKN.out, HZN.out] at cO
            have CLO := Lib.hid clo
            have CO := Lib.hid cO
            have HOC := Lib.hid hOc
            have HFL := Lib.hid hfl
            clear cv3 hG3 po hao oo clo hlt cO hO hOc hfl
            have b5_0 := B5.c 0 rfl
            have b5_1 := B5.c 1 rfl
            have b5_2 := B5.c 2 rfl
            have b6_0 := B6.c 0 rfl
            have b6_1 := B6.c 1 rfl
            have b9_0 := B9.c 0 rfl
            have b9_1 := B9.c 1 rfl
            go_wp2_with fail
            refine (CV.out _ (keepB hbw hbb)).mono ?_
            rintro e y5 ⟨rfl, hb⟩
            clear b5_0 b5_1 b5_2 b6_0 b6_1 b9_0 b9_1
            replace B5 := B5.keep hb
            replace B6 := B6.keep hb
            replace B7 := B7.keep hb
            replace B8 := B8.keep hb
            replace B9 := B9.keep hb
            replace BP := BP.keep hb
            replace BU := BU.keep hb
            replace hbb := keepB hbb hb
            clear hb
            have b9_0 := B9.c 0 rfl
            have b9_1 := B9.c 1 rfl
            have bp_0 := BP.c 0 rfl
            have bp_1 := BP.c 1 rfl
            go_wp2_with fail
            refine (CLO.out _).mono ?_
            rintro e y6 ⟨rfl, hb⟩
            clear b9_0 b9_1 bp_0 bp_1
            replace B5 := B5.keep hb
            replace B6 := B6.keep hb
            replace B7 := B7.keep hb
            replace B8 := B8.keep hb
            replace B9 := B9.keep hb
            replace BP := BP.keep hb
            replace BU := BU.keep hb
            replace hbb := keepB hbb hb
            clear hb
            have b5_0 := B5.c 0 rfl
            have b5_1 := B5.c 1 rfl
            have b5_2 := B5.c 2 rfl
            have b6_0 := B6.c 0 rfl
            have b6_1 := B6.c 1 rfl
            have b9_0 := B9.c 0 rfl
            have b9_1 := B9.c 1 rfl
            go_wp2_with fail
            refine (CO.out _ (keepB hbw hbb)).mono ?_
            rintro e y7 ⟨rfl, hb⟩
            clear b5_0 b5_1 b5_2 b6_0 b6_1 b9_0 b9_1
            replace B5 := B5.keep hb
            replace B6 := B6.keep hb
            replace B7 := B7.keep hb
            replace B8 := B8.keep hb
            replace B9 := B9.keep hb
            replace BP := BP.keep hb
            replace BU := BU.keep hb
            replace hbb := keepB hbb hb
            clear hb
            go_upto_region 10 with fail
            refine at_worldQ (fun v => Below Vw4.heap.size Vw4 v ∧ BK v (w.heap.size) [.int .i64 len, .slice K kn ck, .slice Z zn cz] ∧ BK v (w.heap.size + 1) [.int .i64 n1, .int .i64 d1] ∧ BK v (w.heap.size + 1 + 1) [.int .i64 n2, .int .i64 d2] ∧ BK v (w.heap.size + 1 + 1 + 1) [.int .i64 v1, .int .i64 v2] ∧ BK v (w.heap.size + 1 + 1 + 1 + 1) [.int .i64 n3, .int .i64 d3] ∧ BK v (w3.heap.size) [.int .i64 P1, .int .i64 P2] ∧ BK v (y1.heap.size) [.int .i64 v1, .int .i64 v2] ∧ BK v (y7.heap.size) [.int .i64 O1, .int .i64 O2]) ⟨below_al hbb _, B5.al _, B6.al _, B7.al _, B8.al _, B9.al _, BP.al _, BU.al _, BK.new _ _ _⟩ (fun Vy8 hS => ?_)
            clear hbb B5 B6 B7 B8 B9 BP BU
            obtain ⟨hbb, B5, B6, B7, B8, B9, BP, BU, BO⟩ := hS
            rcases HOC.out with ⟨rfl, oO, _⟩ | ⟨rfl, rfl, rfl⟩
            ·
              have clx := fun v => Less_any O1 O2 v1 v2 oO OV.out v
              rw [decide_eq_true (HFL.out rfl)] at clx
              have CLX := Lib.hid clx
              clear clx oO
              have b8_0 := B8.c 0 rfl
              have b8_1 := B8.c 1 rfl
              have bo_0 := BO.c 0 rfl
              have bo_1 := BO.c 1 rfl
              go_wp2_with fail
              refine (CLX.out _).mono ?_
              rintro e y9 ⟨rfl, hb⟩
              clear b8_0 b8_1 bo_0 bo_1
              replace B5 := B5.keep hb
              replace B6 := B6.keep hb
              replace B7 := B7.keep hb
              replace B8 := B8.keep hb
              replace B9 := B9.keep hb
              replace BP := BP.keep hb
              replace BU := BU.keep hb
              replace BO := BO.keep hb
              replace hbb := keepB hbb hb
              clear hb
              go_wp2_with fail
              go_meet
              exact hbb
            ·
              go_wp2_with fail
              go_meet
              exact hbb
          ·
            rw [decide_eq_false hlt] at clo
            have CLO := Lib.hid clo
            clear cv3 hG3 po hao oo clo hlt
            have b5_0 := B5.c 0 rfl
            have b5_1 := B5.c 1 rfl
            have b5_2 := B5.c 2 rfl
            have b6_0 := B6.c 0 rfl
            have b6_1 := B6.c 1 rfl
            have b9_0 := B9.c 0 rfl
            have b9_1 := B9.c 1 rfl
            go_wp2_with fail
            refine (CV.out _ (keepB hbw hbb)).mono ?_
            rintro e y5 ⟨rfl, hb⟩
            clear b5_0 b5_1 b5_2 b6_0 b6_1 b9_0 b9_1
            replace B5 := B5.keep hb
            replace B6 := B6.keep hb
            replace B7 := B7.keep hb
            replace B8 := B8.keep hb
            replace B9 := B9.keep hb
            replace BP := BP.keep hb
            replace BU := BU.keep hb
            replace hbb := keepB hbb hb
            clear hb
            have b9_0 := B9.c 0 rfl
            have b9_1 := B9.c 1 rfl
            have bp_0 := BP.c 0 rfl
            have bp_1 := BP.c 1 rfl
            go_wp2_with fail
            refine (CLO.out _).mono ?_
            rintro e y6 ⟨rfl, hb⟩
            clear b9_0 b9_1 bp_0 bp_1
            replace B5 := B5.keep hb
            replace B6 := B6.keep hb
            replace B7 := B7.keep hb
            replace B8 := B8.keep hb
            replace B9 := B9.keep hb
            replace BP := BP.keep hb
            replace BU := BU.keep hb
            replace hbb := keepB hbb hb
            clear hb
            go_wp2_with fail
            go_meet
            exact hbb
      ·
        have b5_0 := B5.c 0 rfl
        have b5_1 := B5.c 1 rfl
        have b5_2 := B5.c 2 rfl
        have bp_0 := BP.c 0 rfl
        have bp_1 := BP.c 1 rfl
        go_wp2_with fail
        refine (CPP.out _).mono ?_
        rintro e y3 ⟨rfl, hb⟩
        clear b5_0 b5_1 b5_2 bp_0 bp_1
        replace B5 := B5.keep hb
        replace B6 := B6.keep hb
        replace B7 := B7.keep hb
        replace B8 := B8.keep hb
        replace B9 := B9.keep hb
        replace BP := BP.keep hb
        replace BU := BU.keep hb
        replace hbb := keepB hbb hb
        clear hb
        have b6_0 := B6.c 0 rfl
        have b6_1 := B6.c 1 rfl
        have bp_0 := BP.c 0 rfl
        have bp_1 := BP.c 1 rfl
        go_wp2_with fail
        refine (CLP.out _).mono ?_
        rintro e y4 ⟨rfl, hb⟩
        clear b6_0 b6_1 bp_0 bp_1
        replace B5 := B5.keep hb
        replace B6 := B6.keep hb
        replace B7 := B7.keep hb
        replace B8 := B8.keep hb
        replace B9 := B9.keep hb
        replace BP := BP.keep hb
        replace BU := BU.keep hb
        replace hbb := keepB hbb hb
        clear hb
        obtain ⟨G3, hG3⟩ : ∃ G, Ck.vld len cuts dens n1 d1 n3 d3 = G := ⟨_, rfl⟩
        have cv3 := CV3.out
        rw [hG3] at cv3
        cases G3
        ·
          have CV := Lib.hid cv3
          clear cv3 hG3
          have b5_0 := B5.c 0 rfl
          have b5_1 := B5.c 1 rfl
          have b5_2 := B5.c 2 rfl
          have b6_0 := B6.c 0 rfl
          have b6_1 := B6.c 1 rfl
          have b9_0 := B9.c 0 rfl
          have b9_1 := B9.c 1 rfl
          go_wp2_with fail
          refine (CV.out _ (keepB hbw hbb)).mono ?_
          rintro e y5 ⟨rfl, hb⟩
          clear b5_0 b5_1 b5_2 b6_0 b6_1 b9_0 b9_1
          replace B5 := B5.keep hb
          replace B6 := B6.keep hb
          replace B7 := B7.keep hb
          replace B8 := B8.keep hb
          replace B9 := B9.keep hb
          replace BP := BP.keep hb
          replace BU := BU.keep hb
          replace hbb := keepB hbb hb
          clear hb
          go_wp2_with fail
          go_meet
          exact hbb
        ·
          obtain ⟨_, _, po, hao⟩ := vld_spec hG3
          have oo := (pt_spec po).1
          have clo := fun v => Less_any n3 d3 P1 P2 oo OP.out v
          have CV := Lib.hid cv3
          by_cases hlt : Rp.q n3 d3 < Rp.q P1 P2
          ·
            rw [decide_eq_true hlt] at clo
            obtain ⟨O1, O2, O3, hO, cO, hOc⟩ := val_c ck cz H.out HC.out PA.out po hao
            have hfl : O3 = 0 → Rp.q O1 O2 < Rp.q v1 v2 := fun e => by
              have e2 := Ck.mrk_first HG.out OA.out oo (Rat.not_lt.1 hao) HM.out rfl hlt (by rw [hO]; exact e)
              rw [hO] at e2
              exact e2
            rw [HKN.out, HZN.out] at cO
            have CLO := Lib.hid clo
            have CO := Lib.hid cO
            have HOC := Lib.hid hOc
            have HFL := Lib.hid hfl
            clear cv3 hG3 po hao oo clo hlt cO hO hOc hfl
            have b5_0 := B5.c 0 rfl
            have b5_1 := B5.c 1 rfl
            have b5_2 := B5.c 2 rfl
            have b6_0 := B6.c 0 rfl
            have b6_1 := B6.c 1 rfl
            have b9_0 := B9.c 0 rfl
            have b9_1 := B9.c 1 rfl
            go_wp2_with fail
            refine (CV.out _ (keepB hbw hbb)).mono ?_
            rintro e y5 ⟨rfl, hb⟩
            clear b5_0 b5_1 b5_2 b6_0 b6_1 b9_0 b9_1
            replace B5 := B5.keep hb
            replace B6 := B6.keep hb
            replace B7 := B7.keep hb
            replace B8 := B8.keep hb
            replace B9 := B9.keep hb
            replace BP := BP.keep hb
            replace BU := BU.keep hb
            replace hbb := keepB hbb hb
            clear hb
            have b9_0 := B9.c 0 rfl
            have b9_1 := B9.c 1 rfl
            have bp_0 := BP.c 0 rfl
            have bp_1 := BP.c 1 rfl
            go_wp2_with fail
            refine (CLO.out _).mono ?_
            rintro e y6 ⟨rfl, hb⟩
            clear b9_0 b9_1 bp_0 bp_1
            replace B5 := B5.keep hb
            replace B6 := B6.keep hb
            replace B7 := B7.keep hb
            replace B8 := B8.keep hb
            replace B9 := B9.keep hb
            replace BP := BP.keep hb
            replace BU := BU.keep hb
            replace hbb := keepB hbb hb
            clear hb
            have b5_0 := B5.c 0 rfl
            have b5_1 := B5.c 1 rfl
            have b5_2 := B5.c 2 rfl
            have b6_0 := B6.c 0 rfl
            have b6_1 := B6.c 1 rfl
            have b9_0 := B9.c 0 rfl
            have b9_1 := B9.c 1 rfl
            go_wp2_with fail
            refine (CO.out _ (keepB hbw hbb)).mono ?_
            rintro e y7 ⟨rfl, hb⟩
            clear b5_0 b5_1 b5_2 b6_0 b6_1 b9_0 b9_1
            replace B5 := B5.keep hb
            replace B6 := B6.keep hb
            replace B7 := B7.keep hb
            replace B8 := B8.keep hb
            replace B9 := B9.keep hb
            replace BP := BP.keep hb
            replace BU := BU.keep hb
            replace hbb := keepB hbb hb
            clear hb
            go_upto_region 10 with fail
            refine at_worldQ (fun v => Below Vw4.heap.size Vw4 v ∧ BK v (w.heap.size) [.int .i64 len, .slice K kn ck, .slice Z zn cz] ∧ BK v (w.heap.size + 1) [.int .i64 n1, .int .i64 d1] ∧ BK v (w.heap.size + 1 + 1) [.int .i64 n2, .int .i64 d2] ∧ BK v (w.heap.size + 1 + 1 + 1) [.int .i64 v1, .int .i64 v2] ∧ BK v (w.heap.size + 1 + 1 + 1 + 1) [.int .i64 n3, .int .i64 d3] ∧ BK v (w3.heap.size) [.int .i64 P1, .int .i64 P2] ∧ BK v (y1.heap.size) [.int .i64 0, .int .i64 0] ∧ BK v (y7.heap.size) [.int .i64 O1, .int .i64 O2]) ⟨below_al hbb _, B5.al _, B6.al _, B7.al _, B8.al _, B9.al _, BP.al _, BU.al _, BK.new _ _ _⟩ (fun Vy8 hS => ?_)
            clear hbb B5 B6 B7 B8 B9 BP BU
            obtain ⟨hbb, B5, B6, B7, B8, B9, BP, BU, BO⟩ := hS
            rcases HOC.out with ⟨rfl, oO, _⟩ | ⟨rfl, rfl, rfl⟩
            ·
              have clx := fun v => Less_any O1 O2 v1 v2 oO OV.out v
              rw [decide_eq_true (HFL.out rfl)] at clx
              have CLX := Lib.hid clx
              clear clx oO
              have b8_0 := B8.c 0 rfl
              have b8_1 := B8.c 1 rfl
              have bo_0 := BO.c 0 rfl
              have bo_1 := BO.c 1 rfl
              go_wp2_with fail
              refine (CLX.out _).mono ?_
              rintro e y9 ⟨rfl, hb⟩
              clear b8_0 b8_1 bo_0 bo_1
              replace B5 := B5.keep hb
              replace B6 := B6.keep hb
              replace B7 := B7.keep hb
              replace B8 := B8.keep hb
              replace B9 := B9.keep hb
              replace BP := BP.keep hb
              replace BU := BU.keep hb
              replace BO := BO.keep hb
              replace hbb := keepB hbb hb
              clear hb
              go_wp2_with fail
              go_meet
              exact hbb
            ·
              go_wp2_with fail
              go_meet
              exact hbb
          ·
            rw [decide_eq_false hlt] at clo
            have CLO := Lib.hid clo
            clear cv3 hG3 po hao oo clo hlt
            have b5_0 := B5.c 0 rfl
            have b5_1 := B5.c 1 rfl
            have b5_2 := B5.c 2 rfl
            have b6_0 := B6.c 0 rfl
            have b6_1 := B6.c 1 rfl
            have b9_0 := B9.c 0 rfl
            have b9_1 := B9.c 1 rfl
            go_wp2_with fail
            refine (CV.out _ (keepB hbw hbb)).mono ?_
            rintro e y5 ⟨rfl, hb⟩
            clear b5_0 b5_1 b5_2 b6_0 b6_1 b9_0 b9_1
            replace B5 := B5.keep hb
            replace B6 := B6.keep hb
            replace B7 := B7.keep hb
            replace B8 := B8.keep hb
            replace B9 := B9.keep hb
            replace BP := BP.keep hb
            replace BU := BU.keep hb
            replace hbb := keepB hbb hb
            clear hb
            have b9_0 := B9.c 0 rfl
            have b9_1 := B9.c 1 rfl
            have bp_0 := BP.c 0 rfl
            have bp_1 := BP.c 1 rfl
            go_wp2_with fail
            refine (CLO.out _).mono ?_
            rintro e y6 ⟨rfl, hb⟩
            clear b9_0 b9_1 bp_0 bp_1
            replace B5 := B5.keep hb
            replace B6 := B6.keep hb
            replace B7 := B7.keep hb
            replace B8 := B8.keep hb
            replace B9 := B9.keep hb
            replace BP := BP.keep hb
            replace BU := BU.keep hb
            replace hbb := keepB hbb hb
            clear hb
            go_wp2_with fail
            go_meet
            exact hbb
    ·
      have ptL := pt_int (len := len) (n := len) (by have := HG.out.len0; omega) (Int.le_refl _) HG.out.len1
      have naL : ¬ Rp.q len 1 < Rp.q n1 d1 := Rat.not_lt.2 (by rw [Rp.q_one]; exact pt_le HG.out.len0 HG.out.len1 PA.out)
      obtain ⟨U1, U2, U3, hU, cU, hUc⟩ := val_c ck cz H.out HC.out PA.out ptL naL
      have hfl : U3 = 0 → Rp.q U1 U2 < Rp.q v1 v2 := fun e => by
        have e2 := Ck.mrk_none HG.out OA.out (pt_spec ptL).1 (Rat.not_lt.1 naL) (by rw [Rp.q_one]; exact Rat.le_refl) HM.out rfl (by rw [hU]; exact e)
        rw [hU] at e2
        exact e2
      rw [HKN.out, HZN.out] at cU
      have CU := Lib.hid cU
      have HUC := Lib.hid hUc
      have HFL := Lib.hid hfl
      clear cU hU hUc hfl ptL naL
      have n00 : (((6 : Int)) == 0) = false := rfl
      have n01 : (((6 : Int)) == 6) = true := rfl
      have n02 : (((16 : Int)) == 0) = false := rfl
      have n03 : (((0 : Int)) == 0) = true := rfl
      go_upto_region 13 with fail
      refine at_worldQ (fun v => Below Vw4.heap.size Vw4 v ∧ BK v (w.heap.size) [.int .i64 len, .slice K kn ck, .slice Z zn cz] ∧ BK v (w.heap.size + 1) [.int .i64 n1, .int .i64 d1] ∧ BK v (w.heap.size + 1 + 1) [.int .i64 n2, .int .i64 d2] ∧ BK v (w.heap.size + 1 + 1 + 1) [.int .i64 v1, .int .i64 v2] ∧ BK v (w.heap.size + 1 + 1 + 1 + 1) [.int .i64 n3, .int .i64 d3] ∧ BK v (w3.heap.size) [.int .i64 0, .int .i64 0]) ⟨hbb, B5, B6, B7, B8, B9, BP⟩ (fun Vy1 hS => ?_)
      clear hbb B5 B6 B7 B8 B9 BP
      obtain ⟨hbb, B5, B6, B7, B8, B9, BP⟩ := hS
      have c0 := B5.c 0 rfl
      have c1 := B5.c 1 rfl
      have c2 := B5.c 2 rfl
      have a0 := B6.c 0 rfl
      have a1 := B6.c 1 rfl
      have l0 := B5.lt
      refine wp_region_noPanic ?_
      refine wp_region_held_drew (S := (Below Vy1.heap.size Vy1)) (by kernel_rfl) ((Below.refl _ _).drew) (fun hHeld => ?_)
      refine at_anyH (Below Vy1.heap.size Vy1) hHeld (fun wu0 hNew => ?_)
      clear hHeld
      have hHeld := hNew
      clear hNew
      refine wpAnyH_take (i := 0) (oi := _) (v := ?vu1) rfl (by kernel_rfl) (by kernel_rfl) (by kernel_rfl) (fun _ _ _ h => h) (Or.inl ⟨by kernel_rfl, ?hyu1⟩) hHeld ?restu1
      case hyu1 => (intro w hSw; have kc0 := keepC hSw c0; have kc1 := keepC hSw c1; have kc2 := keepC hSw c2; have ka0 := keepC hSw a0; have ka1 := keepC hSw a1; go_simp; first | done | (with_reducible rfl))
      try simp only [Act.put, List.getElem_toArray, List.getElem_cons_succ, List.getElem_cons_zero, List.setIfInBounds_toArray, List.set_cons_zero, List.set_cons_succ]
      refine wpAnyH_take (i := 1) (oi := _) (v := ?vu2) rfl (by kernel_rfl) (by kernel_rfl) (by kernel_rfl) (fun _ _ _ h => h) (Or.inl ⟨by kernel_rfl, ?hyu2⟩) hHeld ?restu2
      case hyu2 => (intro w hSw; have kc0 := keepC hSw c0; have kc1 := keepC hSw c1; have kc2 := keepC hSw c2; have ka0 := keepC hSw a0; have ka1 := keepC hSw a1; go_simp; first | done | (with_reducible rfl))
      try simp only [Act.put, List.getElem_toArray, List.getElem_cons_succ, List.getElem_cons_zero, List.setIfInBounds_toArray, List.set_cons_zero, List.set_cons_succ]
      refine wpAnyH_take (i := 2) (oi := _) (v := ?vu3) rfl (by kernel_rfl) (by kernel_rfl) (by kernel_rfl) (fun _ _ _ h => h) (Or.inl ⟨by kernel_rfl, ?hyu3⟩) hHeld ?restu3
      case hyu3 => (intro w hSw; go_simp; first | done | (with_reducible rfl))
      try simp only [Act.put, List.getElem_toArray, List.getElem_cons_succ, List.getElem_cons_zero, List.setIfInBounds_toArray, List.set_cons_zero, List.set_cons_succ]
      refine wpAnyH_take (i := 3) (oi := _) (v := ?vu4) rfl (by kernel_rfl) (by kernel_rfl) (by kernel_rfl) (fun _ _ _ h => h) (Or.inl ⟨by kernel_rfl, ?hyu4⟩) hHeld ?restu4
      case hyu4 => (intro w hSw; have kc0 := keepC hSw c0; have kc1 := keepC hSw c1; have kc2 := keepC hSw c2; have ka0 := keepC hSw a0; have ka1 := keepC hSw a1; go_simp; first | done | (with_reducible rfl))
      try simp only [Act.put, List.getElem_toArray, List.getElem_cons_succ, List.getElem_cons_zero, List.setIfInBounds_toArray, List.set_cons_zero, List.set_cons_succ]
      refine wpAnyH_ready (rs := [4, 9]) (by kernel_rfl) (by simp) (AllReadyH.cons (o := _) rfl (fun K hK => ?_) (AllReadyH.cons (o := _) rfl (fun K hK => ?_) AllReadyH.nil))
      ·
        go_simp
        refine (of2_any _ _).mono ?_
        rintro e wu5 ⟨rfl, hb3⟩
        go_wp2_with fail
        refine hK.out _ _ (keepB hHeld hb3) (fun hNew => ?_)
        clear hb3
        clear hHeld hK K
        have hHeld := hNew
        clear hNew
        try simp only [Act.put, List.getElem_toArray, List.getElem_cons_succ, List.getElem_cons_zero, List.setIfInBounds_toArray, List.set_cons_zero, List.set_cons_succ]
        refine wpAnyH_ready (rs := [5, 9]) (by kernel_rfl) (by simp) (AllReadyH.cons (o := _) rfl (fun K hK => ?_) (AllReadyH.cons (o := _) rfl (fun K hK => ?_) AllReadyH.nil))
        ·
          go_simp
          refine (CU.out _ (keepB hbw (keepB hbb hHeld))).mono ?_
          rintro e wu6 ⟨rfl, hb3⟩
          go_wp2_with fail
          refine hK.out _ _ (keepB hHeld hb3) (fun hNew => ?_)
          clear hb3
          clear hHeld hK K
          have hHeld := hNew
          clear hNew
          try simp only [Act.put, List.getElem_toArray, List.getElem_cons_succ, List.getElem_cons_zero, List.setIfInBounds_toArray, List.set_cons_zero, List.set_cons_succ]
          refine wpAnyH_take (i := 6) (oi := _) (v := ?vu7) rfl (by kernel_rfl) (by kernel_rfl) (by kernel_rfl) (fun _ _ _ h => h) (Or.inl ⟨by kernel_rfl, ?hyu7⟩) hHeld ?restu7
          case hyu7 => (intro w hSw; go_simp; first | done | (with_reducible rfl))
          try simp only [Act.put, List.getElem_toArray, List.getElem_cons_succ, List.getElem_cons_zero, List.setIfInBounds_toArray, List.set_cons_zero, List.set_cons_succ]
          refine wpAnyH_take (i := 7) (oi := _) (v := ?vu8) rfl (by kernel_rfl) (by kernel_rfl) (by kernel_rfl) (fun _ _ _ h => h) (Or.inl ⟨by kernel_rfl, ?hyu8⟩) hHeld ?restu8
          case hyu8 => (intro w hSw; go_simp; first | done | (with_reducible rfl))
          try simp only [Act.put, List.getElem_toArray, List.getElem_cons_succ, List.getElem_cons_zero, List.setIfInBounds_toArray, List.set_cons_zero, List.set_cons_succ]
          refine wpAnyH_take (i := 8) (oi := _) (v := ?vu9) rfl (by kernel_rfl) (by kernel_rfl) (by kernel_rfl) (fun _ _ _ h => h) (Or.inl ⟨by kernel_rfl, ?hyu9⟩) hHeld ?restu9
          case hyu9 => (intro w hSw; go_simp; first | done | (with_reducible rfl))
          try simp only [Act.put, List.getElem_toArray, List.getElem_cons_succ, List.getElem_cons_zero, List.setIfInBounds_toArray, List.set_cons_zero, List.set_cons_succ]
          refine wpAnyH_ready (rs := [9]) (by kernel_rfl) (by simp) (AllReadyH.cons (o := _) rfl (fun K hK => ?_) AllReadyH.nil)
          go_simp
          refine hK.out _ _ (below_al hHeld _) (fun hNew => ?_)
          have hU : Vy1.heap.size ≤ wu6.heap.size := hHeld.size
          clear hHeld hK K
          have hHeld := hNew
          clear hNew
          try simp only [Act.put, List.getElem_toArray, List.getElem_cons_succ, List.getElem_cons_zero, List.setIfInBounds_toArray, List.set_cons_zero, List.set_cons_succ]
          refine at_anyH (fun v => Below Vy1.heap.size Vy1 v ∧ BK v wu6.heap.size [.int .i64 0, .int .i64 0]) ⟨hHeld, BK.new _ _ _⟩ (fun wu10 hS => ?_)
          clear hHeld
          obtain ⟨hHeld, BU⟩ := hS
          refine wpAnyH_ready (rs := [10]) (by kernel_rfl) (by simp) (AllReadyH.cons (o := _) rfl (fun K hK => ?_) AllReadyH.nil)
          have n0 := BU.c 0 rfl
          have f0 := BU.f 0 rfl
          have n1 := BU.c 1 rfl
          have f1 := BU.f 1 rfl
          go_simp
          clear n0 f0 n1 f1
          refine hK.out _ _ (below_set (below_set hHeld (by omega) _) (by omega) _) (fun hNew => ?_)
          clear hHeld hK K
          have hHeld := hNew
          clear hNew
          try simp only [Act.put, List.getElem_toArray, List.getElem_cons_succ, List.getElem_cons_zero, List.setIfInBounds_toArray, List.set_cons_zero, List.set_cons_succ]
          refine at_anyH (fun v => Below Vy1.heap.size Vy1 v ∧ BK v wu6.heap.size [.int .i64 U1, .int .i64 U2]) ⟨hHeld, ((BU.set 0 _).set 1 _)⟩ (fun wu11 hS => ?_)
          clear hHeld BU
          obtain ⟨hHeld, BU⟩ := hS
          refine wpAnyH_take (i := 11) (oi := _) (v := ?vu12) rfl (by kernel_rfl) (by kernel_rfl) (by kernel_rfl) (fun _ _ _ h => h) (Or.inl ⟨by kernel_rfl, ?hyu12⟩) hHeld ?restu12
          case hyu12 => (intro w hSw; go_simp; first | done | (with_reducible rfl))
          try simp only [Act.put, List.getElem_toArray, List.getElem_cons_succ, List.getElem_cons_zero, List.setIfInBounds_toArray, List.set_cons_zero, List.set_cons_succ]
          refine wpAnyH_done (by kernel_rfl) ?_ _
          refine NoPanic.normal ?_
          clear c0 c1 c2 a0 a1
          replace B5 := B5.keep hHeld
          replace B6 := B6.keep hHeld
          replace B7 := B7.keep hHeld
          replace B8 := B8.keep hHeld
          replace B9 := B9.keep hHeld
          replace BP := BP.keep hHeld
          replace hbb := keepB hbb hHeld
          clear hHeld
          rcases HUC.out with ⟨rfl, oU, _⟩ | ⟨rfl, rfl, rfl⟩
          ·
            have clx := fun v => Less_any U1 U2 v1 v2 oU OV.out v
            rw [decide_eq_true (HFL.out rfl)] at clx
            have CLX := Lib.hid clx
            clear clx oU
            have b8_0 := B8.c 0 rfl
            have b8_1 := B8.c 1 rfl
            have bu_0 := BU.c 0 rfl
            have bu_1 := BU.c 1 rfl
            go_wp2_with fail
            refine (CLX.out _).mono ?_
            rintro e y51 ⟨rfl, hb⟩
            clear b8_0 b8_1 bu_0 bu_1
            replace B5 := B5.keep hb
            replace B6 := B6.keep hb
            replace B7 := B7.keep hb
            replace B8 := B8.keep hb
            replace B9 := B9.keep hb
            replace BP := BP.keep hb
            replace BU := BU.keep hb
            replace hbb := keepB hbb hb
            clear hb
            go_wp2_with fail
            go_meet
            exact hbb
          ·
            go_wp2_with fail
            go_meet
            exact hbb
        ·
          go_simp
          refine hK.out _ _ (below_al hHeld _) (fun hNew => ?_)
          have hU : Vy1.heap.size ≤ wu5.heap.size := hHeld.size
          clear hHeld hK K
          have hHeld := hNew
          clear hNew
          try simp only [Act.put, List.getElem_toArray, List.getElem_cons_succ, List.getElem_cons_zero, List.setIfInBounds_toArray, List.set_cons_zero, List.set_cons_succ]
          refine at_anyH (fun v => Below Vy1.heap.size Vy1 v ∧ BK v wu5.heap.size [.int .i64 0, .int .i64 0]) ⟨hHeld, BK.new _ _ _⟩ (fun wu13 hS => ?_)
          clear hHeld
          obtain ⟨hHeld, BU⟩ := hS
          refine wpAnyH_ready (rs := [5]) (by kernel_rfl) (by simp) (AllReadyH.cons (o := _) rfl (fun K hK => ?_) AllReadyH.nil)
          go_simp
          refine (CU.out _ (keepB hbw (keepB hbb hHeld))).mono ?_
          rintro e wu14 ⟨rfl, hb3⟩
          go_wp2_with fail
          refine hK.out _ _ (keepB hHeld hb3) (fun hNew => ?_)
          replace BU := BU.keep hb3
          clear hb3
          clear hHeld hK K
          have hHeld := hNew
          clear hNew
          try simp only [Act.put, List.getElem_toArray, List.getElem_cons_succ, List.getElem_cons_zero, List.setIfInBounds_toArray, List.set_cons_zero, List.set_cons_succ]
          refine wpAnyH_take (i := 6) (oi := _) (v := ?vu15) rfl (by kernel_rfl) (by kernel_rfl) (by kernel_rfl) (fun _ _ _ h => h) (Or.inl ⟨by kernel_rfl, ?hyu15⟩) hHeld ?restu15
          case hyu15 => (intro w hSw; go_simp; first | done | (with_reducible rfl))
          try simp only [Act.put, List.getElem_toArray, List.getElem_cons_succ, List.getElem_cons_zero, List.setIfInBounds_toArray, List.set_cons_zero, List.set_cons_succ]
          refine wpAnyH_take (i := 7) (oi := _) (v := ?vu16) rfl (by kernel_rfl) (by kernel_rfl) (by kernel_rfl) (fun _ _ _ h => h) (Or.inl ⟨by kernel_rfl, ?hyu16⟩) hHeld ?restu16
          case hyu16 => (intro w hSw; go_simp; first | done | (with_reducible rfl))
          try simp only [Act.put, List.getElem_toArray, List.getElem_cons_succ, List.getElem_cons_zero, List.setIfInBounds_toArray, List.set_cons_zero, List.set_cons_succ]
          refine wpAnyH_take (i := 8) (oi := _) (v := ?vu17) rfl (by kernel_rfl) (by kernel_rfl) (by kernel_rfl) (fun _ _ _ h => h) (Or.inl ⟨by kernel_rfl, ?hyu17⟩) hHeld ?restu17
          case hyu17 => (intro w hSw; go_simp; first | done | (with_reducible rfl))
          try simp only [Act.put, List.getElem_toArray, List.getElem_cons_succ, List.getElem_cons_zero, List.setIfInBounds_toArray, List.set_cons_zero, List.set_cons_succ]
          refine wpAnyH_ready (rs := [10]) (by kernel_rfl) (by simp) (AllReadyH.cons (o := _) rfl (fun K hK => ?_) AllReadyH.nil)
          have n0 := BU.c 0 rfl
          have f0 := BU.f 0 rfl
          have n1 := BU.c 1 rfl
          have f1 := BU.f 1 rfl
          go_simp
          clear n0 f0 n1 f1
          refine hK.out _ _ (below_set (below_set hHeld (by omega) _) (by omega) _) (fun hNew => ?_)
          clear hHeld hK K
          have hHeld := hNew
          clear hNew
          try simp only [Act.put, List.getElem_toArray, List.getElem_cons_succ, List.getElem_cons_zero, List.setIfInBounds_toArray, List.set_cons_zero, List.set_cons_succ]
          refine at_anyH (fun v => Below Vy1.heap.size Vy1 v ∧ BK v wu5.heap.size [.int .i64 U1, .int .i64 U2]) ⟨hHeld, ((BU.set 0 _).set 1 _)⟩ (fun wu18 hS => ?_)
          clear hHeld BU
          obtain ⟨hHeld, BU⟩ := hS
          refine wpAnyH_take (i := 11) (oi := _) (v := ?vu19) rfl (by kernel_rfl) (by kernel_rfl) (by kernel_rfl) (fun _ _ _ h => h) (Or.inl ⟨by kernel_rfl, ?hyu19⟩) hHeld ?restu19
          case hyu19 => (intro w hSw; go_simp; first | done | (with_reducible rfl))
          try simp only [Act.put, List.getElem_toArray, List.getElem_cons_succ, List.getElem_cons_zero, List.setIfInBounds_toArray, List.set_cons_zero, List.set_cons_succ]
          refine wpAnyH_done (by kernel_rfl) ?_ _
          refine NoPanic.normal ?_
          clear c0 c1 c2 a0 a1
          replace B5 := B5.keep hHeld
          replace B6 := B6.keep hHeld
          replace B7 := B7.keep hHeld
          replace B8 := B8.keep hHeld
          replace B9 := B9.keep hHeld
          replace BP := BP.keep hHeld
          replace hbb := keepB hbb hHeld
          clear hHeld
          rcases HUC.out with ⟨rfl, oU, _⟩ | ⟨rfl, rfl, rfl⟩
          ·
            have clx := fun v => Less_any U1 U2 v1 v2 oU OV.out v
            rw [decide_eq_true (HFL.out rfl)] at clx
            have CLX := Lib.hid clx
            clear clx oU
            have b8_0 := B8.c 0 rfl
            have b8_1 := B8.c 1 rfl
            have bu_0 := BU.c 0 rfl
            have bu_1 := BU.c 1 rfl
            go_wp2_with fail
            refine (CLX.out _).mono ?_
            rintro e y51 ⟨rfl, hb⟩
            clear b8_0 b8_1 bu_0 bu_1
            replace B5 := B5.keep hb
            replace B6 := B6.keep hb
            replace B7 := B7.keep hb
            replace B8 := B8.keep hb
            replace B9 := B9.keep hb
            replace BP := BP.keep hb
            replace BU := BU.keep hb
            replace hbb := keepB hbb hb
            clear hb
            go_wp2_with fail
            go_meet
            exact hbb
          ·
            go_wp2_with fail
            go_meet
            exact hbb
      ·
        go_simp
        refine hK.out _ _ (below_al hHeld _) (fun hNew => ?_)
        have hU : Vy1.heap.size ≤ wu0.heap.size := hHeld.size
        clear hHeld hK K
        have hHeld := hNew
        clear hNew
        try simp only [Act.put, List.getElem_toArray, List.getElem_cons_succ, List.getElem_cons_zero, List.setIfInBounds_toArray, List.set_cons_zero, List.set_cons_succ]
        refine at_anyH (fun v => Below Vy1.heap.size Vy1 v ∧ BK v wu0.heap.size [.int .i64 0, .int .i64 0]) ⟨hHeld, BK.new _ _ _⟩ (fun wu20 hS => ?_)
        clear hHeld
        obtain ⟨hHeld, BU⟩ := hS
        refine wpAnyH_ready (rs := [4]) (by kernel_rfl) (by simp) (AllReadyH.cons (o := _) rfl (fun K hK => ?_) AllReadyH.nil)
        go_simp
        refine (of2_any _ _).mono ?_
        rintro e wu21 ⟨rfl, hb3⟩
        go_wp2_with fail
        refine hK.out _ _ (keepB hHeld hb3) (fun hNew => ?_)
        replace BU := BU.keep hb3
        clear hb3
        clear hHeld hK K
        have hHeld := hNew
        clear hNew
        try simp only [Act.put, List.getElem_toArray, List.getElem_cons_succ, List.getElem_cons_zero, List.setIfInBounds_toArray, List.set_cons_zero, List.set_cons_succ]
        refine wpAnyH_ready (rs := [5]) (by kernel_rfl) (by simp) (AllReadyH.cons (o := _) rfl (fun K hK => ?_) AllReadyH.nil)
        go_simp
        refine (CU.out _ (keepB hbw (keepB hbb hHeld))).mono ?_
        rintro e wu22 ⟨rfl, hb3⟩
        go_wp2_with fail
        refine hK.out _ _ (keepB hHeld hb3) (fun hNew => ?_)
        replace BU := BU.keep hb3
        clear hb3
        clear hHeld hK K
        have hHeld := hNew
        clear hNew
        try simp only [Act.put, List.getElem_toArray, List.getElem_cons_succ, List.getElem_cons_zero, List.setIfInBounds_toArray, List.set_cons_zero, List.set_cons_succ]
        refine wpAnyH_take (i := 6) (oi := _) (v := ?vu23) rfl (by kernel_rfl) (by kernel_rfl) (by kernel_rfl) (fun _ _ _ h => h) (Or.inl ⟨by kernel_rfl, ?hyu23⟩) hHeld ?restu23
        case hyu23 => (intro w hSw; go_simp; first | done | (with_reducible rfl))
        try simp only [Act.put, List.getElem_toArray, List.getElem_cons_succ, List.getElem_cons_zero, List.setIfInBounds_toArray, List.set_cons_zero, List.set_cons_succ]
        refine wpAnyH_take (i := 7) (oi := _) (v := ?vu24) rfl (by kernel_rfl) (by kernel_rfl) (by kernel_rfl) (fun _ _ _ h => h) (Or.inl ⟨by kernel_rfl, ?hyu24⟩) hHeld ?restu24
        case hyu24 => (intro w hSw; go_simp; first | done | (with_reducible rfl))
        try simp only [Act.put, List.getElem_toArray, List.getElem_cons_succ, List.getElem_cons_zero, List.setIfInBounds_toArray, List.set_cons_zero, List.set_cons_succ]
        refine wpAnyH_take (i := 8) (oi := _) (v := ?vu25) rfl (by kernel_rfl) (by kernel_rfl) (by kernel_rfl) (fun _ _ _ h => h) (Or.inl ⟨by kernel_rfl, ?hyu25⟩) hHeld ?restu25
        case hyu25 => (intro w hSw; go_simp; first | done | (with_reducible rfl))
        try simp only [Act.put, List.getElem_toArray, List.getElem_cons_succ, List.getElem_cons_zero, List.setIfInBounds_toArray, List.set_cons_zero, List.set_cons_succ]
        refine wpAnyH_ready (rs := [10]) (by kernel_rfl) (by simp) (AllReadyH.cons (o := _) rfl (fun K hK => ?_) AllReadyH.nil)
        have n0 := BU.c 0 rfl
        have f0 := BU.f 0 rfl
        have n1 := BU.c 1 rfl
        have f1 := BU.f 1 rfl
        go_simp
        clear n0 f0 n1 f1
        refine hK.out _ _ (below_set (below_set hHeld (by omega) _) (by omega) _) (fun hNew => ?_)
        clear hHeld hK K
        have hHeld := hNew
        clear hNew
        try simp only [Act.put, List.getElem_toArray, List.getElem_cons_succ, List.getElem_cons_zero, List.setIfInBounds_toArray, List.set_cons_zero, List.set_cons_succ]
        refine at_anyH (fun v => Below Vy1.heap.size Vy1 v ∧ BK v wu0.heap.size [.int .i64 U1, .int .i64 U2]) ⟨hHeld, ((BU.set 0 _).set 1 _)⟩ (fun wu26 hS => ?_)
        clear hHeld BU
        obtain ⟨hHeld, BU⟩ := hS
        refine wpAnyH_take (i := 11) (oi := _) (v := ?vu27) rfl (by kernel_rfl) (by kernel_rfl) (by kernel_rfl) (fun _ _ _ h => h) (Or.inl ⟨by kernel_rfl, ?hyu27⟩) hHeld ?restu27
        case hyu27 => (intro w hSw; go_simp; first | done | (with_reducible rfl))
        try simp only [Act.put, List.getElem_toArray, List.getElem_cons_succ, List.getElem_cons_zero, List.setIfInBounds_toArray, List.set_cons_zero, List.set_cons_succ]
        refine wpAnyH_done (by kernel_rfl) ?_ _
        refine NoPanic.normal ?_
        clear c0 c1 c2 a0 a1
        replace B5 := B5.keep hHeld
        replace B6 := B6.keep hHeld
        replace B7 := B7.keep hHeld
        replace B8 := B8.keep hHeld
        replace B9 := B9.keep hHeld
        replace BP := BP.keep hHeld
        replace hbb := keepB hbb hHeld
        clear hHeld
        rcases HUC.out with ⟨rfl, oU, _⟩ | ⟨rfl, rfl, rfl⟩
        ·
          have clx := fun v => Less_any U1 U2 v1 v2 oU OV.out v
          rw [decide_eq_true (HFL.out rfl)] at clx
          have CLX := Lib.hid clx
          clear clx oU
          have b8_0 := B8.c 0 rfl
          have b8_1 := B8.c 1 rfl
          have bu_0 := BU.c 0 rfl
          have bu_1 := BU.c 1 rfl
          go_wp2_with fail
          refine (CLX.out _).mono ?_
          rintro e y51 ⟨rfl, hb⟩
          clear b8_0 b8_1 bu_0 bu_1
          replace B5 := B5.keep hb
          replace B6 := B6.keep hb
          replace B7 := B7.keep hb
          replace B8 := B8.keep hb
          replace B9 := B9.keep hb
          replace BP := BP.keep hb
          replace BU := BU.keep hb
          replace hbb := keepB hbb hb
          clear hb
          go_wp2_with fail
          go_meet
          exact hbb
        ·
          go_wp2_with fail
          go_meet
          exact hbb
    ·
      have n00 : (((16 : Int)) == 0) = false := rfl
      have n01 : (((16 : Int)) == 6) = false := rfl
      have n02 : (((16 : Int)) != 16) = false := rfl
      go_wp2_with fail
      go_meet
      exact hbb
  case rest =>
    have hv := hcut
    clear hcut
    go_upto_region 18 with fail
    replace B5 := B5.keep hv
    replace B6 := B6.keep hv
    replace B7 := B7.keep hv
    replace B8 := B8.keep hv
    replace B9 := B9.keep hv
    replace BP := BP.keep hv
    have hbb := keepB hbw hv
    clear hv hbw
    refine at_worldQ (fun v => Below w.heap.size w v ∧ BK v (w.heap.size) [.int .i64 len, .slice K kn ck, .slice Z zn cz] ∧ BK v (w.heap.size + 1) [.int .i64 n1, .int .i64 d1] ∧ BK v (w.heap.size + 1 + 1) [.int .i64 n2, .int .i64 d2] ∧ BK v (w.heap.size + 1 + 1 + 1) [.int .i64 v1, .int .i64 v2] ∧ BK v (w.heap.size + 1 + 1 + 1 + 1) [.int .i64 n3, .int .i64 d3] ∧ BK v (w3.heap.size) [.int .i64 P1, .int .i64 P2]) ⟨hbb, B5, B6, B7, B8, B9, BP⟩ (fun Vz1 hS => ?_)
    clear hbb B5 B6 B7 B8 B9 BP
    obtain ⟨hbb, B5, B6, B7, B8, B9, BP⟩ := hS
    have b5_0 := B5.c 0 rfl
    have b5_1 := B5.c 1 rfl
    have b5_2 := B5.c 2 rfl
    have b6_0 := B6.c 0 rfl
    have b6_1 := B6.c 1 rfl
    have b7_0 := B7.c 0 rfl
    have b7_1 := B7.c 1 rfl
    go_wp2_with fail
    refine (CX.out _ hbb).mono ?_
    rintro e z2 ⟨rfl, hb⟩
    clear b5_0 b5_1 b5_2 b6_0 b6_1 b7_0 b7_1
    replace B5 := B5.keep hb
    replace B6 := B6.keep hb
    replace B7 := B7.keep hb
    replace B8 := B8.keep hb
    replace B9 := B9.keep hb
    replace BP := BP.keep hb
    replace hbb := keepB hbb hb
    clear hb
    go_upto_region 19 with fail
    refine at_worldQ (fun v => Below w.heap.size w v ∧ BK v (w.heap.size) [.int .i64 len, .slice K kn ck, .slice Z zn cz] ∧ BK v (w.heap.size + 1) [.int .i64 n1, .int .i64 d1] ∧ BK v (w.heap.size + 1 + 1) [.int .i64 n2, .int .i64 d2] ∧ BK v (w.heap.size + 1 + 1 + 1) [.int .i64 v1, .int .i64 v2] ∧ BK v (w.heap.size + 1 + 1 + 1 + 1) [.int .i64 n3, .int .i64 d3] ∧ BK v (w3.heap.size) [.int .i64 P1, .int .i64 P2] ∧ BK v (z2.heap.size) [.int .i64 X1, .int .i64 X2]) ⟨below_al hbb _, B5.al _, B6.al _, B7.al _, B8.al _, B9.al _, BP.al _, BK.new _ _ _⟩ (fun Vz3 hS => ?_)
    clear hbb B5 B6 B7 B8 B9 BP
    obtain ⟨hbb, B5, B6, B7, B8, B9, BP, BX⟩ := hS
    rcases HXC.out with ⟨rfl, oX, nX⟩ | ⟨rfl, rfl, rfl⟩
    ·
      obtain ⟨Q1, Q2, Q3, hQ, cQ, hQc⟩ := mrk_c ck cz H.out HC.out PA.out oX nX
      have hbk := Ck.mrk_back HG.out OA.out OB.out LAB.out LB.out (by rw [HVX.out]) (r := (Q1, Q2, Q3)) (by rw [HVX.out]; exact hQ)
      dsimp only at hbk
      rw [HKN.out, HZN.out] at cQ
      have CQ := Lib.hid cQ
      have HQ := Lib.hid hQ
      have HQC := Lib.hid hQc
      have HBK := Lib.hid hbk
      have OX := Lib.hid oX
      have n00 : (((0 : Int)) != 0) = false := rfl
      have n01 : (((16 : Int)) != 0) = true := rfl
      have n02 : (((16 : Int)) == 16) = true := rfl
      have n03 : (((0 : Int)) == 0) = true := rfl
      have n04 : (((16 : Int)) == 0) = false := rfl
      clear cQ hQ hQc hbk oX nX
      have b5_0 := B5.c 0 rfl
      have b5_1 := B5.c 1 rfl
      have b5_2 := B5.c 2 rfl
      have b6_0 := B6.c 0 rfl
      have b6_1 := B6.c 1 rfl
      have bx_0 := BX.c 0 rfl
      have bx_1 := BX.c 1 rfl
      go_wp2_with fail
      refine (CQ.out _ hbb).mono ?_
      rintro e z4 ⟨rfl, hb⟩
      clear b5_0 b5_1 b5_2 b6_0 b6_1 bx_0 bx_1
      replace B5 := B5.keep hb
      replace B6 := B6.keep hb
      replace B7 := B7.keep hb
      replace B8 := B8.keep hb
      replace B9 := B9.keep hb
      replace BP := BP.keep hb
      replace BX := BX.keep hb
      replace hbb := keepB hbb hb
      clear hb
      go_upto_region 22 with fail
      refine at_worldQ (fun v => Below w.heap.size w v ∧ BK v (w.heap.size) [.int .i64 len, .slice K kn ck, .slice Z zn cz] ∧ BK v (w.heap.size + 1) [.int .i64 n1, .int .i64 d1] ∧ BK v (w.heap.size + 1 + 1) [.int .i64 n2, .int .i64 d2] ∧ BK v (w.heap.size + 1 + 1 + 1) [.int .i64 v1, .int .i64 v2] ∧ BK v (w.heap.size + 1 + 1 + 1 + 1) [.int .i64 n3, .int .i64 d3] ∧ BK v (w3.heap.size) [.int .i64 P1, .int .i64 P2] ∧ BK v (z2.heap.size) [.int .i64 X1, .int .i64 X2] ∧ BK v (z4.heap.size) [.int .i64 Q1, .int .i64 Q2]) ⟨below_al hbb _, B5.al _, B6.al _, B7.al _, B8.al _, B9.al _, BP.al _, BX.al _, BK.new _ _ _⟩ (fun Vz5 hS => ?_)
      clear hbb B5 B6 B7 B8 B9 BP BX
      obtain ⟨hbb, B5, B6, B7, B8, B9, BP, BX, BQ⟩ := hS
      rcases HBK.out with ⟨q0, nlt⟩ | q0
      ·
        obtain ⟨ptQ, naQ⟩ : Ck.pt len Q1 Q2 = true ∧ ¬ Rp.q Q1 Q2 < Rp.q n1 d1 := by
          rcases HQC.out with ⟨_, g1, g2⟩ | ⟨_, _, g⟩ | ⟨_, _, g⟩
          · exact ⟨g1, g2⟩
          · rw [g] at q0; exact absurd q0 (by decide)
          · rw [g] at q0; exact absurd q0 (by decide)
        have oQ := (pt_spec ptQ).1
        obtain ⟨Y1, Y2, Y3, hY, cY, hYc⟩ := val_c ck cz H.out HC.out PA.out ptQ naQ
        have hval : Y3 = 0 → X1 = Y1 ∧ X2 = Y2 := fun e => by
          have e2 := Ck.mrk_val HG.out OA.out OX.out HQ.out q0 (by dsimp only; rw [hY]; exact e)
          dsimp only at e2
          rw [hY] at e2
          exact ⟨e2.1.symm, e2.2.symm⟩
        have clq := fun v => Less_any n2 d2 Q1 Q2 OB.out oQ v
        rw [decide_eq_false nlt] at clq
        rw [HKN.out, HZN.out] at cY
        obtain rfl : 0 = Q3 := q0.symm
        have CY := Lib.hid cY
        have CLQ := Lib.hid clq
        have HVAL := Lib.hid hval
        have HYC := Lib.hid hYc
        clear cY hY clq hval hYc ptQ naQ oQ nlt
        have b5_0 := B5.c 0 rfl
        have b5_1 := B5.c 1 rfl
        have b5_2 := B5.c 2 rfl
        have b6_0 := B6.c 0 rfl
        have b6_1 := B6.c 1 rfl
        have bq_0 := BQ.c 0 rfl
        have bq_1 := BQ.c 1 rfl
        go_wp2_with fail
        refine (CY.out _ hbb).mono ?_
        rintro e z6 ⟨rfl, hb⟩
        clear b5_0 b5_1 b5_2 b6_0 b6_1 bq_0 bq_1
        replace B5 := B5.keep hb
        replace B6 := B6.keep hb
        replace B7 := B7.keep hb
        replace B8 := B8.keep hb
        replace B9 := B9.keep hb
        replace BP := BP.keep hb
        replace BX := BX.keep hb
        replace BQ := BQ.keep hb
        replace hbb := keepB hbb hb
        clear hb
        go_upto_region 25 with fail
        refine at_worldQ (fun v => Below w.heap.size w v ∧ BK v (w.heap.size) [.int .i64 len, .slice K kn ck, .slice Z zn cz] ∧ BK v (w.heap.size + 1) [.int .i64 n1, .int .i64 d1] ∧ BK v (w.heap.size + 1 + 1) [.int .i64 n2, .int .i64 d2] ∧ BK v (w.heap.size + 1 + 1 + 1) [.int .i64 v1, .int .i64 v2] ∧ BK v (w.heap.size + 1 + 1 + 1 + 1) [.int .i64 n3, .int .i64 d3] ∧ BK v (w3.heap.size) [.int .i64 P1, .int .i64 P2] ∧ BK v (z2.heap.size) [.int .i64 X1, .int .i64 X2] ∧ BK v (z4.heap.size) [.int .i64 Q1, .int .i64 Q2] ∧ BK v (z6.heap.size) [.int .i64 Y1, .int .i64 Y2]) ⟨below_al hbb _, B5.al _, B6.al _, B7.al _, B8.al _, B9.al _, BP.al _, BX.al _, BQ.al _, BK.new _ _ _⟩ (fun Vz7 hS => ?_)
        clear hbb B5 B6 B7 B8 B9 BP BX BQ
        obtain ⟨hbb, B5, B6, B7, B8, B9, BP, BX, BQ, BY⟩ := hS
        rcases HYC.out with ⟨rfl, _, _⟩ | ⟨rfl, rfl, rfl⟩
        ·
          obtain ⟨rfl, rfl⟩ := HVAL.out rfl
          have b7_0 := B7.c 0 rfl
          have b7_1 := B7.c 1 rfl
          have bq_0 := BQ.c 0 rfl
          have bq_1 := BQ.c 1 rfl
          go_wp2_with fail
          refine (CLQ.out _).mono ?_
          rintro e z8 ⟨rfl, hb⟩
          clear b7_0 b7_1 bq_0 bq_1
          replace B5 := B5.keep hb
          replace B6 := B6.keep hb
          replace B7 := B7.keep hb
          replace B8 := B8.keep hb
          replace B9 := B9.keep hb
          replace BP := BP.keep hb
          replace BX := BX.keep hb
          replace BQ := BQ.keep hb
          replace BY := BY.keep hb
          replace hbb := keepB hbb hb
          clear hb
          have bx_0 := BX.c 0 rfl
          have bx_1 := BX.c 1 rfl
          have by_0 := BY.c 0 rfl
          have by_1 := BY.c 1 rfl
          go_wp2_with fail
          refine (alive2_any _).mono ?_
          rintro e z9 ⟨rfl, hb⟩
          clear bx_0 bx_1 by_0 by_1
          replace B5 := B5.keep hb
          replace B6 := B6.keep hb
          replace B7 := B7.keep hb
          replace B8 := B8.keep hb
          replace B9 := B9.keep hb
          replace BP := BP.keep hb
          replace BX := BX.keep hb
          replace BQ := BQ.keep hb
          replace BY := BY.keep hb
          replace hbb := keepB hbb hb
          clear hb
          go_wp2_with fail
          go_ret
          exact ⟨rfl, hbb⟩
        ·
          have b7_0 := B7.c 0 rfl
          have b7_1 := B7.c 1 rfl
          have bq_0 := BQ.c 0 rfl
          have bq_1 := BQ.c 1 rfl
          go_wp2_with fail
          refine (CLQ.out _).mono ?_
          rintro e z8 ⟨rfl, hb⟩
          clear b7_0 b7_1 bq_0 bq_1
          replace B5 := B5.keep hb
          replace B6 := B6.keep hb
          replace B7 := B7.keep hb
          replace B8 := B8.keep hb
          replace B9 := B9.keep hb
          replace BP := BP.keep hb
          replace BX := BX.keep hb
          replace BQ := BQ.keep hb
          replace BY := BY.keep hb
          replace hbb := keepB hbb hb
          clear hb
          go_wp2_with fail
          refine (alive2_any _).mono ?_
          rintro e z9 ⟨rfl, hb⟩
          replace B5 := B5.keep hb
          replace B6 := B6.keep hb
          replace B7 := B7.keep hb
          replace B8 := B8.keep hb
          replace B9 := B9.keep hb
          replace BP := BP.keep hb
          replace BX := BX.keep hb
          replace BQ := BQ.keep hb
          replace BY := BY.keep hb
          replace hbb := keepB hbb hb
          clear hb
          go_wp2_with fail
          go_ret
          exact ⟨rfl, hbb⟩
      ·
        simp only [Prod.mk.injEq] at q0
        obtain ⟨rfl, rfl, rfl⟩ := q0
        go_wp2_with fail
        refine (alive2_any _).mono ?_
        rintro e z6 ⟨rfl, hb⟩
        replace B5 := B5.keep hb
        replace B6 := B6.keep hb
        replace B7 := B7.keep hb
        replace B8 := B8.keep hb
        replace B9 := B9.keep hb
        replace BP := BP.keep hb
        replace BX := BX.keep hb
        replace BQ := BQ.keep hb
        replace hbb := keepB hbb hb
        clear hb
        go_wp2_with fail
        go_ret
        exact ⟨rfl, hbb⟩
    ·
      have n01 : (((16 : Int)) != 0) = true := rfl
      have n02 : (((16 : Int)) == 16) = true := rfl
      go_wp2_with fail
      refine (alive2_any _).mono ?_
      rintro e z4 ⟨rfl, hb⟩
      replace B5 := B5.keep hb
      replace B6 := B6.keep hb
      replace B7 := B7.keep hb
      replace B8 := B8.keep hb
      replace B9 := B9.keep hb
      replace BP := BP.keep hb
      replace BX := BX.keep hb
      replace hbb := keepB hbb hb
      clear hb
      go_wp2_with fail
      go_ret
      exact ⟨rfl, hbb⟩

theorem inverse_walk (len : Int) (K : Option Addr) (cuts : List Int) (ck : Nat) (Z : Option Addr) (dens : List Int) (cz : Nat) (n1 d1 n2 d2 v1 v2 n3 d3 : Int) (w : World) (h : IsCake w len K cuts Z dens) (n1l : -9223372036854775808 ≤ n1) (n1h : n1 ≤ 9223372036854775807) (d1l : -9223372036854775808 ≤ d1) (d1h : d1 ≤ 9223372036854775807) (n2l : -9223372036854775808 ≤ n2) (n2h : n2 ≤ 9223372036854775807) (d2l : -9223372036854775808 ≤ d2) (d2h : d2 ≤ 9223372036854775807) (v1l : -9223372036854775808 ≤ v1) (v1h : v1 ≤ 9223372036854775807) (v2l : -9223372036854775808 ≤ v2) (v2h : v2 ≤ 9223372036854775807) (n3l : -9223372036854775808 ≤ n3) (n3h : n3 ≤ 9223372036854775807) (d3l : -9223372036854775808 ≤ d3) (d3h : d3 ≤ 9223372036854775807) :
    Calls Try.prog 4 #[.agg #[.int .i64 len, .slice K cuts.length ck, .slice Z dens.length cz], .agg #[.int .i64 n1, .int .i64 d1], .agg #[.int .i64 n2, .int .i64 d2], .agg #[.int .i64 v1, .int .i64 v2], .agg #[.int .i64 n3, .int .i64 d3]] w fun e w' => e = .returned (.bool true) ∧ Below w.heap.size w w' := by
  cases hv : Ck.vld len cuts dens n1 d1 n2 d2 with
  | false => exact inv_no1 len K cuts ck Z dens cz n1 d1 n2 d2 v1 v2 n3 d3 w h ⟨n1l, n1h⟩ ⟨d1l, d1h⟩ ⟨n2l, n2h⟩ ⟨d2l, d2h⟩ ⟨v1l, v1h⟩ ⟨v2l, v2h⟩ ⟨n3l, n3h⟩ ⟨d3l, d3h⟩ hv
  | true =>
    by_cases hk : Rp.Ok v1 v2
    · by_cases h0 : v1 < 0
      · exact inv_no3 len K cuts ck Z dens cz n1 d1 n2 d2 v1 v2 n3 d3 w h ⟨n1l, n1h⟩ ⟨d1l, d1h⟩ ⟨n2l, n2h⟩ ⟨d2l, d2h⟩ ⟨v1l, v1h⟩ ⟨v2l, v2h⟩ ⟨n3l, n3h⟩ ⟨d3l, d3h⟩ hv hk h0
      · exact inv_yes len K cuts ck Z dens cz n1 d1 n2 d2 v1 v2 n3 d3 w h ⟨n1l, n1h⟩ ⟨d1l, d1h⟩ ⟨n2l, n2h⟩ ⟨d2l, d2h⟩ ⟨v1l, v1h⟩ ⟨v2l, v2h⟩ ⟨n3l, n3h⟩ ⟨d3l, d3h⟩ hv hk (by omega)
    · exact inv_no2 len K cuts ck Z dens cz n1 d1 n2 d2 v1 v2 n3 d3 w h ⟨n1l, n1h⟩ ⟨d1l, d1h⟩ ⟨n2l, n2h⟩ ⟨d2l, d2h⟩ ⟨v1l, v1h⟩ ⟨v2l, v2h⟩ ⟨n3l, n3h⟩ ⟨d3l, d3h⟩ hv hk
end Go.Proofs.Ytomokdepndclpaa
