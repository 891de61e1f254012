/- Value and Mark refuse what is no point; what the functions of layer 2 answer at the cake of the examples. -/
import Derived.Test.YtomokdepndclpaaCkalv
import Derived.Test.YtomokdepndclpaaDens
import Derived.Test.YtomokdepndclpaaPart
import Derived.Test.YtomokdepndclpaaNorm
namespace Go.Proofs.Ytomokdepndclpaa
open Go.RowKit
set_option maxHeartbeats 4000000 in
set_option maxRecDepth 100000 in
theorem value_no1 (len : Int) (K : Option Addr) (cuts : List Int) (ck : Nat) (Z : Option Addr) (dens : List Int) (cz : Nat) (n1 d1 n2 d2 : Int) (w : World) (h : IsCake w len K cuts Z dens) (hc : Ck.chk len cuts dens = 0) (hn1 : I64 n1) (hd1 : I64 d1) (hp : Ck.pt len n1 d1 = false) :
    Calls Try.prog 21 #[.agg #[.int .i64 len, .slice K cuts.length ck, .slice Z dens.length cz], .agg #[.int .i64 n1, .int .i64 d1], .agg #[.int .i64 n2, .int .i64 d2]] w fun e w' => e = .returned (.tuple #[.agg #[.int .i64 0, .int .i64 0], .int .i64 2]) ∧ Below w.heap.size w w' := by
  have hG := Ck.chk_good hc
  have cc := fun v (hb : Below w.heap.size w v) => ckCheck_any len K cuts ck Z dens cz v (h.keep hb)
  rw [hc] at cc
  have n0 : (((0 : Int)) != 0) = false := rfl
  have cp := fun v => ispoint_any len K cuts.length ck Z dens.length cz n1 d1 v hG.len0 hG.len1 hn1 hd1
  rw [hp] at cp
  have CP := Lib.hid cp
  clear cp
  have CC := Lib.hid cc
  clear cc hc hG h
  go_enter Try.func21, Try.ntmps21
  go_wp2_with fail
  refine (CC.out _ ((((((Below.refl _ _).alloc (Nat.le_refl _) _).alloc (by simp) _).alloc (by simp; omega) _).alloc (by simp; omega) _).alloc (by simp; omega) _)).mono ?_
  rintro e w1 ⟨rfl, hb⟩
  have hbb : Below w.heap.size w w1 := keepB ((((((Below.refl _ _).alloc (Nat.le_refl _) _).alloc (by simp) _).alloc (by simp; omega) _).alloc (by simp; omega) _).alloc (by simp; omega) _) hb
  have B3 : BK w1 (w.heap.size) [.int .i64 len, .slice K cuts.length ck, .slice Z dens.length cz] := BK.keep (v := _) ⟨by simp <;> omega, fun j x e => by
    match j with
    | 0 => injection e with e; subst e; exact ⟨by go_simp, by go_simp⟩
    | 1 => injection e with e; subst e; exact ⟨by go_simp, by go_simp⟩
    | 2 => injection e with e; subst e; exact ⟨by go_simp, by go_simp⟩
    | j + 3 => cases e⟩ hb
  have B4 : BK w1 (w.heap.size + 1) [.int .i64 n1, .int .i64 d1] := BK.keep (v := _) ⟨by simp <;> omega, fun j x e => by
    match j with
    | 0 => injection e with e; subst e; exact ⟨by go_simp, by go_simp⟩
    | 1 => injection e with e; subst e; exact ⟨by go_simp, by go_simp⟩
    | j + 2 => cases e⟩ hb
  have B5 : BK w1 (w.heap.size + 1 + 1) [.int .i64 n2, .int .i64 d2] := BK.keep (v := _) ⟨by simp <;> omega, fun j x e => by
    match j with
    | 0 => injection e with e; subst e; exact ⟨by go_simp, by go_simp⟩
    | 1 => injection e with e; subst e; exact ⟨by go_simp, by go_simp⟩
    | j + 2 => cases e⟩ hb
  have B6 : BK w1 (w.heap.size + 1 + 1 + 1) [.int .i64 0, .int .i64 0] := BK.keep (v := _) ⟨by simp <;> omega, fun j x e => by
    match j with
    | 0 => injection e with e; subst e; exact ⟨by go_simp, by go_simp⟩
    | 1 => injection e with e; subst e; exact ⟨by go_simp, by go_simp⟩
    | j + 2 => cases e⟩ hb
  have B7 : BK w1 (w.heap.size + 1 + 1 + 1 + 1) [.int .i64 0] := BK.keep (v := _) ⟨by simp <;> omega, fun j x e => by
    match j with
    | 0 => injection e with e; subst e; exact ⟨by go_simp, by go_simp⟩
    | j + 1 => cases e⟩ hb
  clear hb
  have b30 := B3.c 0 rfl
  have b31 := B3.c 1 rfl
  have b32 := B3.c 2 rfl
  have b40 := B4.c 0 rfl
  have b41 := B4.c 1 rfl
  go_wp2_with fail
  refine (CP.out _).mono ?_
  rintro e w2 ⟨rfl, hb⟩
  clear b30 b31 b32 b40 b41
  replace B3 := B3.keep hb
  replace B4 := B4.keep hb
  replace B5 := B5.keep hb
  replace B6 := B6.keep hb
  replace B7 := B7.keep hb
  replace hbb := keepB hbb hb
  clear hb
  have b60 := B6.c 0 rfl
  have b61 := B6.c 1 rfl
  have f60 := B6.f 0 rfl
  have f61 := B6.f 1 rfl
  have b70 := B7.c 0 rfl
  have f70 := B7.f 0 rfl
  go_wp2_with fail
  exact bodyPost_ret (v := .tuple #[.agg #[.int .i64 0, .int .i64 0], .int .i64 2]) (by simp [results, Try.results21, go_sem, b60, b61, b70]) rfl ⟨rfl, below_set (below_set (below_set hbb (by omega) _) (by omega) _) (by omega) _⟩
set_option maxHeartbeats 4000000 in
set_option maxRecDepth 100000 in
theorem value_no2 (len : Int) (K : Option Addr) (cuts : List Int) (ck : Nat) (Z : Option Addr) (dens : List Int) (cz : Nat) (n1 d1 n2 d2 : Int) (w : World) (h : IsCake w len K cuts Z dens) (hc : Ck.chk len cuts dens = 0) (hn1 : I64 n1) (hd1 : I64 d1) (hn2 : I64 n2) (hd2 : I64 d2) (hp : Ck.pt len n1 d1 = true) (hq : Ck.pt len n2 d2 = false) :
    Calls Try.prog 21 #[.agg #[.int .i64 len, .slice K cuts.length ck, .slice Z dens.length cz], .agg #[.int .i64 n1, .int .i64 d1], .agg #[.int .i64 n2, .int .i64 d2]] w fun e w' => e = .returned (.tuple #[.agg #[.int .i64 0, .int .i64 0], .int .i64 2]) ∧ Below w.heap.size w w' := by
  have hG := Ck.chk_good hc
  have cc := fun v (hb : Below w.heap.size w v) => ckCheck_any len K cuts ck Z dens cz v (h.keep hb)
  rw [hc] at cc
  have n0 : (((0 : Int)) != 0) = false := rfl
  have cp := fun v => ispoint_any len K cuts.length ck Z dens.length cz n1 d1 v hG.len0 hG.len1 hn1 hd1
  rw [hp] at cp
  have CP := Lib.hid cp
  clear cp
  have cq := fun v => ispoint_any len K cuts.length ck Z dens.length cz n2 d2 v hG.len0 hG.len1 hn2 hd2
  rw [hq] at cq
  have CQ := Lib.hid cq
  clear cq
  have CC := Lib.hid cc
  clear cc hc hG h
  go_enter Try.func21, Try.ntmps21
  go_wp2_with fail
  refine (CC.out _ ((((((Below.refl _ _).alloc (Nat.le_refl _) _).alloc (by simp) _).alloc (by simp; omega) _).alloc (by simp; omega) _).alloc (by simp; omega) _)).mono ?_
  rintro e w1 ⟨rfl, hb⟩
  have hbb : Below w.heap.size w w1 := keepB ((((((Below.refl _ _).alloc (Nat.le_refl _) _).alloc (by simp) _).alloc (by simp; omega) _).alloc (by simp; omega) _).alloc (by simp; omega) _) hb
  have B3 : BK w1 (w.heap.size) [.int .i64 len, .slice K cuts.length ck, .slice Z dens.length cz] := BK.keep (v := _) ⟨by simp <;> omega, fun j x e => by
    match j with
    | 0 => injection e with e; subst e; exact ⟨by go_simp, by go_simp⟩
    | 1 => injection e with e; subst e; exact ⟨by go_simp, by go_simp⟩
    | 2 => injection e with e; subst e; exact ⟨by go_simp, by go_simp⟩
    | j + 3 => cases e⟩ hb
  have B4 : BK w1 (w.heap.size + 1) [.int .i64 n1, .int .i64 d1] := BK.keep (v := _) ⟨by simp <;> omega, fun j x e => by
    match j with
    | 0 => injection e with e; subst e; exact ⟨by go_simp, by go_simp⟩
    | 1 => injection e with e; subst e; exact ⟨by go_simp, by go_simp⟩
    | j + 2 => cases e⟩ hb
  have B5 : BK w1 (w.heap.size + 1 + 1) [.int .i64 n2, .int .i64 d2] := BK.keep (v := _) ⟨by simp <;> omega, fun j x e => by
    match j with
    | 0 => injection e with e; subst e; exact ⟨by go_simp, by go_simp⟩
    | 1 => injection e with e; subst e; exact ⟨by go_simp, by go_simp⟩
    | j + 2 => cases e⟩ hb
  have B6 : BK w1 (w.heap.size + 1 + 1 + 1) [.int .i64 0, .int .i64 0] := BK.keep (v := _) ⟨by simp <;> omega, fun j x e => by
    match j with
    | 0 => injection e with e; subst e; exact ⟨by go_simp, by go_simp⟩
    | 1 => injection e with e; subst e; exact ⟨by go_simp, by go_simp⟩
    | j + 2 => cases e⟩ hb
  have B7 : BK w1 (w.heap.size + 1 + 1 + 1 + 1) [.int .i64 0] := BK.keep (v := _) ⟨by simp <;> omega, fun j x e => by
    match j with
    | 0 => injection e with e; subst e; exact ⟨by go_simp, by go_simp⟩
    | j + 1 => cases e⟩ hb
  clear hb
  have b30 := B3.c 0 rfl
  have b31 := B3.c 1 rfl
  have b32 := B3.c 2 rfl
  have b40 := B4.c 0 rfl
  have b41 := B4.c 1 rfl
  go_wp2_with fail
  refine (CP.out _).mono ?_
  rintro e w2 ⟨rfl, hb⟩
  clear b30 b31 b32 b40 b41
  replace B3 := B3.keep hb
  replace B4 := B4.keep hb
  replace B5 := B5.keep hb
  replace B6 := B6.keep hb
  replace B7 := B7.keep hb
  replace hbb := keepB hbb hb
  clear hb
  have b30 := B3.c 0 rfl
  have b31 := B3.c 1 rfl
  have b32 := B3.c 2 rfl
  have b50 := B5.c 0 rfl
  have b51 := B5.c 1 rfl
  go_wp2_with fail
  refine (CQ.out _).mono ?_
  rintro e w3 ⟨rfl, hb⟩
  clear b30 b31 b32 b50 b51
  replace B3 := B3.keep hb
  replace B4 := B4.keep hb
  replace B5 := B5.keep hb
  replace B6 := B6.keep hb
  replace B7 := B7.keep hb
  replace hbb := keepB hbb hb
  clear hb
  have b60 := B6.c 0 rfl
  have b61 := B6.c 1 rfl
  have f60 := B6.f 0 rfl
  have f61 := B6.f 1 rfl
  have b70 := B7.c 0 rfl
  have f70 := B7.f 0 rfl
  go_wp2_with fail
  exact bodyPost_ret (v := .tuple #[.agg #[.int .i64 0, .int .i64 0], .int .i64 2]) (by simp [results, Try.results21, go_sem, b60, b61, b70]) rfl ⟨rfl, below_set (below_set (below_set hbb (by omega) _) (by omega) _) (by omega) _⟩
set_option maxHeartbeats 4000000 in
set_option maxRecDepth 100000 in
theorem value_no3 (len : Int) (K : Option Addr) (cuts : List Int) (ck : Nat) (Z : Option Addr) (dens : List Int) (cz : Nat) (n1 d1 n2 d2 : Int) (w : World) (h : IsCake w len K cuts Z dens) (hc : Ck.chk len cuts dens = 0) (hn1 : I64 n1) (hd1 : I64 d1) (hn2 : I64 n2) (hd2 : I64 d2) (hp : Ck.pt len n1 d1 = true) (hq : Ck.pt len n2 d2 = true) (hl : Rp.q n2 d2 < Rp.q n1 d1) :
    Calls Try.prog 21 #[.agg #[.int .i64 len, .slice K cuts.length ck, .slice Z dens.length cz], .agg #[.int .i64 n1, .int .i64 d1], .agg #[.int .i64 n2, .int .i64 d2]] w fun e w' => e = .returned (.tuple #[.agg #[.int .i64 0, .int .i64 0], .int .i64 2]) ∧ Below w.heap.size w w' := by
  have hG := Ck.chk_good hc
  have cc := fun v (hb : Below w.heap.size w v) => ckCheck_any len K cuts ck Z dens cz v (h.keep hb)
  rw [hc] at cc
  have n0 : (((0 : Int)) != 0) = false := rfl
  have cl := fun v => ckless_any n2 d2 n1 d1 (pt_spec hq).1 (pt_spec hp).1 v
  rw [decide_eq_true hl] at cl
  have CL := Lib.hid cl
  clear cl
  have cp := fun v => ispoint_any len K cuts.length ck Z dens.length cz n1 d1 v hG.len0 hG.len1 hn1 hd1
  rw [hp] at cp
  have CP := Lib.hid cp
  clear cp
  have cq := fun v => ispoint_any len K cuts.length ck Z dens.length cz n2 d2 v hG.len0 hG.len1 hn2 hd2
  rw [hq] at cq
  have CQ := Lib.hid cq
  clear cq
  have CC := Lib.hid cc
  clear cc hc hG h
  go_enter Try.func21, Try.ntmps21
  go_wp2_with fail
  refine (CC.out _ ((((((Below.refl _ _).alloc (Nat.le_refl _) _).alloc (by simp) _).alloc (by simp; omega) _).alloc (by simp; omega) _).alloc (by simp; omega) _)).mono ?_
  rintro e w1 ⟨rfl, hb⟩
  have hbb : Below w.heap.size w w1 := keepB ((((((Below.refl _ _).alloc (Nat.le_refl _) _).alloc (by simp) _).alloc (by simp; omega) _).alloc (by simp; omega) _).alloc (by simp; omega) _) hb
  have B3 : BK w1 (w.heap.size) [.int .i64 len, .slice K cuts.length ck, .slice Z dens.length cz] := BK.keep (v := _) ⟨by simp <;> omega, fun j x e => by
    match j with
    | 0 => injection e with e; subst e; exact ⟨by go_simp, by go_simp⟩
    | 1 => injection e with e; subst e; exact ⟨by go_simp, by go_simp⟩
    | 2 => injection e with e; subst e; exact ⟨by go_simp, by go_simp⟩
    | j + 3 => cases e⟩ hb
  have B4 : BK w1 (w.heap.size + 1) [.int .i64 n1, .int .i64 d1] := BK.keep (v := _) ⟨by simp <;> omega, fun j x e => by
    match j with
    | 0 => injection e with e; subst e; exact ⟨by go_simp, by go_simp⟩
    | 1 => injection e with e; subst e; exact ⟨by go_simp, by go_simp⟩
    | j + 2 => cases e⟩ hb
  have B5 : BK w1 (w.heap.size + 1 + 1) [.int .i64 n2, .int .i64 d2] := BK.keep (v := _) ⟨by simp <;> omega, fun j x e => by
    match j with
    | 0 => injection e with e; subst e; exact ⟨by go_simp, by go_simp⟩
    | 1 => injection e with e; subst e; exact ⟨by go_simp, by go_simp⟩
    | j + 2 => cases e⟩ hb
  have B6 : BK w1 (w.heap.size + 1 + 1 + 1) [.int .i64 0, .int .i64 0] := BK.keep (v := _) ⟨by simp <;> omega, fun j x e => by
    match j with
    | 0 => injection e with e; subst e; exact ⟨by go_simp, by go_simp⟩
    | 1 => injection e with e; subst e; exact ⟨by go_simp, by go_simp⟩
    | j + 2 => cases e⟩ hb
  have B7 : BK w1 (w.heap.size + 1 + 1 + 1 + 1) [.int .i64 0] := BK.keep (v := _) ⟨by simp <;> omega, fun j x e => by
    match j with
    | 0 => injection e with e; subst e; exact ⟨by go_simp, by go_simp⟩
    | j + 1 => cases e⟩ hb
  clear hb
  have b30 := B3.c 0 rfl
  have b31 := B3.c 1 rfl
  have b32 := B3.c 2 rfl
  have b40 := B4.c 0 rfl
  have b41 := B4.c 1 rfl
  go_wp2_with fail
  refine (CP.out _).mono ?_
  rintro e w2 ⟨rfl, hb⟩
  clear b30 b31 b32 b40 b41
  replace B3 := B3.keep hb
  replace B4 := B4.keep hb
  replace B5 := B5.keep hb
  replace B6 := B6.keep hb
  replace B7 := B7.keep hb
  replace hbb := keepB hbb hb
  clear hb
  have b30 := B3.c 0 rfl
  have b31 := B3.c 1 rfl
  have b32 := B3.c 2 rfl
  have b50 := B5.c 0 rfl
  have b51 := B5.c 1 rfl
  go_wp2_with fail
  refine (CQ.out _).mono ?_
  rintro e w3 ⟨rfl, hb⟩
  clear b30 b31 b32 b50 b51
  replace B3 := B3.keep hb
  replace B4 := B4.keep hb
  replace B5 := B5.keep hb
  replace B6 := B6.keep hb
  replace B7 := B7.keep hb
  replace hbb := keepB hbb hb
  clear hb
  have b50 := B5.c 0 rfl
  have b51 := B5.c 1 rfl
  have b40 := B4.c 0 rfl
  have b41 := B4.c 1 rfl
  go_wp2_with fail
  refine (CL.out _).mono ?_
  rintro e w4 ⟨rfl, hb⟩
  clear b50 b51 b40 b41
  replace B3 := B3.keep hb
  replace B4 := B4.keep hb
  replace B5 := B5.keep hb
  replace B6 := B6.keep hb
  replace B7 := B7.keep hb
  replace hbb := keepB hbb hb
  clear hb
  have b60 := B6.c 0 rfl
  have b61 := B6.c 1 rfl
  have f60 := B6.f 0 rfl
  have f61 := B6.f 1 rfl
  have b70 := B7.c 0 rfl
  have f70 := B7.f 0 rfl
  go_wp2_with fail
  exact bodyPost_ret (v := .tuple #[.agg #[.int .i64 0, .int .i64 0], .int .i64 2]) (by simp [results, Try.results21, go_sem, b60, b61, b70]) rfl ⟨rfl, below_set (below_set (below_set hbb (by omega) _) (by omega) _) (by omega) _⟩
set_option maxHeartbeats 4000000 in
set_option maxRecDepth 100000 in
theorem mark_no3 (len : Int) (K : Option Addr) (cuts : List Int) (ck : Nat) (Z : Option Addr) (dens : List Int) (cz : Nat) (n1 d1 v1 v2 : Int) (w : World) (h : IsCake w len K cuts Z dens) (hc : Ck.chk len cuts dens = 0) (hn1 : I64 n1) (hd1 : I64 d1) (hv1 : I64 v1) (hv2 : I64 v2) (hp : Ck.pt len n1 d1 = true) (oV : Rp.Ok v1 v2) (h0 : v1 < 0) :
    Calls Try.prog 22 #[.agg #[.int .i64 len, .slice K cuts.length ck, .slice Z dens.length cz], .agg #[.int .i64 n1, .int .i64 d1], .agg #[.int .i64 v1, .int .i64 v2]] w fun e w' => e = .returned (.tuple #[.agg #[.int .i64 0, .int .i64 0], .int .i64 2]) ∧ Below w.heap.size w w' := by
  have hG := Ck.chk_good hc
  have cc := fun v (hb : Below w.heap.size w v) => ckCheck_any len K cuts ck Z dens cz v (h.keep hb)
  rw [hc] at cc
  have n0 : (((0 : Int)) != 0) = false := rfl
  have cv := fun w => check_any v1 v2 w hv1.1 hv1.2 hv2.1 hv2.2
  rw [show Rp.chk v1 v2 = 0 from if_pos oV] at cv
  have CV := Lib.hid cv
  clear cv
  have e1 : decide (v1 < 0) = true := decide_eq_true h0
  have cp := fun v => ispoint_any len K cuts.length ck Z dens.length cz n1 d1 v hG.len0 hG.len1 hn1 hd1
  rw [hp] at cp
  have CP := Lib.hid cp
  clear cp
  have CC := Lib.hid cc
  clear cc hc hG h
  go_enter Try.func22, Try.ntmps22
  go_wp2_with fail
  refine (CC.out _ ((((((Below.refl _ _).alloc (Nat.le_refl _) _).alloc (by simp) _).alloc (by simp; omega) _).alloc (by simp; omega) _).alloc (by simp; omega) _)).mono ?_
  rintro e w1 ⟨rfl, hb⟩
  have hbb : Below w.heap.size w w1 := keepB ((((((Below.refl _ _).alloc (Nat.le_refl _) _).alloc (by simp) _).alloc (by simp; omega) _).alloc (by simp; omega) _).alloc (by simp; omega) _) hb
  have B3 : BK w1 (w.heap.size) [.int .i64 len, .slice K cuts.length ck, .slice Z dens.length cz] := BK.keep (v := _) ⟨by simp <;> omega, fun j x e => by
    match j with
    | 0 => injection e with e; subst e; exact ⟨by go_simp, by go_simp⟩
    | 1 => injection e with e; subst e; exact ⟨by go_simp, by go_simp⟩
    | 2 => injection e with e; subst e; exact ⟨by go_simp, by go_simp⟩
    | j + 3 => cases e⟩ hb
  have B4 : BK w1 (w.heap.size + 1) [.int .i64 n1, .int .i64 d1] := BK.keep (v := _) ⟨by simp <;> omega, fun j x e => by
    match j with
    | 0 => injection e with e; subst e; exact ⟨by go_simp, by go_simp⟩
    | 1 => injection e with e; subst e; exact ⟨by go_simp, by go_simp⟩
    | j + 2 => cases e⟩ hb
  have B5 : BK w1 (w.heap.size + 1 + 1) [.int .i64 v1, .int .i64 v2] := BK.keep (v := _) ⟨by simp <;> omega, fun j x e => by
    match j with
    | 0 => injection e with e; subst e; exact ⟨by go_simp, by go_simp⟩
    | 1 => injection e with e; subst e; exact ⟨by go_simp, by go_simp⟩
    | j + 2 => cases e⟩ hb
  have B6 : BK w1 (w.heap.size + 1 + 1 + 1) [.int .i64 0, .int .i64 0] := BK.keep (v := _) ⟨by simp <;> omega, fun j x e => by
    match j with
    | 0 => injection e with e; subst e; exact ⟨by go_simp, by go_simp⟩
    | 1 => injection e with e; subst e; exact ⟨by go_simp, by go_simp⟩
    | j + 2 => cases e⟩ hb
  have B7 : BK w1 (w.heap.size + 1 + 1 + 1 + 1) [.int .i64 0] := BK.keep (v := _) ⟨by simp <;> omega, fun j x e => by
    match j with
    | 0 => injection e with e; subst e; exact ⟨by go_simp, by go_simp⟩
    | j + 1 => cases e⟩ hb
  clear hb
  have b30 := B3.c 0 rfl
  have b31 := B3.c 1 rfl
  have b32 := B3.c 2 rfl
  have b40 := B4.c 0 rfl
  have b41 := B4.c 1 rfl
  go_wp2_with fail
  refine (CP.out _).mono ?_
  rintro e w2 ⟨rfl, hb⟩
  clear b30 b31 b32 b40 b41
  replace B3 := B3.keep hb
  replace B4 := B4.keep hb
  replace B5 := B5.keep hb
  replace B6 := B6.keep hb
  replace B7 := B7.keep hb
  replace hbb := keepB hbb hb
  clear hb
  have b50 := B5.c 0 rfl
  have b51 := B5.c 1 rfl
  go_wp2_with fail
  refine (CV.out _).mono ?_
  rintro e w3 ⟨rfl, hb⟩
  clear b50 b51
  replace B3 := B3.keep hb
  replace B4 := B4.keep hb
  replace B5 := B5.keep hb
  replace B6 := B6.keep hb
  replace B7 := B7.keep hb
  replace hbb := keepB hbb hb
  clear hb
  have b60 := B6.c 0 rfl
  have b61 := B6.c 1 rfl
  have f60 := B6.f 0 rfl
  have f61 := B6.f 1 rfl
  have b70 := B7.c 0 rfl
  have f70 := B7.f 0 rfl
  have b50 := B5.c 0 rfl
  have b51 := B5.c 1 rfl
  go_wp2_with fail
  exact bodyPost_ret (v := .tuple #[.agg #[.int .i64 0, .int .i64 0], .int .i64 2]) (by simp [results, Try.results22, go_sem, b60, b61, b70]) rfl ⟨rfl, below_set (below_set (below_set hbb (by omega) _) (by omega) _) (by omega) _⟩
def GivenQ (w : World) (e : Ending) (w' : World) : Prop :=
  ∃ K Z, e = .returned (.agg #[.int .i64 10, .slice K 4 4, .slice Z 3 3]) ∧ IsCake w' 10 K [0, 4, 6, 10] Z [2, 0, 3] ∧ Below w.heap.size w w'
set_option maxRecDepth 100000 in
theorem given4_any (w : World) : Calls Try.prog 17 #[] w (GivenQ w) := by
  go_enter Try.func17, Try.ntmps17
  go_wp2
  refine bodyPost_ret (v := .agg #[.int .i64 10, .slice (some ⟨w.heap.size + 1, 0, none⟩) 4 4, .slice (some ⟨w.heap.size + 1 + 1, 0, none⟩) 3 3]) (by simp [results, Try.results17, go_sem]) rfl ⟨_, _, rfl, ?_, ?_⟩
  · refine ⟨⟨by decide, by decide⟩, ⟨by simp [maxLen], by simp [maxLen]⟩, ⟨fun _ => ⟨_, _, rfl, fun i hi => ?_⟩, by intro z hz; simp at hz; rcases hz with rfl | rfl | rfl | rfl <;> exact ⟨by decide, by decide⟩⟩, ⟨fun _ => ⟨_, _, rfl, fun i hi => ?_⟩, by intro z hz; simp at hz; rcases hz with rfl | rfl | rfl <;> exact ⟨by decide, by decide⟩⟩⟩
    · match i with
      | 0 => go_simp; rfl
      | 1 => go_simp; rfl
      | 2 => go_simp; rfl
      | 3 => go_simp; rfl
      | i + 4 => simp at hi; omega
    · match i with
      | 0 => go_simp; rfl
      | 1 => go_simp; rfl
      | 2 => go_simp; rfl
      | i + 3 => simp at hi; omega
  · exact below_al (below_al (below_al (Below.refl _ _) _) _) _
/-- A cake that a call hands back. -/
def CakeQ (len : Int) (cuts dens : List Int) (x : Int) (w : World) (e : Ending) (w' : World) : Prop :=
  ∃ K ck Z cz, e = .returned (.tuple #[.agg #[.int .i64 len, .slice K cuts.length ck, .slice Z dens.length cz], .int .i64 x]) ∧ IsCake w' len K cuts Z dens ∧ Below w.heap.size w w'
theorem own_cake {w' : World} {B : Nat} {len : Int} {v1 v2 : Value} {cuts dens : List Int} (hl : I64 len) (h1 : cuts.length ≤ maxLen ∧ dens.length ≤ maxLen) (o1 : Own w' B v1 cuts) (o2 : Own w' B v2 dens) (b1 : ∀ x ∈ cuts, I64 x) (b2 : ∀ x ∈ dens, I64 x) :
    ∃ K ck Z cz, v1 = .slice K cuts.length ck ∧ v2 = .slice Z dens.length cz ∧ IsCake w' len K cuts Z dens := by
  obtain ⟨K, ck, rfl⟩ := o1.form
  obtain ⟨Z, cz, rfl⟩ := o2.form
  exact ⟨K, ck, Z, cz, rfl, rfl, hl, h1, o1.isI b1, o2.isI b2⟩
theorem nm_dens4 (K : Option Addr) (Z : Option Addr) (v : World) (h : IsCake v 10 K [0, 4, 6, 10] Z [2, 0, 3]) :
    Calls Try.prog 16 #[.agg #[.int .i64 10, .slice K 4 4, .slice Z 3 3], .agg #[.int .i64 (4), .int .i64 (1)]] v fun e w' => e = .returned (.tuple #[.int .i64 0, .int .i64 0]) ∧ Below v.heap.size v w' := by
  have := ckDensity_any 10 K [0, 4, 6, 10] 4 Z [2, 0, 3] 3 4 1 v h ⟨by decide, by decide⟩ ⟨by decide, by decide⟩
  rw [show Ck.denS 10 [0, 4, 6, 10] [2, 0, 3] 4 1 = (0, 0) by decide +kernel] at this
  exact this
theorem nm_dens10 (K : Option Addr) (Z : Option Addr) (v : World) (h : IsCake v 10 K [0, 4, 6, 10] Z [2, 0, 3]) :
    Calls Try.prog 16 #[.agg #[.int .i64 10, .slice K 4 4, .slice Z 3 3], .agg #[.int .i64 (10), .int .i64 (1)]] v fun e w' => e = .returned (.tuple #[.int .i64 3, .int .i64 0]) ∧ Below v.heap.size v w' := by
  have := ckDensity_any 10 K [0, 4, 6, 10] 4 Z [2, 0, 3] 3 10 1 v h ⟨by decide, by decide⟩ ⟨by decide, by decide⟩
  rw [show Ck.denS 10 [0, 4, 6, 10] [2, 0, 3] 10 1 = (3, 0) by decide +kernel] at this
  exact this
theorem nm_dens11 (K : Option Addr) (Z : Option Addr) (v : World) (h : IsCake v 10 K [0, 4, 6, 10] Z [2, 0, 3]) :
    Calls Try.prog 16 #[.agg #[.int .i64 10, .slice K 4 4, .slice Z 3 3], .agg #[.int .i64 (11), .int .i64 (1)]] v fun e w' => e = .returned (.tuple #[.int .i64 0, .int .i64 2]) ∧ Below v.heap.size v w' := by
  have := ckDensity_any 10 K [0, 4, 6, 10] 4 Z [2, 0, 3] 3 11 1 v h ⟨by decide, by decide⟩ ⟨by decide, by decide⟩
  rw [show Ck.denS 10 [0, 4, 6, 10] [2, 0, 3] 11 1 = (0, 2) by decide +kernel] at this
  exact this
theorem nm_val (K : Option Addr) (Z : Option Addr) (v : World) (h : IsCake v 10 K [0, 4, 6, 10] Z [2, 0, 3]) :
    Calls Try.prog 21 #[.agg #[.int .i64 10, .slice K 4 4, .slice Z 3 3], .agg #[.int .i64 (1), .int .i64 (3)], .agg #[.int .i64 (13), .int .i64 (2)]] v fun e w' => e = .returned (.tuple #[.agg #[.int .i64 (53), .int .i64 (6)], .int .i64 0]) ∧ Below v.heap.size v w' := by
  have := value_good 10 K [0, 4, 6, 10] 4 Z [2, 0, 3] 3 1 3 13 2 v h (by decide +kernel) (by decide +kernel) (by decide +kernel) (by decide +kernel)
  rw [show ([2, 0, 3] : List Int).length = 3 from rfl, show Ck.vgo [0, 4, 6, 10] [2, 0, 3] (1) (3) (13) (2) 3 = (53, 6, 0) by decide +kernel] at this
  exact this
theorem nm_valw (K : Option Addr) (Z : Option Addr) (v : World) (h : IsCake v 10 K [0, 4, 6, 10] Z [2, 0, 3]) :
    Calls Try.prog 21 #[.agg #[.int .i64 10, .slice K 4 4, .slice Z 3 3], .agg #[.int .i64 (1), .int .i64 (1000000000000000000)], .agg #[.int .i64 (999999999999999998), .int .i64 (999999999999999999)]] v fun e w' => e = .returned (.tuple #[.agg #[.int .i64 (0), .int .i64 (0)], .int .i64 16]) ∧ Below v.heap.size v w' := by
  have := value_good 10 K [0, 4, 6, 10] 4 Z [2, 0, 3] 3 1 1000000000000000000 999999999999999998 999999999999999999 v h (by decide +kernel) (by decide +kernel) (by decide +kernel) (by decide +kernel)
  rw [show ([2, 0, 3] : List Int).length = 3 from rfl, show Ck.vgo [0, 4, 6, 10] [2, 0, 3] (1) (1000000000000000000) (999999999999999998) (999999999999999999) 3 = (0, 0, 16) by decide +kernel] at this
  exact this
theorem nm_valj (K : Option Addr) (Z : Option Addr) (v : World) (h : IsCake v 10 K [0, 4, 6, 10] Z [2, 0, 3]) :
    Calls Try.prog 21 #[.agg #[.int .i64 10, .slice K 4 4, .slice Z 3 3], .agg #[.int .i64 (-1), .int .i64 (1)], .agg #[.int .i64 (1), .int .i64 (1)]] v fun e w' => e = .returned (.tuple #[.agg #[.int .i64 (0), .int .i64 (0)], .int .i64 2]) ∧ Below v.heap.size v w' := by
  have := value_no1 10 K [0, 4, 6, 10] 4 Z [2, 0, 3] 3 (-1) 1 1 1 v h (by decide +kernel) ⟨by decide, by decide⟩ ⟨by decide, by decide⟩ (by decide +kernel)
  skip
  exact this
theorem nm_valk (K : Option Addr) (Z : Option Addr) (v : World) (h : IsCake v 10 K [0, 4, 6, 10] Z [2, 0, 3]) :
    Calls Try.prog 21 #[.agg #[.int .i64 10, .slice K 4 4, .slice Z 3 3], .agg #[.int .i64 (1), .int .i64 (1)], .agg #[.int .i64 (11), .int .i64 (1)]] v fun e w' => e = .returned (.tuple #[.agg #[.int .i64 (0), .int .i64 (0)], .int .i64 2]) ∧ Below v.heap.size v w' := by
  have := value_no2 10 K [0, 4, 6, 10] 4 Z [2, 0, 3] 3 1 1 11 1 v h (by decide +kernel) ⟨by decide, by decide⟩ ⟨by decide, by decide⟩ ⟨by decide, by decide⟩ ⟨by decide, by decide⟩ (by decide +kernel) (by decide +kernel)
  skip
  exact this
theorem nm_vall (K : Option Addr) (Z : Option Addr) (v : World) (h : IsCake v 10 K [0, 4, 6, 10] Z [2, 0, 3]) :
    Calls Try.prog 21 #[.agg #[.int .i64 10, .slice K 4 4, .slice Z 3 3], .agg #[.int .i64 (2), .int .i64 (1)], .agg #[.int .i64 (1), .int .i64 (1)]] v fun e w' => e = .returned (.tuple #[.agg #[.int .i64 (0), .int .i64 (0)], .int .i64 2]) ∧ Below v.heap.size v w' := by
  have := value_no3 10 K [0, 4, 6, 10] 4 Z [2, 0, 3] 3 2 1 1 1 v h (by decide +kernel) ⟨by decide, by decide⟩ ⟨by decide, by decide⟩ ⟨by decide, by decide⟩ ⟨by decide, by decide⟩ (by decide +kernel) (by decide +kernel) (by decide +kernel)
  skip
  exact this
theorem nm_valo (K : Option Addr) (Z : Option Addr) (v : World) (h : IsCake v 10 K [0, 4, 6, 10] Z [2, 0, 3]) :
    Calls Try.prog 21 #[.agg #[.int .i64 10, .slice K 4 4, .slice Z 3 3], .agg #[.int .i64 (0), .int .i64 (1)], .agg #[.int .i64 (2), .int .i64 (4)]] v fun e w' => e = .returned (.tuple #[.agg #[.int .i64 (0), .int .i64 (0)], .int .i64 2]) ∧ Below v.heap.size v w' := by
  have := value_no2 10 K [0, 4, 6, 10] 4 Z [2, 0, 3] 3 0 1 2 4 v h (by decide +kernel) ⟨by decide, by decide⟩ ⟨by decide, by decide⟩ ⟨by decide, by decide⟩ ⟨by decide, by decide⟩ (by decide +kernel) (by decide +kernel)
  skip
  exact this
theorem nm_mkx (K : Option Addr) (Z : Option Addr) (v : World) (h : IsCake v 10 K [0, 4, 6, 10] Z [2, 0, 3]) :
    Calls Try.prog 22 #[.agg #[.int .i64 10, .slice K 4 4, .slice Z 3 3], .agg #[.int .i64 (7), .int .i64 (2)], .agg #[.int .i64 (1), .int .i64 (1)]] v fun e w' => e = .returned (.tuple #[.agg #[.int .i64 (4), .int .i64 (1)], .int .i64 0]) ∧ Below v.heap.size v w' := by
  have := mark_good 10 K [0, 4, 6, 10] 4 Z [2, 0, 3] 3 7 2 1 1 v h (by decide +kernel) (by decide +kernel) (by decide +kernel) (by decide +kernel)
  rw [show ([2, 0, 3] : List Int).length = 3 from rfl, show Ck.mgo 10 [0, 4, 6, 10] [2, 0, 3] 7 2 3 0 1 1 = (4, 1, 0) by decide +kernel] at this
  exact this
theorem nm_mky (K : Option Addr) (Z : Option Addr) (v : World) (h : IsCake v 10 K [0, 4, 6, 10] Z [2, 0, 3]) :
    Calls Try.prog 22 #[.agg #[.int .i64 10, .slice K 4 4, .slice Z 3 3], .agg #[.int .i64 (10), .int .i64 (1)], .agg #[.int .i64 (0), .int .i64 (1)]] v fun e w' => e = .returned (.tuple #[.agg #[.int .i64 (10), .int .i64 (1)], .int .i64 0]) ∧ Below v.heap.size v w' := by
  have := mark_zero 10 K [0, 4, 6, 10] 4 Z [2, 0, 3] 3 10 1 0 1 v h (by decide +kernel) (by decide +kernel) (by decide +kernel) (by decide +kernel)
  skip
  exact this
theorem nm_mkq (K : Option Addr) (Z : Option Addr) (v : World) (h : IsCake v 10 K [0, 4, 6, 10] Z [2, 0, 3]) :
    Calls Try.prog 22 #[.agg #[.int .i64 10, .slice K 4 4, .slice Z 3 3], .agg #[.int .i64 (0), .int .i64 (1)], .agg #[.int .i64 (-1), .int .i64 (1)]] v fun e w' => e = .returned (.tuple #[.agg #[.int .i64 (0), .int .i64 (0)], .int .i64 2]) ∧ Below v.heap.size v w' := by
  have := mark_no3 10 K [0, 4, 6, 10] 4 Z [2, 0, 3] 3 0 1 (-1) 1 v h (by decide +kernel) ⟨by decide, by decide⟩ ⟨by decide, by decide⟩ ⟨by decide, by decide⟩ ⟨by decide, by decide⟩ (by decide +kernel) (by decide +kernel) (by decide +kernel)
  skip
  exact this
theorem nm_mkr (K : Option Addr) (Z : Option Addr) (v : World) (h : IsCake v 10 K [0, 4, 6, 10] Z [2, 0, 3]) :
    Calls Try.prog 22 #[.agg #[.int .i64 10, .slice K 4 4, .slice Z 3 3], .agg #[.int .i64 (10), .int .i64 (1)], .agg #[.int .i64 (1), .int .i64 (1)]] v fun e w' => e = .returned (.tuple #[.agg #[.int .i64 (0), .int .i64 (0)], .int .i64 6]) ∧ Below v.heap.size v w' := by
  have := mark_good 10 K [0, 4, 6, 10] 4 Z [2, 0, 3] 3 10 1 1 1 v h (by decide +kernel) (by decide +kernel) (by decide +kernel) (by decide +kernel)
  rw [show ([2, 0, 3] : List Int).length = 3 from rfl, show Ck.mgo 10 [0, 4, 6, 10] [2, 0, 3] 10 1 3 0 1 1 = (0, 0, 6) by decide +kernel] at this
  exact this
theorem nm_partp (K : Option Addr) (Z : Option Addr) (v : World) (h : IsCake v 10 K [0, 4, 6, 10] Z [2, 0, 3]) : Calls Try.prog 19 #[.agg #[.int .i64 10, .slice K 4 4, .slice Z 3 3], .int .i64 3, .int .i64 7] v (CakeQ 4 [0, 1, 3, 4] [2, 0, 3] 0 v) := by
  have := ckPart_any 10 K [0, 4, 6, 10] 4 Z [2, 0, 3] 3 3 7 v h (by decide) (by decide) ⟨by decide, by decide⟩ ⟨by decide, by decide⟩
  rw [show Ck.parS 10 [0, 4, 6, 10] [2, 0, 3] 3 7 = (4, [0, 1, 3, 4], [2, 0, 3], 0) by decide +kernel] at this
  refine this.mono ?_
  rintro e w' ⟨v1, v2, rfl, o1, o2, _, hb⟩
  obtain ⟨K', ck', Z', cz', rfl, rfl, hI⟩ := own_cake (len := 4) ⟨by decide, by decide⟩ ⟨by simp [maxLen], by simp [maxLen]⟩ o1 o2 (by intro x hx; simp at hx; rcases hx with rfl | rfl | rfl | rfl <;> exact ⟨by decide, by decide⟩) (by intro x hx; simp at hx; rcases hx with rfl | rfl | rfl <;> exact ⟨by decide, by decide⟩)
  exact ⟨K', ck', Z', cz', rfl, hI, hb⟩
theorem nm_parte (K : Option Addr) (Z : Option Addr) (v : World) (h : IsCake v 10 K [0, 4, 6, 10] Z [2, 0, 3]) : Calls Try.prog 19 #[.agg #[.int .i64 10, .slice K 4 4, .slice Z 3 3], .int .i64 4, .int .i64 6] v (CakeQ 0 [] [] 6 v) := by
  have := ckPart_any 10 K [0, 4, 6, 10] 4 Z [2, 0, 3] 3 4 6 v h (by decide) (by decide) ⟨by decide, by decide⟩ ⟨by decide, by decide⟩
  rw [show Ck.parS 10 [0, 4, 6, 10] [2, 0, 3] 4 6 = (0, [], [], 6) by decide +kernel] at this
  refine this.mono ?_
  rintro e w' ⟨v1, v2, rfl, o1, o2, _, hb⟩
  obtain ⟨K', ck', Z', cz', rfl, rfl, hI⟩ := own_cake (len := 0) ⟨by decide, by decide⟩ ⟨by simp [maxLen], by simp [maxLen]⟩ o1 o2 (by intro x hx; cases hx) (by intro x hx; cases hx)
  exact ⟨K', ck', Z', cz', rfl, hI, hb⟩
theorem nm_partt (K : Option Addr) (Z : Option Addr) (v : World) (h : IsCake v 10 K [0, 4, 6, 10] Z [2, 0, 3]) : Calls Try.prog 19 #[.agg #[.int .i64 10, .slice K 4 4, .slice Z 3 3], .int .i64 3, .int .i64 3] v (CakeQ 0 [] [] 2 v) := by
  have := ckPart_any 10 K [0, 4, 6, 10] 4 Z [2, 0, 3] 3 3 3 v h (by decide) (by decide) ⟨by decide, by decide⟩ ⟨by decide, by decide⟩
  rw [show Ck.parS 10 [0, 4, 6, 10] [2, 0, 3] 3 3 = (0, [], [], 2) by decide +kernel] at this
  refine this.mono ?_
  rintro e w' ⟨v1, v2, rfl, o1, o2, _, hb⟩
  obtain ⟨K', ck', Z', cz', rfl, rfl, hI⟩ := own_cake (len := 0) ⟨by decide, by decide⟩ ⟨by simp [maxLen], by simp [maxLen]⟩ o1 o2 (by intro x hx; cases hx) (by intro x hx; cases hx)
  exact ⟨K', ck', Z', cz', rfl, hI, hb⟩
theorem nm_partu (K : Option Addr) (Z : Option Addr) (v : World) (h : IsCake v 10 K [0, 4, 6, 10] Z [2, 0, 3]) : Calls Try.prog 19 #[.agg #[.int .i64 10, .slice K 4 4, .slice Z 3 3], .int .i64 0, .int .i64 11] v (CakeQ 0 [] [] 2 v) := by
  have := ckPart_any 10 K [0, 4, 6, 10] 4 Z [2, 0, 3] 3 0 11 v h (by decide) (by decide) ⟨by decide, by decide⟩ ⟨by decide, by decide⟩
  rw [show Ck.parS 10 [0, 4, 6, 10] [2, 0, 3] 0 11 = (0, [], [], 2) by decide +kernel] at this
  refine this.mono ?_
  rintro e w' ⟨v1, v2, rfl, o1, o2, _, hb⟩
  obtain ⟨K', ck', Z', cz', rfl, rfl, hI⟩ := own_cake (len := 0) ⟨by decide, by decide⟩ ⟨by simp [maxLen], by simp [maxLen]⟩ o1 o2 (by intro x hx; cases hx) (by intro x hx; cases hx)
  exact ⟨K', ck', Z', cz', rfl, hI, hb⟩
theorem nm_normal (K : Option Addr) (ck : Nat) (Z : Option Addr) (cz : Nat) (v : World) (h : IsCake v 4 K [0, 1, 2, 4] Z [1, 1, 0]) : Calls Try.prog 20 #[.agg #[.int .i64 4, .slice K 4 ck, .slice Z 3 cz]] v (CakeQ 4 [0, 2, 4] [1, 0] 0 v) := by
  have := ckNormal_any 4 K [0, 1, 2, 4] ck Z [1, 1, 0] cz v h
  rw [show Ck.norS 4 [0, 1, 2, 4] [1, 1, 0] = (4, [0, 2, 4], [1, 0], 0) by decide +kernel] at this
  refine this.mono ?_
  rintro e w' ⟨v1, v2, rfl, o1, o2, _, hb⟩
  obtain ⟨K', ck', Z', cz', rfl, rfl, hI⟩ := own_cake (len := 4) ⟨by decide, by decide⟩ ⟨by simp [maxLen], by simp [maxLen]⟩ o1 o2 (by intro x hx; simp at hx; rcases hx with rfl | rfl | rfl <;> exact ⟨by decide, by decide⟩) (by intro x hx; simp at hx; rcases hx with rfl | rfl <;> exact ⟨by decide, by decide⟩)
  exact ⟨K', ck', Z', cz', rfl, hI, hb⟩
end Go.Proofs.Ytomokdepndclpaa
