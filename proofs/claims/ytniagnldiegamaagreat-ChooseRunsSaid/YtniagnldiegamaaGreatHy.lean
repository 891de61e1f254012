/- Value and Mark of a valid cake, for any numbers. Package ask's answers. -/
import Derived.Test.YtniagnldiegamaaGreatAskm
import Derived.Test.YtniagnldiegamaaGreatHs
import Derived.Test.YtniagnldiegamaaGreatMark
import Derived.Test.YtniagnldiegamaaGreatGi
namespace Go.Proofs.YtniagnldiegamaaGreat
open Go.RowKit
set_option maxHeartbeats 4000000 in
set_option maxRecDepth 100000 in
theorem Ak.value_no1 (len : Int) (K : Option Addr) (cuts : List Int) (ck : Nat) (Z : Option Addr) (dens : List Int) (cz : Nat) (n1 d1 n2 d2 : Int) (w : World) (h : IsCake w len K cuts Z dens) (hc : Ck.chk len cuts dens = 0) (hn1 : I64 n1) (hd1 : I64 d1) (hp : Ck.pt len n1 d1 = false) :
    Calls Tryz.prog 143 #[.agg #[.int .i64 len, .slice K cuts.length ck, .slice Z dens.length cz], .agg #[.int .i64 n1, .int .i64 d1], .agg #[.int .i64 n2, .int .i64 d2]] w fun e w' => e = .returned (.tuple #[.agg #[.int .i64 0, .int .i64 0], .int .i64 2]) ∧ Below w.heap.size w w' := by
  have hG := Ck.chk_good hc
  have cc := fun v (hb : Below w.heap.size w v) => ckCheck_any len K cuts ck Z dens cz v (h.keep hb)
  rw [hc] at cc; have n0 : (((0 : Int)) != 0) = false := rfl
  have cp := fun v => ispoint_any len K cuts.length ck Z dens.length cz n1 d1 v hG.len0 hG.len1 hn1 hd1
  rw [hp] at cp; have CP := Lib.hid cp; clear cp; have CC := Lib.hid cc; clear cc hc hG h
  go_enter Tryz.func143, Tryz.ntmps143
  (go_wp2_with fail); refine (CC.out _ ((((((Below.refl _ _).alloc (Nat.le_refl _) _).alloc (by simp) _).alloc (by simp; omega) _).alloc (by simp; omega) _).alloc (by simp; omega) _)).mono ?_; rintro e w1 ⟨rfl, hb⟩; have hbb : Below w.heap.size w w1 := keepB ((((((Below.refl _ _).alloc (Nat.le_refl _) _).alloc (by simp) _).alloc (by simp; omega) _).alloc (by simp; omega) _).alloc (by simp; omega) _) hb
  have B3 : BK w1 (w.heap.size) [.int .i64 len, .slice K cuts.length ck, .slice Z dens.length cz] := BK.keep (v := _) ⟨by simp <;> omega, fun j x e => by
    match j with
    | 0 => injection e with e; subst e; exact ⟨by go_simp, by go_simp⟩
    | 1 => injection e with e; subst e; exact ⟨by go_simp, by go_simp⟩
    | 2 => injection e with e; subst e; exact ⟨by go_simp, by go_simp⟩
    | j + 3 => cases e⟩ hb
  have B4 : BK w1 (w.heap.size + 1) [.int .i64 n1, .int .i64 d1] := BK.keep (v := _) ⟨by simp <;> omega, fun j x e => by
    match j with
    | 0 => injection e with e; subst e; exact ⟨by go_simp, by go_simp⟩
    | 1 => injection e with e; subst e; exact ⟨by go_simp, by go_simp⟩
    | j + 2 => cases e⟩ hb
  have B5 : BK w1 (w.heap.size + 1 + 1) [.int .i64 n2, .int .i64 d2] := BK.keep (v := _) ⟨by simp <;> omega, fun j x e => by
    match j with
    | 0 => injection e with e; subst e; exact ⟨by go_simp, by go_simp⟩
    | 1 => injection e with e; subst e; exact ⟨by go_simp, by go_simp⟩
    | j + 2 => cases e⟩ hb
  have B6 : BK w1 (w.heap.size + 1 + 1 + 1) [.int .i64 0, .int .i64 0] := BK.keep (v := _) ⟨by simp <;> omega, fun j x e => by
    match j with
    | 0 => injection e with e; subst e; exact ⟨by go_simp, by go_simp⟩
    | 1 => injection e with e; subst e; exact ⟨by go_simp, by go_simp⟩
    | j + 2 => cases e⟩ hb
  have B7 : BK w1 (w.heap.size + 1 + 1 + 1 + 1) [.int .i64 0] := BK.keep (v := _) ⟨by simp <;> omega, fun j x e => by
    match j with
    | 0 => injection e with e; subst e; exact ⟨by go_simp, by go_simp⟩
    | j + 1 => cases e⟩ hb
  clear hb; have b30 := B3.c 0 rfl; have b31 := B3.c 1 rfl; have b32 := B3.c 2 rfl; have b40 := B4.c 0 rfl; have b41 := B4.c 1 rfl; (go_wp2_with fail); refine (CP.out _).mono ?_; rintro e w2 ⟨rfl, hb⟩; clear b30 b31 b32 b40 b41; replace B3 := B3.keep hb; replace B4 := B4.keep hb; replace B5 := B5.keep hb; replace B6 := B6.keep hb; replace B7 := B7.keep hb; replace hbb := keepB hbb hb; clear hb; have b60 := B6.c 0 rfl; have b61 := B6.c 1 rfl; have f60 := B6.f 0 rfl; have f61 := B6.f 1 rfl; have b70 := B7.c 0 rfl; have f70 := B7.f 0 rfl; (go_wp2_with fail); exact bodyPost_ret (v := .tuple #[.agg #[.int .i64 0, .int .i64 0], .int .i64 2]) (by simp [results, Tryz.results143, go_sem, b60, b61, b70]) rfl ⟨rfl, below_set (below_set (below_set hbb (by omega) _) (by omega) _) (by omega) _⟩
set_option maxHeartbeats 4000000 in
set_option maxRecDepth 100000 in
theorem Ak.value_no2 (len : Int) (K : Option Addr) (cuts : List Int) (ck : Nat) (Z : Option Addr) (dens : List Int) (cz : Nat) (n1 d1 n2 d2 : Int) (w : World) (h : IsCake w len K cuts Z dens) (hc : Ck.chk len cuts dens = 0) (hn1 : I64 n1) (hd1 : I64 d1) (hn2 : I64 n2) (hd2 : I64 d2) (hp : Ck.pt len n1 d1 = true) (hq : Ck.pt len n2 d2 = false) :
    Calls Tryz.prog 143 #[.agg #[.int .i64 len, .slice K cuts.length ck, .slice Z dens.length cz], .agg #[.int .i64 n1, .int .i64 d1], .agg #[.int .i64 n2, .int .i64 d2]] w fun e w' => e = .returned (.tuple #[.agg #[.int .i64 0, .int .i64 0], .int .i64 2]) ∧ Below w.heap.size w w' := by
  have hG := Ck.chk_good hc
  have cc := fun v (hb : Below w.heap.size w v) => ckCheck_any len K cuts ck Z dens cz v (h.keep hb)
  rw [hc] at cc; have n0 : (((0 : Int)) != 0) = false := rfl
  have cp := fun v => ispoint_any len K cuts.length ck Z dens.length cz n1 d1 v hG.len0 hG.len1 hn1 hd1
  rw [hp] at cp; have CP := Lib.hid cp; clear cp
  have cq := fun v => ispoint_any len K cuts.length ck Z dens.length cz n2 d2 v hG.len0 hG.len1 hn2 hd2
  rw [hq] at cq; have CQ := Lib.hid cq; clear cq; have CC := Lib.hid cc; clear cc hc hG h
  go_enter Tryz.func143, Tryz.ntmps143
  (go_wp2_with fail); refine (CC.out _ ((((((Below.refl _ _).alloc (Nat.le_refl _) _).alloc (by simp) _).alloc (by simp; omega) _).alloc (by simp; omega) _).alloc (by simp; omega) _)).mono ?_; rintro e w1 ⟨rfl, hb⟩; have hbb : Below w.heap.size w w1 := keepB ((((((Below.refl _ _).alloc (Nat.le_refl _) _).alloc (by simp) _).alloc (by simp; omega) _).alloc (by simp; omega) _).alloc (by simp; omega) _) hb
  have B3 : BK w1 (w.heap.size) [.int .i64 len, .slice K cuts.length ck, .slice Z dens.length cz] := BK.keep (v := _) ⟨by simp <;> omega, fun j x e => by
    match j with
    | 0 => injection e with e; subst e; exact ⟨by go_simp, by go_simp⟩
    | 1 => injection e with e; subst e; exact ⟨by go_simp, by go_simp⟩
    | 2 => injection e with e; subst e; exact ⟨by go_simp, by go_simp⟩
    | j + 3 => cases e⟩ hb
  have B4 : BK w1 (w.heap.size + 1) [.int .i64 n1, .int .i64 d1] := BK.keep (v := _) ⟨by simp <;> omega, fun j x e => by
    match j with
    | 0 => injection e with e; subst e; exact ⟨by go_simp, by go_simp⟩
    | 1 => injection e with e; subst e; exact ⟨by go_simp, by go_simp⟩
    | j + 2 => cases e⟩ hb
  have B5 : BK w1 (w.heap.size + 1 + 1) [.int .i64 n2, .int .i64 d2] := BK.keep (v := _) ⟨by simp <;> omega, fun j x e => by
    match j with
    | 0 => injection e with e; subst e; exact ⟨by go_simp, by go_simp⟩
    | 1 => injection e with e; subst e; exact ⟨by go_simp, by go_simp⟩
    | j + 2 => cases e⟩ hb
  have B6 : BK w1 (w.heap.size + 1 + 1 + 1) [.int .i64 0, .int .i64 0] := BK.keep (v := _) ⟨by simp <;> omega, fun j x e => by
    match j with
    | 0 => injection e with e; subst e; exact ⟨by go_simp, by go_simp⟩
    | 1 => injection e with e; subst e; exact ⟨by go_simp, by go_simp⟩
    | j + 2 => cases e⟩ hb
  have B7 : BK w1 (w.heap.size + 1 + 1 + 1 + 1) [.int .i64 0] := BK.keep (v := _) ⟨by simp <;> omega, fun j x e => by
    match j with
    | 0 => injection e with e; subst e; exact ⟨by go_simp, by go_simp⟩
    | j + 1 => cases e⟩ hb
  clear hb; have b30 := B3.c 0 rfl; have b31 := B3.c 1 rfl; have b32 := B3.c 2 rfl; have b40 := B4.c 0 rfl; have b41 := B4.c 1 rfl; (go_wp2_with fail); refine (CP.out _).mono ?_; rintro e w2 ⟨rfl, hb⟩; clear b30 b31 b32 b40 b41; replace B3 := B3.keep hb; replace B4 := B4.keep hb; replace B5 := B5.keep hb; replace B6 := B6.keep hb; replace B7 := B7.keep hb; replace hbb := keepB hbb hb; clear hb; have b30 := B3.c 0 rfl; have b31 := B3.c 1 rfl; have b32 := B3.c 2 rfl; have b50 := B5.c 0 rfl; have b51 := B5.c 1 rfl; (go_wp2_with fail); refine (CQ.out _).mono ?_; rintro e w3 ⟨rfl, hb⟩; clear b30 b31 b32 b50 b51; replace B3 := B3.keep hb; replace B4 := B4.keep hb; replace B5 := B5.keep hb; replace B6 := B6.keep hb; replace B7 := B7.keep hb; replace hbb := keepB hbb hb; clear hb; have b60 := B6.c 0 rfl; have b61 := B6.c 1 rfl; have f60 := B6.f 0 rfl; have f61 := B6.f 1 rfl; have b70 := B7.c 0 rfl; have f70 := B7.f 0 rfl; (go_wp2_with fail); exact bodyPost_ret (v := .tuple #[.agg #[.int .i64 0, .int .i64 0], .int .i64 2]) (by simp [results, Tryz.results143, go_sem, b60, b61, b70]) rfl ⟨rfl, below_set (below_set (below_set hbb (by omega) _) (by omega) _) (by omega) _⟩
set_option maxHeartbeats 4000000 in
set_option maxRecDepth 100000 in
theorem Ak.value_no3 (len : Int) (K : Option Addr) (cuts : List Int) (ck : Nat) (Z : Option Addr) (dens : List Int) (cz : Nat) (n1 d1 n2 d2 : Int) (w : World) (h : IsCake w len K cuts Z dens) (hc : Ck.chk len cuts dens = 0) (hn1 : I64 n1) (hd1 : I64 d1) (hn2 : I64 n2) (hd2 : I64 d2) (hp : Ck.pt len n1 d1 = true) (hq : Ck.pt len n2 d2 = true) (hl : Rp.q n2 d2 < Rp.q n1 d1) :
    Calls Tryz.prog 143 #[.agg #[.int .i64 len, .slice K cuts.length ck, .slice Z dens.length cz], .agg #[.int .i64 n1, .int .i64 d1], .agg #[.int .i64 n2, .int .i64 d2]] w fun e w' => e = .returned (.tuple #[.agg #[.int .i64 0, .int .i64 0], .int .i64 2]) ∧ Below w.heap.size w w' := by
  have hG := Ck.chk_good hc
  have cc := fun v (hb : Below w.heap.size w v) => ckCheck_any len K cuts ck Z dens cz v (h.keep hb)
  rw [hc] at cc; have n0 : (((0 : Int)) != 0) = false := rfl
  have cl := fun v => ckless_any n2 d2 n1 d1 (pt_spec hq).1 (pt_spec hp).1 v
  rw [decide_eq_true hl] at cl; have CL := Lib.hid cl; clear cl
  have cp := fun v => ispoint_any len K cuts.length ck Z dens.length cz n1 d1 v hG.len0 hG.len1 hn1 hd1
  rw [hp] at cp; have CP := Lib.hid cp; clear cp
  have cq := fun v => ispoint_any len K cuts.length ck Z dens.length cz n2 d2 v hG.len0 hG.len1 hn2 hd2
  rw [hq] at cq; have CQ := Lib.hid cq; clear cq; have CC := Lib.hid cc; clear cc hc hG h
  go_enter Tryz.func143, Tryz.ntmps143
  (go_wp2_with fail); refine (CC.out _ ((((((Below.refl _ _).alloc (Nat.le_refl _) _).alloc (by simp) _).alloc (by simp; omega) _).alloc (by simp; omega) _).alloc (by simp; omega) _)).mono ?_; rintro e w1 ⟨rfl, hb⟩; have hbb : Below w.heap.size w w1 := keepB ((((((Below.refl _ _).alloc (Nat.le_refl _) _).alloc (by simp) _).alloc (by simp; omega) _).alloc (by simp; omega) _).alloc (by simp; omega) _) hb
  have B3 : BK w1 (w.heap.size) [.int .i64 len, .slice K cuts.length ck, .slice Z dens.length cz] := BK.keep (v := _) ⟨by simp <;> omega, fun j x e => by
    match j with
    | 0 => injection e with e; subst e; exact ⟨by go_simp, by go_simp⟩
    | 1 => injection e with e; subst e; exact ⟨by go_simp, by go_simp⟩
    | 2 => injection e with e; subst e; exact ⟨by go_simp, by go_simp⟩
    | j + 3 => cases e⟩ hb
  have B4 : BK w1 (w.heap.size + 1) [.int .i64 n1, .int .i64 d1] := BK.keep (v := _) ⟨by simp <;> omega, fun j x e => by
    match j with
    | 0 => injection e with e; subst e; exact ⟨by go_simp, by go_simp⟩
    | 1 => injection e with e; subst e; exact ⟨by go_simp, by go_simp⟩
    | j + 2 => cases e⟩ hb
  have B5 : BK w1 (w.heap.size + 1 + 1) [.int .i64 n2, .int .i64 d2] := BK.keep (v := _) ⟨by simp <;> omega, fun j x e => by
    match j with
    | 0 => injection e with e; subst e; exact ⟨by go_simp, by go_simp⟩
    | 1 => injection e with e; subst e; exact ⟨by go_simp, by go_simp⟩
    | j + 2 => cases e⟩ hb
  have B6 : BK w1 (w.heap.size + 1 + 1 + 1) [.int .i64 0, .int .i64 0] := BK.keep (v := _) ⟨by simp <;> omega, fun j x e => by
    match j with
    | 0 => injection e with e; subst e; exact ⟨by go_simp, by go_simp⟩
    | 1 => injection e with e; subst e; exact ⟨by go_simp, by go_simp⟩
    | j + 2 => cases e⟩ hb
  have B7 : BK w1 (w.heap.size + 1 + 1 + 1 + 1) [.int .i64 0] := BK.keep (v := _) ⟨by simp <;> omega, fun j x e => by
    match j with
    | 0 => injection e with e; subst e; exact ⟨by go_simp, by go_simp⟩
    | j + 1 => cases e⟩ hb
  clear hb; have b30 := B3.c 0 rfl; have b31 := B3.c 1 rfl; have b32 := B3.c 2 rfl; have b40 := B4.c 0 rfl; have b41 := B4.c 1 rfl; (go_wp2_with fail); refine (CP.out _).mono ?_; rintro e w2 ⟨rfl, hb⟩; clear b30 b31 b32 b40 b41; replace B3 := B3.keep hb; replace B4 := B4.keep hb; replace B5 := B5.keep hb; replace B6 := B6.keep hb; replace B7 := B7.keep hb; replace hbb := keepB hbb hb; clear hb; have b30 := B3.c 0 rfl; have b31 := B3.c 1 rfl; have b32 := B3.c 2 rfl; have b50 := B5.c 0 rfl; have b51 := B5.c 1 rfl; (go_wp2_with fail); refine (CQ.out _).mono ?_; rintro e w3 ⟨rfl, hb⟩; clear b30 b31 b32 b50 b51; replace B3 := B3.keep hb; replace B4 := B4.keep hb; replace B5 := B5.keep hb; replace B6 := B6.keep hb; replace B7 := B7.keep hb; replace hbb := keepB hbb hb; clear hb; have b50 := B5.c 0 rfl; have b51 := B5.c 1 rfl; have b40 := B4.c 0 rfl; have b41 := B4.c 1 rfl; (go_wp2_with fail); refine (CL.out _).mono ?_; rintro e w4 ⟨rfl, hb⟩; clear b50 b51 b40 b41; replace B3 := B3.keep hb; replace B4 := B4.keep hb; replace B5 := B5.keep hb; replace B6 := B6.keep hb; replace B7 := B7.keep hb; replace hbb := keepB hbb hb; clear hb; have b60 := B6.c 0 rfl; have b61 := B6.c 1 rfl; have f60 := B6.f 0 rfl; have f61 := B6.f 1 rfl; have b70 := B7.c 0 rfl; have f70 := B7.f 0 rfl; (go_wp2_with fail); exact bodyPost_ret (v := .tuple #[.agg #[.int .i64 0, .int .i64 0], .int .i64 2]) (by simp [results, Tryz.results143, go_sem, b60, b61, b70]) rfl ⟨rfl, below_set (below_set (below_set hbb (by omega) _) (by omega) _) (by omega) _⟩
set_option maxHeartbeats 4000000 in
set_option maxRecDepth 100000 in
theorem Ak.mark_no1 (len : Int) (K : Option Addr) (cuts : List Int) (ck : Nat) (Z : Option Addr) (dens : List Int) (cz : Nat) (n1 d1 v1 v2 : Int) (w : World) (h : IsCake w len K cuts Z dens) (hc : Ck.chk len cuts dens = 0) (hn1 : I64 n1) (hd1 : I64 d1) (hp : Ck.pt len n1 d1 = false) :
    Calls Tryz.prog 144 #[.agg #[.int .i64 len, .slice K cuts.length ck, .slice Z dens.length cz], .agg #[.int .i64 n1, .int .i64 d1], .agg #[.int .i64 v1, .int .i64 v2]] w fun e w' => e = .returned (.tuple #[.agg #[.int .i64 0, .int .i64 0], .int .i64 2]) ∧ Below w.heap.size w w' := by
  have hG := Ck.chk_good hc
  have cc := fun v (hb : Below w.heap.size w v) => ckCheck_any len K cuts ck Z dens cz v (h.keep hb)
  rw [hc] at cc; have n0 : (((0 : Int)) != 0) = false := rfl
  have cp := fun v => ispoint_any len K cuts.length ck Z dens.length cz n1 d1 v hG.len0 hG.len1 hn1 hd1
  rw [hp] at cp; have CP := Lib.hid cp; clear cp; have CC := Lib.hid cc; clear cc hc hG h
  go_enter Tryz.func144, Tryz.ntmps144
  (go_wp2_with fail); refine (CC.out _ ((((((Below.refl _ _).alloc (Nat.le_refl _) _).alloc (by simp) _).alloc (by simp; omega) _).alloc (by simp; omega) _).alloc (by simp; omega) _)).mono ?_; rintro e w1 ⟨rfl, hb⟩; have hbb : Below w.heap.size w w1 := keepB ((((((Below.refl _ _).alloc (Nat.le_refl _) _).alloc (by simp) _).alloc (by simp; omega) _).alloc (by simp; omega) _).alloc (by simp; omega) _) hb
  have B3 : BK w1 (w.heap.size) [.int .i64 len, .slice K cuts.length ck, .slice Z dens.length cz] := BK.keep (v := _) ⟨by simp <;> omega, fun j x e => by
    match j with
    | 0 => injection e with e; subst e; exact ⟨by go_simp, by go_simp⟩
    | 1 => injection e with e; subst e; exact ⟨by go_simp, by go_simp⟩
    | 2 => injection e with e; subst e; exact ⟨by go_simp, by go_simp⟩
    | j + 3 => cases e⟩ hb
  have B4 : BK w1 (w.heap.size + 1) [.int .i64 n1, .int .i64 d1] := BK.keep (v := _) ⟨by simp <;> omega, fun j x e => by
    match j with
    | 0 => injection e with e; subst e; exact ⟨by go_simp, by go_simp⟩
    | 1 => injection e with e; subst e; exact ⟨by go_simp, by go_simp⟩
    | j + 2 => cases e⟩ hb
  have B5 : BK w1 (w.heap.size + 1 + 1) [.int .i64 v1, .int .i64 v2] := BK.keep (v := _) ⟨by simp <;> omega, fun j x e => by
    match j with
    | 0 => injection e with e; subst e; exact ⟨by go_simp, by go_simp⟩
    | 1 => injection e with e; subst e; exact ⟨by go_simp, by go_simp⟩
    | j + 2 => cases e⟩ hb
  have B6 : BK w1 (w.heap.size + 1 + 1 + 1) [.int .i64 0, .int .i64 0] := BK.keep (v := _) ⟨by simp <;> omega, fun j x e => by
    match j with
    | 0 => injection e with e; subst e; exact ⟨by go_simp, by go_simp⟩
    | 1 => injection e with e; subst e; exact ⟨by go_simp, by go_simp⟩
    | j + 2 => cases e⟩ hb
  have B7 : BK w1 (w.heap.size + 1 + 1 + 1 + 1) [.int .i64 0] := BK.keep (v := _) ⟨by simp <;> omega, fun j x e => by
    match j with
    | 0 => injection e with e; subst e; exact ⟨by go_simp, by go_simp⟩
    | j + 1 => cases e⟩ hb
  clear hb; have b30 := B3.c 0 rfl; have b31 := B3.c 1 rfl; have b32 := B3.c 2 rfl; have b40 := B4.c 0 rfl; have b41 := B4.c 1 rfl; (go_wp2_with fail); refine (CP.out _).mono ?_; rintro e w2 ⟨rfl, hb⟩; clear b30 b31 b32 b40 b41; replace B3 := B3.keep hb; replace B4 := B4.keep hb; replace B5 := B5.keep hb; replace B6 := B6.keep hb; replace B7 := B7.keep hb; replace hbb := keepB hbb hb; clear hb; have b60 := B6.c 0 rfl; have b61 := B6.c 1 rfl; have f60 := B6.f 0 rfl; have f61 := B6.f 1 rfl; have b70 := B7.c 0 rfl; have f70 := B7.f 0 rfl; (go_wp2_with fail); exact bodyPost_ret (v := .tuple #[.agg #[.int .i64 0, .int .i64 0], .int .i64 2]) (by simp [results, Tryz.results144, go_sem, b60, b61, b70]) rfl ⟨rfl, below_set (below_set (below_set hbb (by omega) _) (by omega) _) (by omega) _⟩
set_option maxHeartbeats 4000000 in
set_option maxRecDepth 100000 in
theorem Ak.mark_no2 (len : Int) (K : Option Addr) (cuts : List Int) (ck : Nat) (Z : Option Addr) (dens : List Int) (cz : Nat) (n1 d1 v1 v2 : Int) (w : World) (h : IsCake w len K cuts Z dens) (hc : Ck.chk len cuts dens = 0) (hn1 : I64 n1) (hd1 : I64 d1) (hv1 : I64 v1) (hv2 : I64 v2) (hp : Ck.pt len n1 d1 = true) (oV : ¬ Rp.Ok v1 v2) :
    Calls Tryz.prog 144 #[.agg #[.int .i64 len, .slice K cuts.length ck, .slice Z dens.length cz], .agg #[.int .i64 n1, .int .i64 d1], .agg #[.int .i64 v1, .int .i64 v2]] w fun e w' => e = .returned (.tuple #[.agg #[.int .i64 0, .int .i64 0], .int .i64 2]) ∧ Below w.heap.size w w' := by
  have hG := Ck.chk_good hc
  have cc := fun v (hb : Below w.heap.size w v) => ckCheck_any len K cuts ck Z dens cz v (h.keep hb)
  rw [hc] at cc; have n0 : (((0 : Int)) != 0) = false := rfl
  have cv := fun w => check_any v1 v2 w hv1.1 hv1.2 hv2.1 hv2.2
  rw [show Rp.chk v1 v2 = 8 from if_neg oV] at cv; have CV := Lib.hid cv; clear cv; have e1 : (((8 : Int)) != 0) = true := rfl
  have cp := fun v => ispoint_any len K cuts.length ck Z dens.length cz n1 d1 v hG.len0 hG.len1 hn1 hd1
  rw [hp] at cp; have CP := Lib.hid cp; clear cp; have CC := Lib.hid cc; clear cc hc hG h
  go_enter Tryz.func144, Tryz.ntmps144
  (go_wp2_with fail); refine (CC.out _ ((((((Below.refl _ _).alloc (Nat.le_refl _) _).alloc (by simp) _).alloc (by simp; omega) _).alloc (by simp; omega) _).alloc (by simp; omega) _)).mono ?_; rintro e w1 ⟨rfl, hb⟩; have hbb : Below w.heap.size w w1 := keepB ((((((Below.refl _ _).alloc (Nat.le_refl _) _).alloc (by simp) _).alloc (by simp; omega) _).alloc (by simp; omega) _).alloc (by simp; omega) _) hb
  have B3 : BK w1 (w.heap.size) [.int .i64 len, .slice K cuts.length ck, .slice Z dens.length cz] := BK.keep (v := _) ⟨by simp <;> omega, fun j x e => by
    match j with
    | 0 => injection e with e; subst e; exact ⟨by go_simp, by go_simp⟩
    | 1 => injection e with e; subst e; exact ⟨by go_simp, by go_simp⟩
    | 2 => injection e with e; subst e; exact ⟨by go_simp, by go_simp⟩
    | j + 3 => cases e⟩ hb
  have B4 : BK w1 (w.heap.size + 1) [.int .i64 n1, .int .i64 d1] := BK.keep (v := _) ⟨by simp <;> omega, fun j x e => by
    match j with
    | 0 => injection e with e; subst e; exact ⟨by go_simp, by go_simp⟩
    | 1 => injection e with e; subst e; exact ⟨by go_simp, by go_simp⟩
    | j + 2 => cases e⟩ hb
  have B5 : BK w1 (w.heap.size + 1 + 1) [.int .i64 v1, .int .i64 v2] := BK.keep (v := _) ⟨by simp <;> omega, fun j x e => by
    match j with
    | 0 => injection e with e; subst e; exact ⟨by go_simp, by go_simp⟩
    | 1 => injection e with e; subst e; exact ⟨by go_simp, by go_simp⟩
    | j + 2 => cases e⟩ hb
  have B6 : BK w1 (w.heap.size + 1 + 1 + 1) [.int .i64 0, .int .i64 0] := BK.keep (v := _) ⟨by simp <;> omega, fun j x e => by
    match j with
    | 0 => injection e with e; subst e; exact ⟨by go_simp, by go_simp⟩
    | 1 => injection e with e; subst e; exact ⟨by go_simp, by go_simp⟩
    | j + 2 => cases e⟩ hb
  have B7 : BK w1 (w.heap.size + 1 + 1 + 1 + 1) [.int .i64 0] := BK.keep (v := _) ⟨by simp <;> omega, fun j x e => by
    match j with
    | 0 => injection e with e; subst e; exact ⟨by go_simp, by go_simp⟩
    | j + 1 => cases e⟩ hb
  clear hb; have b30 := B3.c 0 rfl; have b31 := B3.c 1 rfl; have b32 := B3.c 2 rfl; have b40 := B4.c 0 rfl; have b41 := B4.c 1 rfl; (go_wp2_with fail); refine (CP.out _).mono ?_; rintro e w2 ⟨rfl, hb⟩; clear b30 b31 b32 b40 b41; replace B3 := B3.keep hb; replace B4 := B4.keep hb; replace B5 := B5.keep hb; replace B6 := B6.keep hb; replace B7 := B7.keep hb; replace hbb := keepB hbb hb; clear hb; have b50 := B5.c 0 rfl; have b51 := B5.c 1 rfl; (go_wp2_with fail); refine (CV.out _).mono ?_; rintro e w3 ⟨rfl, hb⟩; clear b50 b51; replace B3 := B3.keep hb; replace B4 := B4.keep hb; replace B5 := B5.keep hb; replace B6 := B6.keep hb; replace B7 := B7.keep hb; replace hbb := keepB hbb hb; clear hb; have b60 := B6.c 0 rfl; have b61 := B6.c 1 rfl; have f60 := B6.f 0 rfl; have f61 := B6.f 1 rfl; have b70 := B7.c 0 rfl; have f70 := B7.f 0 rfl; (go_wp2_with fail); exact bodyPost_ret (v := .tuple #[.agg #[.int .i64 0, .int .i64 0], .int .i64 2]) (by simp [results, Tryz.results144, go_sem, b60, b61, b70]) rfl ⟨rfl, below_set (below_set (below_set hbb (by omega) _) (by omega) _) (by omega) _⟩
set_option maxHeartbeats 4000000 in
set_option maxRecDepth 100000 in
theorem Ak.mark_no3 (len : Int) (K : Option Addr) (cuts : List Int) (ck : Nat) (Z : Option Addr) (dens : List Int) (cz : Nat) (n1 d1 v1 v2 : Int) (w : World) (h : IsCake w len K cuts Z dens) (hc : Ck.chk len cuts dens = 0) (hn1 : I64 n1) (hd1 : I64 d1) (hv1 : I64 v1) (hv2 : I64 v2) (hp : Ck.pt len n1 d1 = true) (oV : Rp.Ok v1 v2) (h0 : v1 < 0) :
    Calls Tryz.prog 144 #[.agg #[.int .i64 len, .slice K cuts.length ck, .slice Z dens.length cz], .agg #[.int .i64 n1, .int .i64 d1], .agg #[.int .i64 v1, .int .i64 v2]] w fun e w' => e = .returned (.tuple #[.agg #[.int .i64 0, .int .i64 0], .int .i64 2]) ∧ Below w.heap.size w w' := by
  have hG := Ck.chk_good hc
  have cc := fun v (hb : Below w.heap.size w v) => ckCheck_any len K cuts ck Z dens cz v (h.keep hb)
  rw [hc] at cc; have n0 : (((0 : Int)) != 0) = false := rfl
  have cv := fun w => check_any v1 v2 w hv1.1 hv1.2 hv2.1 hv2.2
  rw [show Rp.chk v1 v2 = 0 from if_pos oV] at cv; have CV := Lib.hid cv; clear cv; have e1 : decide (v1 < 0) = true := decide_eq_true h0
  have cp := fun v => ispoint_any len K cuts.length ck Z dens.length cz n1 d1 v hG.len0 hG.len1 hn1 hd1
  rw [hp] at cp; have CP := Lib.hid cp; clear cp; have CC := Lib.hid cc; clear cc hc hG h
  go_enter Tryz.func144, Tryz.ntmps144
  (go_wp2_with fail); refine (CC.out _ ((((((Below.refl _ _).alloc (Nat.le_refl _) _).alloc (by simp) _).alloc (by simp; omega) _).alloc (by simp; omega) _).alloc (by simp; omega) _)).mono ?_; rintro e w1 ⟨rfl, hb⟩; have hbb : Below w.heap.size w w1 := keepB ((((((Below.refl _ _).alloc (Nat.le_refl _) _).alloc (by simp) _).alloc (by simp; omega) _).alloc (by simp; omega) _).alloc (by simp; omega) _) hb
  have B3 : BK w1 (w.heap.size) [.int .i64 len, .slice K cuts.length ck, .slice Z dens.length cz] := BK.keep (v := _) ⟨by simp <;> omega, fun j x e => by
    match j with
    | 0 => injection e with e; subst e; exact ⟨by go_simp, by go_simp⟩
    | 1 => injection e with e; subst e; exact ⟨by go_simp, by go_simp⟩
    | 2 => injection e with e; subst e; exact ⟨by go_simp, by go_simp⟩
    | j + 3 => cases e⟩ hb
  have B4 : BK w1 (w.heap.size + 1) [.int .i64 n1, .int .i64 d1] := BK.keep (v := _) ⟨by simp <;> omega, fun j x e => by
    match j with
    | 0 => injection e with e; subst e; exact ⟨by go_simp, by go_simp⟩
    | 1 => injection e with e; subst e; exact ⟨by go_simp, by go_simp⟩
    | j + 2 => cases e⟩ hb
  have B5 : BK w1 (w.heap.size + 1 + 1) [.int .i64 v1, .int .i64 v2] := BK.keep (v := _) ⟨by simp <;> omega, fun j x e => by
    match j with
    | 0 => injection e with e; subst e; exact ⟨by go_simp, by go_simp⟩
    | 1 => injection e with e; subst e; exact ⟨by go_simp, by go_simp⟩
    | j + 2 => cases e⟩ hb
  have B6 : BK w1 (w.heap.size + 1 + 1 + 1) [.int .i64 0, .int .i64 0] := BK.keep (v := _) ⟨by simp <;> omega, fun j x e => by
    match j with
    | 0 => injection e with e; subst e; exact ⟨by go_simp, by go_simp⟩
    | 1 => injection e with e; subst e; exact ⟨by go_simp, by go_simp⟩
    | j + 2 => cases e⟩ hb
  have B7 : BK w1 (w.heap.size + 1 + 1 + 1 + 1) [.int .i64 0] := BK.keep (v := _) ⟨by simp <;> omega, fun j x e => by
    match j with
    | 0 => injection e with e; subst e; exact ⟨by go_simp, by go_simp⟩
    | j + 1 => cases e⟩ hb
  clear hb; have b30 := B3.c 0 rfl; have b31 := B3.c 1 rfl; have b32 := B3.c 2 rfl; have b40 := B4.c 0 rfl; have b41 := B4.c 1 rfl; (go_wp2_with fail); refine (CP.out _).mono ?_; rintro e w2 ⟨rfl, hb⟩; clear b30 b31 b32 b40 b41; replace B3 := B3.keep hb; replace B4 := B4.keep hb; replace B5 := B5.keep hb; replace B6 := B6.keep hb; replace B7 := B7.keep hb; replace hbb := keepB hbb hb; clear hb; have b50 := B5.c 0 rfl; have b51 := B5.c 1 rfl; (go_wp2_with fail); refine (CV.out _).mono ?_; rintro e w3 ⟨rfl, hb⟩; clear b50 b51; replace B3 := B3.keep hb; replace B4 := B4.keep hb; replace B5 := B5.keep hb; replace B6 := B6.keep hb; replace B7 := B7.keep hb; replace hbb := keepB hbb hb; clear hb; have b60 := B6.c 0 rfl; have b61 := B6.c 1 rfl; have f60 := B6.f 0 rfl; have f61 := B6.f 1 rfl; have b70 := B7.c 0 rfl; have f70 := B7.f 0 rfl; have b50 := B5.c 0 rfl; have b51 := B5.c 1 rfl; (go_wp2_with fail); exact bodyPost_ret (v := .tuple #[.agg #[.int .i64 0, .int .i64 0], .int .i64 2]) (by simp [results, Tryz.results144, go_sem, b60, b61, b70]) rfl ⟨rfl, below_set (below_set (below_set hbb (by omega) _) (by omega) _) (by omega) _⟩
theorem Ak.pt_le {len n d : Int} (l0 : 1 ≤ len) (l1 : len ≤ 1000) (h : Ck.pt len n d = true) : Rp.q n d ≤ ((len : Int) : Rat) := by
  obtain ⟨o, h0, _⟩ := pt_spec h; have e := Ck.pt_of (len := len) (by omega) (by omega) o h0; rw [h] at e
  have e2 : decide (Rp.q len 1 < Rp.q n d) = false := by
    cases hd : decide (Rp.q len 1 < Rp.q n d)
    · rfl
    · rw [hd] at e; cases e
  rw [Rp.q_one] at e2; exact Rat.not_lt.1 (of_decide_eq_false e2)
set_option maxHeartbeats 1000000 in
theorem Ak.mark_any {len : Int} {K : Option Addr} {cuts : List Int} {ck : Nat} {Z : Option Addr} {dens : List Int} {cz : Nat} {n1 d1 v1 v2 : Int} (w : World) (h : IsCake w len K cuts Z dens) (hc : Ck.chk len cuts dens = 0) (pa : Ck.pt len n1 d1 = true) (oV : Rp.Ok v1 v2) (h0 : 0 ≤ v1) :
    Calls Tryz.prog 144 #[.agg #[.int .i64 len, .slice K cuts.length ck, .slice Z dens.length cz], .agg #[.int .i64 n1, .int .i64 d1], .agg #[.int .i64 v1, .int .i64 v2]] w fun e w' => e = .returned (.tuple #[.agg #[.int .i64 (Ck.mrk len cuts dens n1 d1 v1 v2).1, .int .i64 (Ck.mrk len cuts dens n1 d1 v1 v2).2.1], .int .i64 (Ck.mrk len cuts dens n1 d1 v1 v2).2.2]) ∧ Below w.heap.size w w' := by
  unfold Ck.mrk
  by_cases hz : v1 = 0
  · rw [if_pos hz]
    exact mark_zero len K cuts ck Z dens cz n1 d1 v1 v2 w h hc pa oV hz
  · rw [if_neg hz]
    exact mark_good len K cuts ck Z dens cz n1 d1 v1 v2 w h hc pa oV (by omega)

theorem value_all (c : CkR) (n1 d1 n2 d2 : Int) (w : World) (h : IsC w c) (hc : Ak.ckD (Ak.dat c) = 0) (hn1 : I64 n1) (hd1 : I64 d1) (hn2 : I64 n2) (hd2 : I64 d2) :
    Calls Tryz.prog 143 #[Ak.cv c, .agg #[.int .i64 n1, .int .i64 d1], .agg #[.int .i64 n2, .int .i64 d2]] w fun e w' => e = .returned (.tuple #[.agg #[.int .i64 (Ak.vS (Ak.dat c) n1 d1 n2 d2).1, .int .i64 (Ak.vS (Ak.dat c) n1 d1 n2 d2).2.1], .int .i64 (Ak.vS (Ak.dat c) n1 d1 n2 d2).2.2]) ∧ Below w.heap.size w w' := by
  have hc' : Ck.chk c.len c.cuts c.dens = 0 := hc
  unfold Ak.vS
  by_cases p1 : Ck.pt c.len n1 d1 = true
  · by_cases p2 : Ck.pt c.len n2 d2 = true
    · by_cases hl : Rp.q n2 d2 < Rp.q n1 d1
      · rw [if_neg (fun k => k.2.2 hl)]
        exact Ak.value_no3 c.len c.K c.cuts c.ck c.Z c.dens c.cz n1 d1 n2 d2 w h hc' hn1 hd1 hn2 hd2 p1 p2 hl
      · rw [if_pos ⟨p1, p2, hl⟩]
        exact value_good c.len c.K c.cuts c.ck c.Z c.dens c.cz n1 d1 n2 d2 w h hc' p1 p2 hl
    · rw [if_neg (fun k => p2 k.2.1)]
      exact Ak.value_no2 c.len c.K c.cuts c.ck c.Z c.dens c.cz n1 d1 n2 d2 w h hc' hn1 hd1 hn2 hd2 p1 (by simpa using p2)
  · rw [if_neg (fun k => p1 k.1)]
    exact Ak.value_no1 c.len c.K c.cuts c.ck c.Z c.dens c.cz n1 d1 n2 d2 w h hc' hn1 hd1 (by simpa using p1)
theorem mark_all (c : CkR) (n1 d1 v1 v2 : Int) (w : World) (h : IsC w c) (hc : Ak.ckD (Ak.dat c) = 0) (hn1 : I64 n1) (hd1 : I64 d1) (hv1 : I64 v1) (hv2 : I64 v2) :
    Calls Tryz.prog 144 #[Ak.cv c, .agg #[.int .i64 n1, .int .i64 d1], .agg #[.int .i64 v1, .int .i64 v2]] w fun e w' => e = .returned (.tuple #[.agg #[.int .i64 (Ak.kS (Ak.dat c) n1 d1 v1 v2).1, .int .i64 (Ak.kS (Ak.dat c) n1 d1 v1 v2).2.1], .int .i64 (Ak.kS (Ak.dat c) n1 d1 v1 v2).2.2]) ∧ Below w.heap.size w w' := by
  have hc' : Ck.chk c.len c.cuts c.dens = 0 := hc
  unfold Ak.kS
  by_cases p1 : Ck.pt c.len n1 d1 = true
  · by_cases o : Rp.Ok v1 v2
    · by_cases h0 : 0 ≤ v1
      · rw [if_pos ⟨p1, o, h0⟩]
        exact Ak.mark_any w h hc' p1 o h0
      · rw [if_neg (fun k => h0 k.2.2)]
        exact Ak.mark_no3 c.len c.K c.cuts c.ck c.Z c.dens c.cz n1 d1 v1 v2 w h hc' hn1 hd1 hv1 hv2 p1 o (by omega)
    · rw [if_neg (fun k => o k.2.1)]
      exact Ak.mark_no2 c.len c.K c.cuts c.ck c.Z c.dens c.cz n1 d1 v1 v2 w h hc' hn1 hd1 hv1 hv2 p1 o
  · rw [if_neg (fun k => p1 k.1)]
    exact Ak.mark_no1 c.len c.K c.cuts c.ck c.Z c.dens c.cz n1 d1 v1 v2 w h hc' hn1 hd1 (by simpa using p1)
/-- What an answer is. -/
def Ans (r : Int × Int × Int) : Prop := (r.2.2 = 0 ∧ Rp.Ok r.1 r.2.1) ∨ r = (0, 0, 2) ∨ r = (0, 0, 6) ∨ r = (0, 0, 16)
theorem vS_ans (c : CkD) (n1 d1 n2 d2 : Int) (hc : Ak.ckD c = 0) : Ans (Ak.vS c n1 d1 n2 d2) := by
  have hG := Ck.chk_good (show Ck.chk c.1 c.2.1 c.2.2 = 0 from hc)
  unfold Ak.vS
  split
  · rename_i h
    obtain ⟨p1, p2, hl⟩ := h; have e := Ck.vgo_err hG (pt_spec p1).1 (pt_spec p2).1 (Rat.not_lt.1 hl); have o := Ck.vgo_ok hG (pt_spec p1).1 (pt_spec p2).1 (Rat.not_lt.1 hl)
    rcases e with e | e
    · exact .inl ⟨e, (o e).1⟩
    · exact .inr (.inr (.inr e))
  · exact .inr (.inl rfl)
theorem kS_ans (c : CkD) (n1 d1 v1 v2 : Int) (hc : Ak.ckD c = 0) : Ans (Ak.kS c n1 d1 v1 v2) := by
  have hG := Ck.chk_good (show Ck.chk c.1 c.2.1 c.2.2 = 0 from hc)
  unfold Ak.kS
  split
  · rename_i h
    obtain ⟨p1, o, h0⟩ := h; have hm := Ck.mrk_is hG (pt_spec p1).1 (Ak.pt_le hG.len0 hG.len1 p1) o h0
    rcases hm with ⟨e, m⟩ | ⟨e, _⟩ | e
    · exact .inl ⟨e, m.1⟩
    · exact .inr (.inr (.inl e))
    · exact .inr (.inr (.inr e))
  · exact .inr (.inl rfl)
theorem ansS_ans {cs : List CkD} (q : Qr) (hc : ∀ c ∈ cs, Ak.ckD c = 0) : Ans (Ak.ansS cs q) := by
  unfold Ak.ansS
  split
  · rename_i h
    have hm : Ak.dAt cs q.ag.toNat ∈ cs := by
      have : q.ag.toNat < cs.length := by omega
      unfold Ak.dAt
      simp [this]
    split
    · exact vS_ans _ _ _ _ _ (hc _ hm)
    · split
      · exact kS_ans _ _ _ _ _ (hc _ hm)
      · exact .inr (.inl rfl)
  · exact .inr (.inl rfl)
theorem Ans.bd {r : Int × Int × Int} (h : Ans r) : I64 r.1 ∧ I64 r.2.1 ∧ 0 ≤ r.2.2 ∧ r.2.2 ≤ 16 := by
  rcases h with ⟨e, o⟩ | rfl | rfl | rfl
  · have := o.1; have := o.2.1; have := o.2.2.1; have := o.2.2.2.1
    unfold I64; omega
  all_goals unfold I64; dsimp only; omega
end Go.Proofs.YtniagnldiegamaaGreat
namespace Go.Proofs.YtniagnldiegamaaGreat
open Go.RowKit
set_option linter.unusedSimpArgs false in
set_option maxHeartbeats 8000000 in
set_option maxRecDepth 100000 in
theorem answer_any (A : Option Addr) (ca : Nat) (cs : List CkR) (Q : Option Addr) (m cq : Nat) (ag kd a b c d x y : Int) (w : World) (h : IsCs w A cs) (hg : ∀ c ∈ cs, Ak.ckD (Ak.dat c) = 0) (hq : Ak.Q64 ⟨ag, kd, a, b, c, d, x, y⟩) (r : Int × Int × Int) (hr : Ak.ansS (cs.map Ak.dat) ⟨ag, kd, a, b, c, d, x, y⟩ = r) :
    Calls Tryz.prog 123 #[.agg #[.slice A cs.length ca, .slice Q m cq], .agg #[.int .i64 ag, .int .u8 kd, .int .i64 a, .int .i64 b, .int .i64 c, .int .i64 d, .int .i64 x, .int .i64 y]] w fun e w' => e = .returned (.tuple #[.agg #[.int .i64 r.1, .int .i64 r.2.1], .int .i64 r.2.2]) ∧ Below w.heap.size w w' := by
  obtain ⟨R1, R2, R3⟩ := r
  dsimp only
  obtain ⟨h1, h2, h3, h4, h5, h6, h7, h8⟩ := hq; dsimp only at h1 h2 h3 h4 h5 h6 h7 h8
  have has := fun v => has_any A cs.length ca Q m cq ag v
  unfold Ak.ansS at hr
  dsimp only at hr; rw [List.length_map] at hr
  by_cases hag : 0 ≤ ag ∧ ag < cs.length
  · rw [if_pos hag] at hr
    rw [decide_eq_true hag] at has; obtain ⟨k, rfl⟩ : ∃ k : Nat, ag = k := ⟨ag.toNat, by omega⟩
    have hk : k < cs.length := by omega
    rw [Int.toNat_natCast, Ak.dAt_map cs hk] at hr; have hln := h.len
    unfold maxLen at hln
    obtain ⟨bb, o, hA, hc⟩ := h.at_; obtain rfl := hA (by omega); obtain ⟨cc, hcc⟩ : ∃ cc, Ak.cat cs k = cc := ⟨_, rfl⟩; have hi := h.all _ (Ak.cat_mem hk); have hgc := hg _ (Ak.cat_mem hk); rw [hcc] at hr hi hgc; have HC := Lib.hid hc; have HAS := Lib.hid has
    have i1 : (0 : Int) ≤ (k : Int) := by omega
    have i2 : (k : Int) < (cs.length : Int) := by omega
    clear hA hc h hg has
    by_cases hk1 : kd = 1
    · subst hk1
      rw [if_pos rfl] at hr; have CL := Lib.hid (fun v (hv : Below w.heap.size w v) => value_all cc a b c d v (hi.keep hv) hgc h3 h4 h5 h6)
      unfold Ak.cv at CL
      rw [hr] at CL; dsimp only at CL; clear hr hi hgc h1 h2 h3 h4 h5 h6 h7 h8 hag
      go_enter Tryz.func123, Tryz.ntmps123
      go_upto_region 1 with fail
      refine at_worldQ (fun v => Below w.heap.size w v ∧ BK v w.heap.size [.slice (some ⟨bb, o, none⟩) cs.length ca, .slice Q m cq] ∧ BK v (w.heap.size + 1) [.int .i64 (k : Int), .int .u8 1, .int .i64 a, .int .i64 b, .int .i64 c, .int .i64 d, .int .i64 x, .int .i64 y] ∧ BK v (w.heap.size + 2) [.int .i64 0, .int .i64 0]) ⟨below_al (below_al (below_al (Below.refl _ _) _) _) _, ((BK.new w [.slice (some ⟨bb, o, none⟩) cs.length ca, .slice Q m cq] _).al _).al _, by have b := (BK.new (w.alloc (.cells #[.slice (some ⟨bb, o, none⟩) cs.length ca, .slice Q m cq] 118)) [.int .i64 (k : Int), .int .u8 1, .int .i64 a, .int .i64 b, .int .i64 c, .int .i64 d, .int .i64 x, .int .i64 y] 76).al (.cells #[.int .i64 0, .int .i64 0] 28); simpa only [World.size_alloc] using b, by have b := BK.new ((w.alloc (.cells #[.slice (some ⟨bb, o, none⟩) cs.length ca, .slice Q m cq] 118)).alloc (.cells #[.int .i64 (k : Int), .int .u8 1, .int .i64 a, .int .i64 b, .int .i64 c, .int .i64 d, .int .i64 x, .int .i64 y] 76)) [.int .i64 0, .int .i64 0] 28; simpa only [World.size_alloc] using b⟩ (fun V hS => ?_); obtain ⟨hbb, BD, BQ, BT⟩ := hS; have p0 := BD.c 0 rfl; have p1 := BD.c 1 rfl; have y0 := BQ.c 0 rfl; have y1 := BQ.c 1 rfl; have y2 := BQ.c 2 rfl; have y3 := BQ.c 3 rfl; have y4 := BQ.c 4 rfl; have y5 := BQ.c 5 rfl; have y6 := BQ.c 6 rfl; have y7 := BQ.c 7 rfl; (go_wp2_with fail); refine (HAS.out _).mono ?_; rintro e w1 ⟨rfl, hb1⟩; clear p0 p1; clear y0 y1 y2 y3 y4 y5 y6 y7; replace hbb := keepB hbb hb1; replace BD := BD.keep hb1; replace BQ := BQ.keep hb1; replace BT := BT.keep hb1; clear hb1; have c0 := keepC hbb (HC.out k hk).1; have c1 := keepC hbb (HC.out k hk).2.1; have c2 := keepC hbb (HC.out k hk).2.2; have hlt := lt_of_cell (HC.out k hk).1; rw [hcc] at c0 c1 c2; clear hcc; have y1 := BQ.c 1 rfl
      go_upto_region 5 with fail
      clear y1; refine at_worldQ (fun v => Below w.heap.size w v ∧ w.heap.size ≤ v.heap.size ∧ BK v w.heap.size [.slice (some ⟨bb, o, none⟩) cs.length ca, .slice Q m cq] ∧ BK v (w.heap.size + 1) [.int .i64 (k : Int), .int .u8 1, .int .i64 a, .int .i64 b, .int .i64 c, .int .i64 d, .int .i64 x, .int .i64 y] ∧ BK v (w.heap.size + 2) [.int .i64 0, .int .i64 0] ∧ v.cell? ⟨bb, o + k * 3, none⟩ = some (.int .i64 cc.len) ∧ v.cell? ⟨bb, o + k * 3 + 1, none⟩ = some (.slice cc.K cc.cuts.length cc.ck) ∧ v.cell? ⟨bb, o + k * 3 + 2, none⟩ = some (.slice cc.Z cc.dens.length cc.cz)) ⟨hbb, hbb.size, BD, BQ, BT, c0, c1, c2⟩ (fun V2 hS => ?_); clear hbb BD BQ BT c0 c1 c2; obtain ⟨hbb, hBV, BD, BQ, BT, c0, c1, c2⟩ := hS
      have hne : ¬ (bb = w.heap.size + 2) := by omega
      have p0 := BD.c 0 rfl; have p1 := BD.c 1 rfl; have y0 := BQ.c 0 rfl; have y1 := BQ.c 1 rfl; have y2 := BQ.c 2 rfl; have y3 := BQ.c 3 rfl; have y4 := BQ.c 4 rfl; have y5 := BQ.c 5 rfl; have y6 := BQ.c 6 rfl; have y7 := BQ.c 7 rfl; refine wp_region_noPanic ?_; refine wp_region_held_drew (S := (GB (fun k => k = w.heap.size + 2) V2)) (by kernel_rfl) ((GB.refl _ _).drew) (fun hHeld => ?_); refine at_anyH (fun v => GB (fun k => k = w.heap.size + 2) V2 v ∧ BK v (w.heap.size + 2) [.int .i64 0, .int .i64 0]) ⟨hHeld, BT.drew⟩ (fun wa0 hNew => ?_); clear hHeld BT; obtain ⟨hHeld, BT⟩ := hNew; refine tkd 0 ?_; refine tkd 1 ?_; (try simp only [PPz]); refine tkm 2 rfl hHeld (fun w hSw => by have kp0 := hSw.cell (by omega) p0; have kp1 := hSw.cell (by omega) p1; have ky0 := hSw.cell (by omega) y0; have ky1 := hSw.cell (by omega) y1; have ky2 := hSw.cell (by omega) y2; have ky3 := hSw.cell (by omega) y3; have ky4 := hSw.cell (by omega) y4; have ky5 := hSw.cell (by omega) y5; have ky6 := hSw.cell (by omega) y6; have ky7 := hSw.cell (by omega) y7; have kc0 := hSw.cell hne c0; have kc1 := hSw.cell hne c1; have kc2 := hSw.cell hne c2; go_simp <;> with_reducible rfl) ?_; (try simp only [PPz]); refine tkd 3 ?_; (try simp only [PPz]); refine tkm 4 rfl hHeld (fun w hSw => by have kp0 := hSw.cell (by omega) p0; have kp1 := hSw.cell (by omega) p1; have ky0 := hSw.cell (by omega) y0; have ky1 := hSw.cell (by omega) y1; have ky2 := hSw.cell (by omega) y2; have ky3 := hSw.cell (by omega) y3; have ky4 := hSw.cell (by omega) y4; have ky5 := hSw.cell (by omega) y5; have ky6 := hSw.cell (by omega) y6; have ky7 := hSw.cell (by omega) y7; have kc0 := hSw.cell hne c0; have kc1 := hSw.cell hne c1; have kc2 := hSw.cell hne c2; go_simp <;> with_reducible rfl) ?_; (try simp only [PPz]); refine tkd 5 ?_; (try simp only [PPz]); refine tkm 6 rfl hHeld (fun w hSw => by have kp0 := hSw.cell (by omega) p0; have kp1 := hSw.cell (by omega) p1; have ky0 := hSw.cell (by omega) y0; have ky1 := hSw.cell (by omega) y1; have ky2 := hSw.cell (by omega) y2; have ky3 := hSw.cell (by omega) y3; have ky4 := hSw.cell (by omega) y4; have ky5 := hSw.cell (by omega) y5; have ky6 := hSw.cell (by omega) y6; have ky7 := hSw.cell (by omega) y7; have kc0 := hSw.cell hne c0; have kc1 := hSw.cell hne c1; have kc2 := hSw.cell hne c2; go_simp <;> with_reducible rfl) ?_; (try simp only [PPz]); refine tkd 7 ?_; (try simp only [PPz]); refine tkm 8 rfl hHeld (fun w hSw => by have kp0 := hSw.cell (by omega) p0; have kp1 := hSw.cell (by omega) p1; have ky0 := hSw.cell (by omega) y0; have ky1 := hSw.cell (by omega) y1; have ky2 := hSw.cell (by omega) y2; have ky3 := hSw.cell (by omega) y3; have ky4 := hSw.cell (by omega) y4; have ky5 := hSw.cell (by omega) y5; have ky6 := hSw.cell (by omega) y6; have ky7 := hSw.cell (by omega) y7; have kc0 := hSw.cell hne c0; have kc1 := hSw.cell hne c1; have kc2 := hSw.cell hne c2; go_simp <;> with_reducible rfl) ?_; (try simp only [PPz]); refine tkd 9 ?_; (try simp only [PPz]); refine tkm 10 rfl hHeld (fun w hSw => by have kp0 := hSw.cell (by omega) p0; have kp1 := hSw.cell (by omega) p1; have ky0 := hSw.cell (by omega) y0; have ky1 := hSw.cell (by omega) y1; have ky2 := hSw.cell (by omega) y2; have ky3 := hSw.cell (by omega) y3; have ky4 := hSw.cell (by omega) y4; have ky5 := hSw.cell (by omega) y5; have ky6 := hSw.cell (by omega) y6; have ky7 := hSw.cell (by omega) y7; have kc0 := hSw.cell hne c0; have kc1 := hSw.cell hne c1; have kc2 := hSw.cell hne c2; go_simp <;> with_reducible rfl) ?_; (try simp only [PPz]); refine rdy1 11 rfl (fun K hK => ?_); go_simp; refine (CL.out _ (hHeld.toBelow hbb (fun k hk => by omega) hBV)).mono ?_; rintro e wa12 ⟨rfl, hb3⟩; (go_wp2_with fail); refine hK.out _ _ (hHeld.below hb3) (fun hNew => ?_); replace BT := BT.keep hb3; replace hHeld := hNew; clear hNew hK K hb3; (try simp only [PPz]); refine tkd 12 ?_; refine tkd 13 ?_; (try simp only [PPz]); refine rdy1 14 rfl (fun K hK => ?_); have n0 := BT.c 0 rfl; have f0 := BT.f 0 rfl; have n1 := BT.c 1 rfl; have f1 := BT.f 1 rfl; go_simp; clear n0 f0 n1 f1; refine hK.out _ _ ((hHeld.set (.inl rfl) _).set (.inl rfl) _) (fun hNew => ?_); replace hHeld := hNew; clear hNew hK K; (try simp only [PPz]); refine at_anyH (fun v => GB (fun k => k = w.heap.size + 2) V2 v ∧ BK v (w.heap.size + 2) [.int .i64 R1, .int .i64 R2]) ⟨hHeld, ((BT.set 0 _).set 1 _)⟩ (fun wa15 hS => ?_); clear hHeld BT; obtain ⟨hHeld, BT⟩ := hS; refine tkd 15 ?_; (try simp only [PPz]); refine wpAnyH_done (by kernel_rfl) ?_ _; refine NoPanic.normal ?_; replace hbb := hHeld.toBelow hbb (fun k hk => by omega) hBV; clear hHeld; have r0 := BT.c 0 rfl; have r1 := BT.c 1 rfl; (go_wp2_with fail); exact bodyPost_ret (v := .tuple #[.agg #[.int .i64 R1, .int .i64 R2], .int .i64 R3]) (by simp [results, Tryz.results123, go_sem, r0, r1]) rfl ⟨rfl, hbb⟩

    · rw [if_neg hk1] at hr
      have e1 : (kd == 1) = false := by rw [beq_eq_false_iff_ne]; exact hk1
      by_cases hk2 : kd = 2
      · subst hk2
        rw [if_pos rfl] at hr; have CL := Lib.hid (fun v (hv : Below w.heap.size w v) => mark_all cc a b c d v (hi.keep hv) hgc h3 h4 h5 h6)
        unfold Ak.cv at CL
        rw [hr] at CL; dsimp only at CL; clear hr hi hgc h1 h2 h3 h4 h5 h6 h7 h8 hag e1 hk1
        go_enter Tryz.func123, Tryz.ntmps123
        go_upto_region 1 with fail
        refine at_worldQ (fun v => Below w.heap.size w v ∧ BK v w.heap.size [.slice (some ⟨bb, o, none⟩) cs.length ca, .slice Q m cq] ∧ BK v (w.heap.size + 1) [.int .i64 (k : Int), .int .u8 2, .int .i64 a, .int .i64 b, .int .i64 c, .int .i64 d, .int .i64 x, .int .i64 y] ∧ BK v (w.heap.size + 2) [.int .i64 0, .int .i64 0]) ⟨below_al (below_al (below_al (Below.refl _ _) _) _) _, ((BK.new w [.slice (some ⟨bb, o, none⟩) cs.length ca, .slice Q m cq] _).al _).al _, by have b := (BK.new (w.alloc (.cells #[.slice (some ⟨bb, o, none⟩) cs.length ca, .slice Q m cq] 118)) [.int .i64 (k : Int), .int .u8 2, .int .i64 a, .int .i64 b, .int .i64 c, .int .i64 d, .int .i64 x, .int .i64 y] 76).al (.cells #[.int .i64 0, .int .i64 0] 28); simpa only [World.size_alloc] using b, by have b := BK.new ((w.alloc (.cells #[.slice (some ⟨bb, o, none⟩) cs.length ca, .slice Q m cq] 118)).alloc (.cells #[.int .i64 (k : Int), .int .u8 2, .int .i64 a, .int .i64 b, .int .i64 c, .int .i64 d, .int .i64 x, .int .i64 y] 76)) [.int .i64 0, .int .i64 0] 28; simpa only [World.size_alloc] using b⟩ (fun V hS => ?_); obtain ⟨hbb, BD, BQ, BT⟩ := hS; have p0 := BD.c 0 rfl; have p1 := BD.c 1 rfl; have y0 := BQ.c 0 rfl; have y1 := BQ.c 1 rfl; have y2 := BQ.c 2 rfl; have y3 := BQ.c 3 rfl; have y4 := BQ.c 4 rfl; have y5 := BQ.c 5 rfl; have y6 := BQ.c 6 rfl; have y7 := BQ.c 7 rfl; (go_wp2_with fail); refine (HAS.out _).mono ?_; rintro e w1 ⟨rfl, hb1⟩; clear p0 p1; clear y0 y1 y2 y3 y4 y5 y6 y7; replace hbb := keepB hbb hb1; replace BD := BD.keep hb1; replace BQ := BQ.keep hb1; replace BT := BT.keep hb1; clear hb1; have c0 := keepC hbb (HC.out k hk).1; have c1 := keepC hbb (HC.out k hk).2.1; have c2 := keepC hbb (HC.out k hk).2.2; have hlt := lt_of_cell (HC.out k hk).1; rw [hcc] at c0 c1 c2; clear hcc; have y1 := BQ.c 1 rfl
        go_upto_region 7 with fail
        clear y1; refine at_worldQ (fun v => Below w.heap.size w v ∧ w.heap.size ≤ v.heap.size ∧ BK v w.heap.size [.slice (some ⟨bb, o, none⟩) cs.length ca, .slice Q m cq] ∧ BK v (w.heap.size + 1) [.int .i64 (k : Int), .int .u8 2, .int .i64 a, .int .i64 b, .int .i64 c, .int .i64 d, .int .i64 x, .int .i64 y] ∧ BK v (w.heap.size + 2) [.int .i64 0, .int .i64 0] ∧ v.cell? ⟨bb, o + k * 3, none⟩ = some (.int .i64 cc.len) ∧ v.cell? ⟨bb, o + k * 3 + 1, none⟩ = some (.slice cc.K cc.cuts.length cc.ck) ∧ v.cell? ⟨bb, o + k * 3 + 2, none⟩ = some (.slice cc.Z cc.dens.length cc.cz)) ⟨hbb, hbb.size, BD, BQ, BT, c0, c1, c2⟩ (fun V2 hS => ?_); clear hbb BD BQ BT c0 c1 c2; obtain ⟨hbb, hBV, BD, BQ, BT, c0, c1, c2⟩ := hS
        have hne : ¬ (bb = w.heap.size + 2) := by omega
        have p0 := BD.c 0 rfl; have p1 := BD.c 1 rfl; have y0 := BQ.c 0 rfl; have y1 := BQ.c 1 rfl; have y2 := BQ.c 2 rfl; have y3 := BQ.c 3 rfl; have y4 := BQ.c 4 rfl; have y5 := BQ.c 5 rfl; have y6 := BQ.c 6 rfl; have y7 := BQ.c 7 rfl; refine wp_region_noPanic ?_; refine wp_region_held_drew (S := (GB (fun k => k = w.heap.size + 2) V2)) (by kernel_rfl) ((GB.refl _ _).drew) (fun hHeld => ?_); refine at_anyH (fun v => GB (fun k => k = w.heap.size + 2) V2 v ∧ BK v (w.heap.size + 2) [.int .i64 0, .int .i64 0]) ⟨hHeld, BT.drew⟩ (fun wb0 hNew => ?_); clear hHeld BT; obtain ⟨hHeld, BT⟩ := hNew; refine tkd 0 ?_; refine tkd 1 ?_; (try simp only [PPz]); refine tkm 2 rfl hHeld (fun w hSw => by have kp0 := hSw.cell (by omega) p0; have kp1 := hSw.cell (by omega) p1; have ky0 := hSw.cell (by omega) y0; have ky1 := hSw.cell (by omega) y1; have ky2 := hSw.cell (by omega) y2; have ky3 := hSw.cell (by omega) y3; have ky4 := hSw.cell (by omega) y4; have ky5 := hSw.cell (by omega) y5; have ky6 := hSw.cell (by omega) y6; have ky7 := hSw.cell (by omega) y7; have kc0 := hSw.cell hne c0; have kc1 := hSw.cell hne c1; have kc2 := hSw.cell hne c2; go_simp <;> with_reducible rfl) ?_; (try simp only [PPz]); refine tkd 3 ?_; (try simp only [PPz]); refine tkm 4 rfl hHeld (fun w hSw => by have kp0 := hSw.cell (by omega) p0; have kp1 := hSw.cell (by omega) p1; have ky0 := hSw.cell (by omega) y0; have ky1 := hSw.cell (by omega) y1; have ky2 := hSw.cell (by omega) y2; have ky3 := hSw.cell (by omega) y3; have ky4 := hSw.cell (by omega) y4; have ky5 := hSw.cell (by omega) y5; have ky6 := hSw.cell (by omega) y6; have ky7 := hSw.cell (by omega) y7; have kc0 := hSw.cell hne c0; have kc1 := hSw.cell hne c1; have kc2 := hSw.cell hne c2; go_simp <;> with_reducible rfl) ?_; (try simp only [PPz]); refine tkd 5 ?_; (try simp only [PPz]); refine tkm 6 rfl hHeld (fun w hSw => by have kp0 := hSw.cell (by omega) p0; have kp1 := hSw.cell (by omega) p1; have ky0 := hSw.cell (by omega) y0; have ky1 := hSw.cell (by omega) y1; have ky2 := hSw.cell (by omega) y2; have ky3 := hSw.cell (by omega) y3; have ky4 := hSw.cell (by omega) y4; have ky5 := hSw.cell (by omega) y5; have ky6 := hSw.cell (by omega) y6; have ky7 := hSw.cell (by omega) y7; have kc0 := hSw.cell hne c0; have kc1 := hSw.cell hne c1; have kc2 := hSw.cell hne c2; go_simp <;> with_reducible rfl) ?_; (try simp only [PPz]); refine tkd 7 ?_; (try simp only [PPz]); refine tkm 8 rfl hHeld (fun w hSw => by have kp0 := hSw.cell (by omega) p0; have kp1 := hSw.cell (by omega) p1; have ky0 := hSw.cell (by omega) y0; have ky1 := hSw.cell (by omega) y1; have ky2 := hSw.cell (by omega) y2; have ky3 := hSw.cell (by omega) y3; have ky4 := hSw.cell (by omega) y4; have ky5 := hSw.cell (by omega) y5; have ky6 := hSw.cell (by omega) y6; have ky7 := hSw.cell (by omega) y7; have kc0 := hSw.cell hne c0; have kc1 := hSw.cell hne c1; have kc2 := hSw.cell hne c2; go_simp <;> with_reducible rfl) ?_; (try simp only [PPz]); refine tkd 9 ?_; (try simp only [PPz]); refine tkm 10 rfl hHeld (fun w hSw => by have kp0 := hSw.cell (by omega) p0; have kp1 := hSw.cell (by omega) p1; have ky0 := hSw.cell (by omega) y0; have ky1 := hSw.cell (by omega) y1; have ky2 := hSw.cell (by omega) y2; have ky3 := hSw.cell (by omega) y3; have ky4 := hSw.cell (by omega) y4; have ky5 := hSw.cell (by omega) y5; have ky6 := hSw.cell (by omega) y6; have ky7 := hSw.cell (by omega) y7; have kc0 := hSw.cell hne c0; have kc1 := hSw.cell hne c1; have kc2 := hSw.cell hne c2; go_simp <;> with_reducible rfl) ?_; (try simp only [PPz]); refine rdy1 11 rfl (fun K hK => ?_); go_simp; refine (CL.out _ (hHeld.toBelow hbb (fun k hk => by omega) hBV)).mono ?_; rintro e wb12 ⟨rfl, hb3⟩; (go_wp2_with fail); refine hK.out _ _ (hHeld.below hb3) (fun hNew => ?_); replace BT := BT.keep hb3; replace hHeld := hNew; clear hNew hK K hb3; (try simp only [PPz]); refine tkd 12 ?_; refine tkd 13 ?_; (try simp only [PPz]); refine rdy1 14 rfl (fun K hK => ?_); have n0 := BT.c 0 rfl; have f0 := BT.f 0 rfl; have n1 := BT.c 1 rfl; have f1 := BT.f 1 rfl; go_simp; clear n0 f0 n1 f1; refine hK.out _ _ ((hHeld.set (.inl rfl) _).set (.inl rfl) _) (fun hNew => ?_); replace hHeld := hNew; clear hNew hK K; (try simp only [PPz]); refine at_anyH (fun v => GB (fun k => k = w.heap.size + 2) V2 v ∧ BK v (w.heap.size + 2) [.int .i64 R1, .int .i64 R2]) ⟨hHeld, ((BT.set 0 _).set 1 _)⟩ (fun wb15 hS => ?_); clear hHeld BT; obtain ⟨hHeld, BT⟩ := hS; refine tkd 15 ?_; (try simp only [PPz]); refine wpAnyH_done (by kernel_rfl) ?_ _; refine NoPanic.normal ?_; replace hbb := hHeld.toBelow hbb (fun k hk => by omega) hBV; clear hHeld; have r0 := BT.c 0 rfl; have r1 := BT.c 1 rfl; (go_wp2_with fail); exact bodyPost_ret (v := .tuple #[.agg #[.int .i64 R1, .int .i64 R2], .int .i64 R3]) (by simp [results, Tryz.results123, go_sem, r0, r1]) rfl ⟨rfl, hbb⟩

      · rw [if_neg hk2] at hr
        have e2 : (kd == 2) = false := by rw [beq_eq_false_iff_ne]; exact hk2
        simp only [Prod.mk.injEq] at hr
        obtain ⟨rfl, rfl, rfl⟩ := hr; clear hi hgc h1 h2 h3 h4 h5 h6 h7 h8 hag hk1 hk2 HC hcc
        go_enter Tryz.func123, Tryz.ntmps123
        go_upto_region 1 with fail
        refine at_worldQ (fun v => Below w.heap.size w v ∧ BK v w.heap.size [.slice (some ⟨bb, o, none⟩) cs.length ca, .slice Q m cq] ∧ BK v (w.heap.size + 1) [.int .i64 (k : Int), .int .u8 kd, .int .i64 a, .int .i64 b, .int .i64 c, .int .i64 d, .int .i64 x, .int .i64 y] ∧ BK v (w.heap.size + 2) [.int .i64 0, .int .i64 0]) ⟨below_al (below_al (below_al (Below.refl _ _) _) _) _, ((BK.new w [.slice (some ⟨bb, o, none⟩) cs.length ca, .slice Q m cq] _).al _).al _, by have b := (BK.new (w.alloc (.cells #[.slice (some ⟨bb, o, none⟩) cs.length ca, .slice Q m cq] 118)) [.int .i64 (k : Int), .int .u8 kd, .int .i64 a, .int .i64 b, .int .i64 c, .int .i64 d, .int .i64 x, .int .i64 y] 76).al (.cells #[.int .i64 0, .int .i64 0] 28); simpa only [World.size_alloc] using b, by have b := BK.new ((w.alloc (.cells #[.slice (some ⟨bb, o, none⟩) cs.length ca, .slice Q m cq] 118)).alloc (.cells #[.int .i64 (k : Int), .int .u8 kd, .int .i64 a, .int .i64 b, .int .i64 c, .int .i64 d, .int .i64 x, .int .i64 y] 76)) [.int .i64 0, .int .i64 0] 28; simpa only [World.size_alloc] using b⟩ (fun V hS => ?_); obtain ⟨hbb, BD, BQ, BT⟩ := hS; have p0 := BD.c 0 rfl; have p1 := BD.c 1 rfl; have y0 := BQ.c 0 rfl; have y1 := BQ.c 1 rfl; have y2 := BQ.c 2 rfl; have y3 := BQ.c 3 rfl; have y4 := BQ.c 4 rfl; have y5 := BQ.c 5 rfl; have y6 := BQ.c 6 rfl; have y7 := BQ.c 7 rfl; (go_wp2_with fail); refine (HAS.out _).mono ?_; rintro e w1 ⟨rfl, hb1⟩; clear p0 p1; clear y0 y1 y2 y3 y4 y5 y6 y7; replace hbb := keepB hbb hb1; replace BD := BD.keep hb1; replace BQ := BQ.keep hb1; replace BT := BT.keep hb1; clear hb1; have y1 := BQ.c 1 rfl; have r0 := BT.c 0 rfl; have r1 := BT.c 1 rfl; have g0 := BT.f 0 rfl; have g1 := BT.f 1 rfl; (go_wp2_with fail); exact bodyPost_ret (v := .tuple #[.agg #[.int .i64 0, .int .i64 0], .int .i64 2]) (by simp [results, Tryz.results123, go_sem, r0, r1]) rfl ⟨rfl, below_set (below_set hbb (by omega) _) (by omega) _⟩
  · rw [if_neg hag] at hr
    rw [decide_eq_false hag] at has
    simp only [Prod.mk.injEq] at hr
    obtain ⟨rfl, rfl, rfl⟩ := hr; have HAS := Lib.hid has; clear h hg has hag h1 h2 h3 h4 h5 h6 h7 h8
    go_enter Tryz.func123, Tryz.ntmps123
    go_upto_region 1 with fail
    refine at_worldQ (fun v => Below w.heap.size w v ∧ BK v w.heap.size [.slice A cs.length ca, .slice Q m cq] ∧ BK v (w.heap.size + 1) [.int .i64 ag, .int .u8 kd, .int .i64 a, .int .i64 b, .int .i64 c, .int .i64 d, .int .i64 x, .int .i64 y] ∧ BK v (w.heap.size + 2) [.int .i64 0, .int .i64 0]) ⟨below_al (below_al (below_al (Below.refl _ _) _) _) _, ((BK.new w [.slice A cs.length ca, .slice Q m cq] _).al _).al _, by have b := (BK.new (w.alloc (.cells #[.slice A cs.length ca, .slice Q m cq] 118)) [.int .i64 ag, .int .u8 kd, .int .i64 a, .int .i64 b, .int .i64 c, .int .i64 d, .int .i64 x, .int .i64 y] 76).al (.cells #[.int .i64 0, .int .i64 0] 28); simpa only [World.size_alloc] using b, by have b := BK.new ((w.alloc (.cells #[.slice A cs.length ca, .slice Q m cq] 118)).alloc (.cells #[.int .i64 ag, .int .u8 kd, .int .i64 a, .int .i64 b, .int .i64 c, .int .i64 d, .int .i64 x, .int .i64 y] 76)) [.int .i64 0, .int .i64 0] 28; simpa only [World.size_alloc] using b⟩ (fun V hS => ?_); obtain ⟨hbb, BD, BQ, BT⟩ := hS; have p0 := BD.c 0 rfl; have p1 := BD.c 1 rfl; have y0 := BQ.c 0 rfl; have y1 := BQ.c 1 rfl; have y2 := BQ.c 2 rfl; have y3 := BQ.c 3 rfl; have y4 := BQ.c 4 rfl; have y5 := BQ.c 5 rfl; have y6 := BQ.c 6 rfl; have y7 := BQ.c 7 rfl; (go_wp2_with fail); refine (HAS.out _).mono ?_; rintro e w1 ⟨rfl, hb1⟩; clear p0 p1; clear y0 y1 y2 y3 y4 y5 y6 y7; replace hbb := keepB hbb hb1; replace BD := BD.keep hb1; replace BQ := BQ.keep hb1; replace BT := BT.keep hb1; clear hb1; have r0 := BT.c 0 rfl; have r1 := BT.c 1 rfl; have g0 := BT.f 0 rfl; have g1 := BT.f 1 rfl; (go_wp2_with fail); exact bodyPost_ret (v := .tuple #[.agg #[.int .i64 0, .int .i64 0], .int .i64 2]) (by simp [results, Tryz.results123, go_sem, r0, r1]) rfl ⟨rfl, below_set (below_set hbb (by omega) _) (by omega) _⟩
end Go.Proofs.YtniagnldiegamaaGreat

