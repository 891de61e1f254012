/- The walk of the law CakeAdds: it answers true for any cake and any three ratios. -/
import Derived.Test.YtomokdepndclpaaCkalv
import Derived.Test.YtomokdepndclpaaValint
namespace Go.Proofs.Ytomokdepndclpaa
open Go.RowKit
theorem vld_spec {len : Int} {c d : List Int} {n1 d1 n2 d2 : Int} (h : Ck.vld len c d n1 d1 n2 d2 = true) : Ck.chk len c d = 0 ∧ Ck.pt len n1 d1 = true ∧ Ck.pt len n2 d2 = true ∧ ¬ Rp.q n2 d2 < Rp.q n1 d1 := by
  unfold Ck.vld at h
  simp only [Bool.and_eq_true, Bool.not_eq_true', decide_eq_true_eq, decide_eq_false_iff_not] at h
  exact ⟨h.2.1, h.2.2.1, h.2.2.2.1, h.2.2.2.2⟩
theorem pt_int {len n : Int} (h0 : 0 ≤ n) (h1 : n ≤ len) (h2 : len ≤ 1000) : Ck.pt len n 1 = true := decide_eq_true ⟨Rp.Ok_one (by omega) (by omega), h0, by omega⟩
theorem vgo_whole {len : Int} {c d : List Int} (hG : Ck.Good len c d) : Ck.vgo c d 0 1 len 1 d.length = (Ck.tot c d d.length, 1, 0) := by
  rw [Ck.vgo_int hG (Int.le_refl 0) (by have := hG.len0; omega) (Int.le_refl len) d.length (Nat.le_refl _), Ck.vint_whole hG d.length (Nat.le_refl _)]
theorem value_int {len : Int} {K : Option Addr} {cuts : List Int} {ck : Nat} {Z : Option Addr} {dens : List Int} {cz : Nat} (w : World) (h : IsCake w len K cuts Z dens) (hc : Ck.chk len cuts dens = 0) :
    Calls Try.prog 21 #[.agg #[.int .i64 len, .slice K cuts.length ck, .slice Z dens.length cz], .agg #[.int .i64 0, .int .i64 1], .agg #[.int .i64 len, .int .i64 1]] w fun e w' => e = .returned (.tuple #[.agg #[.int .i64 (Ck.tot cuts dens dens.length), .int .i64 1], .int .i64 0]) ∧ Below w.heap.size w w' := by
  have hG := Ck.chk_good hc
  have := value_good len K cuts ck Z dens cz 0 1 len 1 w h hc (pt_int (Int.le_refl 0) (by have := hG.len0; omega) hG.len1) (pt_int (by have := hG.len0; omega) (Int.le_refl _) hG.len1) (by
    rw [Rp.q_one, Rp.q_one, Rat.intCast_lt_intCast]
    have := hG.len0
    omega)
  rw [vgo_whole hG] at this
  exact this

set_option maxHeartbeats 4000000 in
set_option maxRecDepth 100000 in
theorem adds_no (len : Int) (K : Option Addr) (cuts : List Int) (ck : Nat) (Z : Option Addr) (dens : List Int) (cz : Nat) (n1 d1 n2 d2 n3 d3 : Int) (w : World) (h : IsCake w len K cuts Z dens) (hn1 : I64 n1) (hd1 : I64 d1) (hn2 : I64 n2) (hd2 : I64 d2) (hn3 : I64 n3) (hd3 : I64 d3) (hno : Ck.vld len cuts dens n1 d1 n2 d2 = false ∨ (Ck.vld len cuts dens n1 d1 n2 d2 = true ∧ Ck.vld len cuts dens n2 d2 n3 d3 = false)) :
    Calls Try.prog 5 #[.agg #[.int .i64 len, .slice K cuts.length ck, .slice Z dens.length cz], .agg #[.int .i64 n1, .int .i64 d1], .agg #[.int .i64 n2, .int .i64 d2], .agg #[.int .i64 n3, .int .i64 d3]] w fun e w' => e = .returned (.bool true) ∧ Below w.heap.size w w' := by
  have cv1 := fun v (hb : Below w.heap.size w v) => vld_any len K cuts ck Z dens cz n1 d1 n2 d2 v (h.keep hb) hn1 hd1 hn2 hd2
  have cv2 := fun v (hb : Below w.heap.size w v) => vld_any len K cuts ck Z dens cz n2 d2 n3 d3 v (h.keep hb) hn2 hd2 hn3 hd3
  obtain ⟨kn, hkn⟩ : ∃ kn, cuts.length = kn := ⟨_, rfl⟩
  obtain ⟨zn, hzn⟩ : ∃ zn, dens.length = zn := ⟨_, rfl⟩
  rcases hno with hv | ⟨hv, hv2⟩
  · rw [hv] at cv1
    rw [hkn, hzn] at cv1 ⊢
    have CV1 := Lib.hid cv1
    clear cv1 cv2 hv h hkn hzn hn1 hd1 hn2 hd2 hn3 hd3
    go_enter Try.func5, Try.ntmps5
    go_wp2_with fail
    refine (CV1.out _ (((((Below.refl _ _).alloc (Nat.le_refl _) _).alloc (by simp) _).alloc (by simp; omega) _).alloc (by simp; omega) _)).mono ?_
    rintro e w1 ⟨rfl, hb⟩
    have B4 : BK w1 (w.heap.size) [.int .i64 len, .slice K kn ck, .slice Z zn cz] := BK.keep (v := _) ⟨by simp <;> omega, fun j x e => by
      match j with
      | 0 => injection e with e; subst e; exact ⟨by go_simp, by go_simp⟩
      | 1 => injection e with e; subst e; exact ⟨by go_simp, by go_simp⟩
      | 2 => injection e with e; subst e; exact ⟨by go_simp, by go_simp⟩
      | j + 3 => cases e⟩ hb
    have B5 : BK w1 (w.heap.size + 1) [.int .i64 n1, .int .i64 d1] := BK.keep (v := _) ⟨by simp <;> omega, fun j x e => by
      match j with
      | 0 => injection e with e; subst e; exact ⟨by go_simp, by go_simp⟩
      | 1 => injection e with e; subst e; exact ⟨by go_simp, by go_simp⟩
      | j + 2 => cases e⟩ hb
    have B6 : BK w1 (w.heap.size + 1 + 1) [.int .i64 n2, .int .i64 d2] := BK.keep (v := _) ⟨by simp <;> omega, fun j x e => by
      match j with
      | 0 => injection e with e; subst e; exact ⟨by go_simp, by go_simp⟩
      | 1 => injection e with e; subst e; exact ⟨by go_simp, by go_simp⟩
      | j + 2 => cases e⟩ hb
    have B7 : BK w1 (w.heap.size + 1 + 1 + 1) [.int .i64 n3, .int .i64 d3] := BK.keep (v := _) ⟨by simp <;> omega, fun j x e => by
      match j with
      | 0 => injection e with e; subst e; exact ⟨by go_simp, by go_simp⟩
      | 1 => injection e with e; subst e; exact ⟨by go_simp, by go_simp⟩
      | j + 2 => cases e⟩ hb
    have hbb : Below w.heap.size w w1 := keepB (((((Below.refl _ _).alloc (Nat.le_refl _) _).alloc (by simp) _).alloc (by simp; omega) _).alloc (by simp; omega) _) hb
    clear hb
    go_wp2_with fail
    refine (alive2_any _).mono ?_
    rintro e w2 ⟨rfl, hb⟩
    replace B4 := B4.keep hb
    replace B5 := B5.keep hb
    replace B6 := B6.keep hb
    replace B7 := B7.keep hb
    replace hbb := keepB hbb hb
    clear hb
    go_wp2_with fail
    go_ret
    exact ⟨rfl, hbb⟩
  · rw [hv] at cv1
    rw [hv2] at cv2
    rw [hkn, hzn] at cv1 cv2 ⊢
    have CV1 := Lib.hid cv1
    have CV2 := Lib.hid cv2
    clear cv1 cv2 hv hv2 h hkn hzn hn1 hd1 hn2 hd2 hn3 hd3
    go_enter Try.func5, Try.ntmps5
    go_wp2_with fail
    refine (CV1.out _ (((((Below.refl _ _).alloc (Nat.le_refl _) _).alloc (by simp) _).alloc (by simp; omega) _).alloc (by simp; omega) _)).mono ?_
    rintro e w1 ⟨rfl, hb⟩
    have B4 : BK w1 (w.heap.size) [.int .i64 len, .slice K kn ck, .slice Z zn cz] := BK.keep (v := _) ⟨by simp <;> omega, fun j x e => by
      match j with
      | 0 => injection e with e; subst e; exact ⟨by go_simp, by go_simp⟩
      | 1 => injection e with e; subst e; exact ⟨by go_simp, by go_simp⟩
      | 2 => injection e with e; subst e; exact ⟨by go_simp, by go_simp⟩
      | j + 3 => cases e⟩ hb
    have B5 : BK w1 (w.heap.size + 1) [.int .i64 n1, .int .i64 d1] := BK.keep (v := _) ⟨by simp <;> omega, fun j x e => by
      match j with
      | 0 => injection e with e; subst e; exact ⟨by go_simp, by go_simp⟩
      | 1 => injection e with e; subst e; exact ⟨by go_simp, by go_simp⟩
      | j + 2 => cases e⟩ hb
    have B6 : BK w1 (w.heap.size + 1 + 1) [.int .i64 n2, .int .i64 d2] := BK.keep (v := _) ⟨by simp <;> omega, fun j x e => by
      match j with
      | 0 => injection e with e; subst e; exact ⟨by go_simp, by go_simp⟩
      | 1 => injection e with e; subst e; exact ⟨by go_simp, by go_simp⟩
      | j + 2 => cases e⟩ hb
    have B7 : BK w1 (w.heap.size + 1 + 1 + 1) [.int .i64 n3, .int .i64 d3] := BK.keep (v := _) ⟨by simp <;> omega, fun j x e => by
      match j with
      | 0 => injection e with e; subst e; exact ⟨by go_simp, by go_simp⟩
      | 1 => injection e with e; subst e; exact ⟨by go_simp, by go_simp⟩
      | j + 2 => cases e⟩ hb
    have hbb : Below w.heap.size w w1 := keepB (((((Below.refl _ _).alloc (Nat.le_refl _) _).alloc (by simp) _).alloc (by simp; omega) _).alloc (by simp; omega) _) hb
    clear hb
    have b4_0 := B4.c 0 rfl
    have b4_1 := B4.c 1 rfl
    have b4_2 := B4.c 2 rfl
    have b6_0 := B6.c 0 rfl
    have b6_1 := B6.c 1 rfl
    have b7_0 := B7.c 0 rfl
    have b7_1 := B7.c 1 rfl
    go_wp2_with fail
    refine (CV2.out _ hbb).mono ?_
    rintro e w2 ⟨rfl, hb⟩
    clear b4_0 b4_1 b4_2 b6_0 b6_1 b7_0 b7_1
    replace B4 := B4.keep hb
    replace B5 := B5.keep hb
    replace B6 := B6.keep hb
    replace B7 := B7.keep hb
    replace hbb := keepB hbb hb
    clear hb
    go_wp2_with fail
    refine (alive2_any _).mono ?_
    rintro e w3 ⟨rfl, hb⟩
    replace B4 := B4.keep hb
    replace B5 := B5.keep hb
    replace B6 := B6.keep hb
    replace B7 := B7.keep hb
    replace hbb := keepB hbb hb
    clear hb
    go_wp2_with fail
    go_ret
    exact ⟨rfl, hbb⟩

set_option linter.unusedSimpArgs false in
set_option maxHeartbeats 8000000 in
set_option maxRecDepth 100000 in
theorem adds_yes (len : Int) (K : Option Addr) (cuts : List Int) (ck : Nat) (Z : Option Addr) (dens : List Int) (cz : Nat) (n1 d1 n2 d2 n3 d3 : Int) (w : World) (h : IsCake w len K cuts Z dens) (hn1 : I64 n1) (hd1 : I64 d1) (hn2 : I64 n2) (hd2 : I64 d2) (hn3 : I64 n3) (hd3 : I64 d3) (hv : Ck.vld len cuts dens n1 d1 n2 d2 = true) (hv2 : Ck.vld len cuts dens n2 d2 n3 d3 = true) :
    Calls Try.prog 5 #[.agg #[.int .i64 len, .slice K cuts.length ck, .slice Z dens.length cz], .agg #[.int .i64 n1, .int .i64 d1], .agg #[.int .i64 n2, .int .i64 d2], .agg #[.int .i64 n3, .int .i64 d3]] w fun e w' => e = .returned (.bool true) ∧ Below w.heap.size w w' := by
  have cv1 := fun v (hb : Below w.heap.size w v) => vld_any len K cuts ck Z dens cz n1 d1 n2 d2 v (h.keep hb) hn1 hd1 hn2 hd2
  have cv2 := fun v (hb : Below w.heap.size w v) => vld_any len K cuts ck Z dens cz n2 d2 n3 d3 v (h.keep hb) hn2 hd2 hn3 hd3
  rw [hv] at cv1
  rw [hv2] at cv2
  obtain ⟨hc, pa, pb, hab⟩ := vld_spec hv
  obtain ⟨_, _, pd, hbd⟩ := vld_spec hv2
  have hG := Ck.chk_good hc
  have oa := (pt_spec pa).1
  have ob := (pt_spec pb).1
  have od := (pt_spec pd).1
  have lab := Rat.not_lt.1 hab
  have lbd := Rat.not_lt.1 hbd
  have had : ¬ Rp.q n3 d3 < Rp.q n1 d1 := Rat.not_lt.2 (Rat.le_trans lab lbd)
  have cx := fun v (hb : Below w.heap.size w v) => value_good len K cuts ck Z dens cz n1 d1 n2 d2 v (h.keep hb) hc pa pb hab
  have cy := fun v (hb : Below w.heap.size w v) => value_good len K cuts ck Z dens cz n2 d2 n3 d3 v (h.keep hb) hc pb pd hbd
  have cz' := fun v (hb : Below w.heap.size w v) => value_good len K cuts ck Z dens cz n1 d1 n3 d3 v (h.keep hb) hc pa pd had
  have ct := fun v (hb : Below w.heap.size w v) => ckTotal_any len K cuts ck Z dens cz v (h.keep hb)
  have cw := fun v (hb : Below w.heap.size w v) => value_int (ck := ck) (cz := cz) v (h.keep hb) hc
  rw [show Ck.totS len cuts dens = (Ck.tot cuts dens dens.length, 0) by unfold Ck.totS; rw [if_pos hc]] at ct
  have ex := Ck.vgo_err hG oa ob lab
  have ey := Ck.vgo_err hG ob od lbd
  have ez := Ck.vgo_err hG oa od (Rat.le_trans lab lbd)
  have nx := Ck.vgo_nonneg hG oa ob lab
  have ny := Ck.vgo_nonneg hG ob od lbd
  have vx := Ck.vgo_ok hG oa ob lab
  have vy := Ck.vgo_ok hG ob od lbd
  have hadd := Ck.vgo_add hG oa ob od lab lbd
  have tp := Ck.tot_pos hG
  have tb := (Ck.tot_bd hG dens.length (Nat.le_refl _)).2
  rw [hG.last] at tb
  have hl0 := hG.len0
  have hl1 := hG.len1
  obtain ⟨⟨X1, X2, X3⟩, hX⟩ : ∃ t, Ck.vgo cuts dens n1 d1 n2 d2 dens.length = t := ⟨_, rfl⟩
  obtain ⟨⟨Y1, Y2, Y3⟩, hY⟩ : ∃ t, Ck.vgo cuts dens n2 d2 n3 d3 dens.length = t := ⟨_, rfl⟩
  obtain ⟨⟨Z1, Z2, Z3⟩, hZ⟩ : ∃ t, Ck.vgo cuts dens n1 d1 n3 d3 dens.length = t := ⟨_, rfl⟩
  obtain ⟨T, hT⟩ : ∃ t, Ck.tot cuts dens dens.length = t := ⟨_, rfl⟩
  rw [hX] at cx ex nx vx hadd
  rw [hY] at cy ey ny vy hadd
  rw [hZ] at cz' ez hadd
  rw [hT] at ct cw tp tb
  dsimp only at cx cy cz' ct cw ex ey ez nx ny vx vy hadd
  obtain ⟨kn, hkn⟩ : ∃ kn, cuts.length = kn := ⟨_, rfl⟩
  obtain ⟨zn, hzn⟩ : ∃ zn, dens.length = zn := ⟨_, rfl⟩
  rw [hkn, hzn] at cv1 cv2 cx cy cz' ct cw ⊢
  have CV1 := Lib.hid cv1
  have CV2 := Lib.hid cv2
  have CX := Lib.hid cx
  have CY := Lib.hid cy
  have CZ := Lib.hid cz'
  have CT := Lib.hid ct
  have CW := Lib.hid cw
  have EX := Lib.hid ex
  have EY := Lib.hid ey
  have EZ := Lib.hid ez
  have VX := Lib.hid vx
  have VY := Lib.hid vy
  have HA := Lib.hid hadd
  have e3 : decide (0 ≤ X1) = true := decide_eq_true nx
  have e4 : decide (0 ≤ Y1) = true := decide_eq_true ny
  clear cv1 cv2 cx cy cz' ct cw ex ey ez vx vy hadd hX hY hZ hT hkn hzn hv hv2 hc pa pb pd hab hbd had lab lbd oa ob od hG h hn1 hd1 hn2 hd2 hn3 hd3
  have t1 : decide (T < 1) = false := decide_eq_false (by omega)
  have t2 : decide (12 * len < T) = false := decide_eq_false (by omega)
  have t3 : IntKind.i64.wrap (12 * len) = 12 * len := IntWalk.i64_in _ (by omega)
  go_enter Try.func5, Try.ntmps5
  go_wp2_with fail
  refine (CV1.out _ (((((Below.refl _ _).alloc (Nat.le_refl _) _).alloc (by simp) _).alloc (by simp; omega) _).alloc (by simp; omega) _)).mono ?_
  rintro e w1 ⟨rfl, hb⟩
  have B4 : BK w1 (w.heap.size) [.int .i64 len, .slice K kn ck, .slice Z zn cz] := BK.keep (v := _) ⟨by simp <;> omega, fun j x e => by
    match j with
    | 0 => injection e with e; subst e; exact ⟨by go_simp, by go_simp⟩
    | 1 => injection e with e; subst e; exact ⟨by go_simp, by go_simp⟩
    | 2 => injection e with e; subst e; exact ⟨by go_simp, by go_simp⟩
    | j + 3 => cases e⟩ hb
  have B5 : BK w1 (w.heap.size + 1) [.int .i64 n1, .int .i64 d1] := BK.keep (v := _) ⟨by simp <;> omega, fun j x e => by
    match j with
    | 0 => injection e with e; subst e; exact ⟨by go_simp, by go_simp⟩
    | 1 => injection e with e; subst e; exact ⟨by go_simp, by go_simp⟩
    | j + 2 => cases e⟩ hb
  have B6 : BK w1 (w.heap.size + 1 + 1) [.int .i64 n2, .int .i64 d2] := BK.keep (v := _) ⟨by simp <;> omega, fun j x e => by
    match j with
    | 0 => injection e with e; subst e; exact ⟨by go_simp, by go_simp⟩
    | 1 => injection e with e; subst e; exact ⟨by go_simp, by go_simp⟩
    | j + 2 => cases e⟩ hb
  have B7 : BK w1 (w.heap.size + 1 + 1 + 1) [.int .i64 n3, .int .i64 d3] := BK.keep (v := _) ⟨by simp <;> omega, fun j x e => by
    match j with
    | 0 => injection e with e; subst e; exact ⟨by go_simp, by go_simp⟩
    | 1 => injection e with e; subst e; exact ⟨by go_simp, by go_simp⟩
    | j + 2 => cases e⟩ hb
  have hbb : Below w.heap.size w w1 := keepB (((((Below.refl _ _).alloc (Nat.le_refl _) _).alloc (by simp) _).alloc (by simp; omega) _).alloc (by simp; omega) _) hb
  clear hb
  have b4_0 := B4.c 0 rfl
  have b4_1 := B4.c 1 rfl
  have b4_2 := B4.c 2 rfl
  have b6_0 := B6.c 0 rfl
  have b6_1 := B6.c 1 rfl
  have b7_0 := B7.c 0 rfl
  have b7_1 := B7.c 1 rfl
  go_wp2_with fail
  refine (CV2.out _ hbb).mono ?_
  rintro e w2 ⟨rfl, hb⟩
  clear b4_0 b4_1 b4_2 b6_0 b6_1 b7_0 b7_1
  replace B4 := B4.keep hb
  replace B5 := B5.keep hb
  replace B6 := B6.keep hb
  replace B7 := B7.keep hb
  replace hbb := keepB hbb hb
  clear hb
  have b4_0 := B4.c 0 rfl
  have b4_1 := B4.c 1 rfl
  have b4_2 := B4.c 2 rfl
  have b5_0 := B5.c 0 rfl
  have b5_1 := B5.c 1 rfl
  have b6_0 := B6.c 0 rfl
  have b6_1 := B6.c 1 rfl
  go_wp2_with fail
  refine (CX.out _ hbb).mono ?_
  rintro e w3 ⟨rfl, hb⟩
  clear b4_0 b4_1 b4_2 b5_0 b5_1 b6_0 b6_1
  replace B4 := B4.keep hb
  replace B5 := B5.keep hb
  replace B6 := B6.keep hb
  replace B7 := B7.keep hb
  replace hbb := keepB hbb hb
  clear hb
  go_upto_region 4 with fail
  refine at_worldQ (fun v => Below w.heap.size w v ∧ BK v (w.heap.size) [.int .i64 len, .slice K kn ck, .slice Z zn cz] ∧ BK v (w.heap.size + 1) [.int .i64 n1, .int .i64 d1] ∧ BK v (w.heap.size + 1 + 1) [.int .i64 n2, .int .i64 d2] ∧ BK v (w.heap.size + 1 + 1 + 1) [.int .i64 n3, .int .i64 d3] ∧ BK v (w3.heap.size) [.int .i64 X1, .int .i64 X2]) ⟨below_al hbb _, B4.al _, B5.al _, B6.al _, B7.al _, BK.new _ _ _⟩ (fun V4 hS => ?_)
  clear hbb B4 B5 B6 B7
  obtain ⟨hbb, B4, B5, B6, B7, BA⟩ := hS
  have b4_0 := B4.c 0 rfl
  have b4_1 := B4.c 1 rfl
  have b4_2 := B4.c 2 rfl
  have b6_0 := B6.c 0 rfl
  have b6_1 := B6.c 1 rfl
  have b7_0 := B7.c 0 rfl
  have b7_1 := B7.c 1 rfl
  go_wp2_with fail
  refine (CY.out _ hbb).mono ?_
  rintro e w5 ⟨rfl, hb⟩
  clear b4_0 b4_1 b4_2 b6_0 b6_1 b7_0 b7_1
  replace B4 := B4.keep hb
  replace B5 := B5.keep hb
  replace B6 := B6.keep hb
  replace B7 := B7.keep hb
  replace BA := BA.keep hb
  replace hbb := keepB hbb hb
  clear hb
  go_upto_region 5 with fail
  refine at_worldQ (fun v => Below w.heap.size w v ∧ BK v (w.heap.size) [.int .i64 len, .slice K kn ck, .slice Z zn cz] ∧ BK v (w.heap.size + 1) [.int .i64 n1, .int .i64 d1] ∧ BK v (w.heap.size + 1 + 1) [.int .i64 n2, .int .i64 d2] ∧ BK v (w.heap.size + 1 + 1 + 1) [.int .i64 n3, .int .i64 d3] ∧ BK v (w3.heap.size) [.int .i64 X1, .int .i64 X2] ∧ BK v (w5.heap.size) [.int .i64 Y1, .int .i64 Y2]) ⟨below_al hbb _, B4.al _, B5.al _, B6.al _, B7.al _, BA.al _, BK.new _ _ _⟩ (fun V6 hS => ?_)
  clear hbb B4 B5 B6 B7 BA
  obtain ⟨hbb, B4, B5, B6, B7, BA, BB⟩ := hS
  have b4_0 := B4.c 0 rfl
  have b4_1 := B4.c 1 rfl
  have b4_2 := B4.c 2 rfl
  have b5_0 := B5.c 0 rfl
  have b5_1 := B5.c 1 rfl
  have b7_0 := B7.c 0 rfl
  have b7_1 := B7.c 1 rfl
  go_wp2_with fail
  refine (CZ.out _ hbb).mono ?_
  rintro e w7 ⟨rfl, hb⟩
  clear b4_0 b4_1 b4_2 b5_0 b5_1 b7_0 b7_1
  replace B4 := B4.keep hb
  replace B5 := B5.keep hb
  replace B6 := B6.keep hb
  replace B7 := B7.keep hb
  replace BA := BA.keep hb
  replace BB := BB.keep hb
  replace hbb := keepB hbb hb
  clear hb
  go_upto_region 6 with fail
  refine at_worldQ (fun v => Below w.heap.size w v ∧ BK v (w.heap.size) [.int .i64 len, .slice K kn ck, .slice Z zn cz] ∧ BK v (w.heap.size + 1) [.int .i64 n1, .int .i64 d1] ∧ BK v (w.heap.size + 1 + 1) [.int .i64 n2, .int .i64 d2] ∧ BK v (w.heap.size + 1 + 1 + 1) [.int .i64 n3, .int .i64 d3] ∧ BK v (w3.heap.size) [.int .i64 X1, .int .i64 X2] ∧ BK v (w5.heap.size) [.int .i64 Y1, .int .i64 Y2] ∧ BK v (w7.heap.size) [.int .i64 Z1, .int .i64 Z2]) ⟨below_al hbb _, B4.al _, B5.al _, B6.al _, B7.al _, BA.al _, BB.al _, BK.new _ _ _⟩ (fun V8 hS => ?_)
  clear hbb B4 B5 B6 B7 BA BB
  obtain ⟨hbb, B4, B5, B6, B7, BA, BB, BC⟩ := hS
  have b4_0 := B4.c 0 rfl
  have b4_1 := B4.c 1 rfl
  have b4_2 := B4.c 2 rfl
  go_wp2_with fail
  refine (CT.out _ hbb).mono ?_
  rintro e w9 ⟨rfl, hb⟩
  clear b4_0 b4_1 b4_2
  replace B4 := B4.keep hb
  replace B5 := B5.keep hb
  replace B6 := B6.keep hb
  replace B7 := B7.keep hb
  replace BA := BA.keep hb
  replace BB := BB.keep hb
  replace BC := BC.keep hb
  replace hbb := keepB hbb hb
  clear hb
  go_upto_region 7 with fail
  refine at_worldQ (fun v => Below w.heap.size w v ∧ BK v (w.heap.size) [.int .i64 len, .slice K kn ck, .slice Z zn cz] ∧ BK v (w.heap.size + 1) [.int .i64 n1, .int .i64 d1] ∧ BK v (w.heap.size + 1 + 1) [.int .i64 n2, .int .i64 d2] ∧ BK v (w.heap.size + 1 + 1 + 1) [.int .i64 n3, .int .i64 d3] ∧ BK v (w3.heap.size) [.int .i64 X1, .int .i64 X2] ∧ BK v (w5.heap.size) [.int .i64 Y1, .int .i64 Y2] ∧ BK v (w7.heap.size) [.int .i64 Z1, .int .i64 Z2]) ⟨hbb, B4, B5, B6, B7, BA, BB, BC⟩ (fun V10 hS => ?_)
  clear hbb B4 B5 B6 B7 BA BB BC
  obtain ⟨hbb, B4, B5, B6, B7, BA, BB, BC⟩ := hS
  have c0 := B4.c 0 rfl
  have c1 := B4.c 1 rfl
  have c2 := B4.c 2 rfl
  go_cut [17, 18] (fun x y v => ∃ p : Nat, x = .pointer (some ⟨p, 0, none⟩) ∧ y = .int .i64 0 ∧ BK v p [.int .i64 T, .int .i64 1] ∧ Below V10.heap.size V10 v)
  case first =>
    refine wp_region_held_drew (S := (Below V10.heap.size V10)) (by kernel_rfl) ((Below.refl _ _).drew) (fun hHeld => ?_)
    refine at_anyH (Below V10.heap.size V10) hHeld (fun wg0 hNew => ?_)
    clear hHeld
    have hHeld := hNew
    clear hNew
    refine wpAnyH_take (i := 0) (oi := _) (v := ?vg1) rfl (by kernel_rfl) (by kernel_rfl) (by kernel_rfl) (fun _ _ _ h => h) (Or.inl ⟨by kernel_rfl, ?hyg1⟩) hHeld ?restg1
    case hyg1 => (intro w hSw; have kc0 := keepC hSw c0; have kc1 := keepC hSw c1; have kc2 := keepC hSw c2; go_simp; first | done | (with_reducible rfl))
    try simp only [Act.put, List.getElem_toArray, List.getElem_cons_succ, List.getElem_cons_zero, List.setIfInBounds_toArray, List.set_cons_zero, List.set_cons_succ]
    refine wpAnyH_take (i := 2) (oi := _) (v := ?vg2) rfl (by kernel_rfl) (by kernel_rfl) (by kernel_rfl) (fun _ _ _ h => h) (Or.inl ⟨by kernel_rfl, ?hyg2⟩) hHeld ?restg2
    case hyg2 => (intro w hSw; go_simp; first | done | (with_reducible rfl))
    try simp only [Act.put, List.getElem_toArray, List.getElem_cons_succ, List.getElem_cons_zero, List.setIfInBounds_toArray, List.set_cons_zero, List.set_cons_succ]
    refine wpAnyH_take (i := 3) (oi := _) (v := ?vg3) rfl (by kernel_rfl) (by kernel_rfl) (by kernel_rfl) (fun _ _ _ h => h) (Or.inl ⟨by kernel_rfl, ?hyg3⟩) hHeld ?restg3
    case hyg3 => (intro w hSw; have kc0 := keepC hSw c0; have kc1 := keepC hSw c1; have kc2 := keepC hSw c2; go_simp; first | done | (with_reducible rfl))
    try simp only [Act.put, List.getElem_toArray, List.getElem_cons_succ, List.getElem_cons_zero, List.setIfInBounds_toArray, List.set_cons_zero, List.set_cons_succ]
    refine wpAnyH_ready (rs := [1, 9]) (by kernel_rfl) (by simp) (AllReadyH.cons (o := _) rfl (fun K hK => ?_) (AllReadyH.cons (o := _) rfl (fun K hK => ?_) AllReadyH.nil))
    ·
      go_simp
      refine (of2_any _ _).mono ?_
      rintro e wg4 ⟨rfl, hb3⟩
      go_wp2_with fail
      refine hK.out _ _ (keepB hHeld hb3) (fun hNew => ?_)
      clear hb3
      clear hHeld hK K
      have hHeld := hNew
      clear hNew
      try simp only [Act.put, List.getElem_toArray, List.getElem_cons_succ, List.getElem_cons_zero, List.setIfInBounds_toArray, List.set_cons_zero, List.set_cons_succ]
      refine wpAnyH_ready (rs := [4, 9]) (by kernel_rfl) (by simp) (AllReadyH.cons (o := _) rfl (fun K hK => ?_) (AllReadyH.cons (o := _) rfl (fun K hK => ?_) AllReadyH.nil))
      ·
        go_simp
        refine (of2_any _ _).mono ?_
        rintro e wg5 ⟨rfl, hb3⟩
        go_wp2_with fail
        refine hK.out _ _ (keepB hHeld hb3) (fun hNew => ?_)
        clear hb3
        clear hHeld hK K
        have hHeld := hNew
        clear hNew
        try simp only [Act.put, List.getElem_toArray, List.getElem_cons_succ, List.getElem_cons_zero, List.setIfInBounds_toArray, List.set_cons_zero, List.set_cons_succ]
        refine wpAnyH_ready (rs := [5, 9]) (by kernel_rfl) (by simp) (AllReadyH.cons (o := _) rfl (fun K hK => ?_) (AllReadyH.cons (o := _) rfl (fun K hK => ?_) AllReadyH.nil))
        ·
          go_simp
          refine (CW.out _ (keepB hbb hHeld)).mono ?_
          rintro e wg6 ⟨rfl, hb3⟩
          go_wp2_with fail
          refine hK.out _ _ (keepB hHeld hb3) (fun hNew => ?_)
          clear hb3
          clear hHeld hK K
          have hHeld := hNew
          clear hNew
          try simp only [Act.put, List.getElem_toArray, List.getElem_cons_succ, List.getElem_cons_zero, List.setIfInBounds_toArray, List.set_cons_zero, List.set_cons_succ]
          refine wpAnyH_take (i := 6) (oi := _) (v := ?vg7) rfl (by kernel_rfl) (by kernel_rfl) (by kernel_rfl) (fun _ _ _ h => h) (Or.inl ⟨by kernel_rfl, ?hyg7⟩) hHeld ?restg7
          case hyg7 => (intro w hSw; go_simp; first | done | (with_reducible rfl))
          try simp only [Act.put, List.getElem_toArray, List.getElem_cons_succ, List.getElem_cons_zero, List.setIfInBounds_toArray, List.set_cons_zero, List.set_cons_succ]
          refine wpAnyH_take (i := 7) (oi := _) (v := ?vg8) rfl (by kernel_rfl) (by kernel_rfl) (by kernel_rfl) (fun _ _ _ h => h) (Or.inl ⟨by kernel_rfl, ?hyg8⟩) hHeld ?restg8
          case hyg8 => (intro w hSw; go_simp; first | done | (with_reducible rfl))
          try simp only [Act.put, List.getElem_toArray, List.getElem_cons_succ, List.getElem_cons_zero, List.setIfInBounds_toArray, List.set_cons_zero, List.set_cons_succ]
          refine wpAnyH_take (i := 8) (oi := _) (v := ?vg9) rfl (by kernel_rfl) (by kernel_rfl) (by kernel_rfl) (fun _ _ _ h => h) (Or.inl ⟨by kernel_rfl, ?hyg9⟩) hHeld ?restg9
          case hyg9 => (intro w hSw; go_simp; first | done | (with_reducible rfl))
          try simp only [Act.put, List.getElem_toArray, List.getElem_cons_succ, List.getElem_cons_zero, List.setIfInBounds_toArray, List.set_cons_zero, List.set_cons_succ]
          refine wpAnyH_ready (rs := [9]) (by kernel_rfl) (by simp) (AllReadyH.cons (o := _) rfl (fun K hK => ?_) AllReadyH.nil)
          go_simp
          refine hK.out _ _ (below_al hHeld _) (fun hNew => ?_)
          have hP : V10.heap.size ≤ wg6.heap.size := hHeld.size
          clear hHeld hK K
          have hHeld := hNew
          clear hNew
          try simp only [Act.put, List.getElem_toArray, List.getElem_cons_succ, List.getElem_cons_zero, List.setIfInBounds_toArray, List.set_cons_zero, List.set_cons_succ]
          refine at_anyH (fun v => Below V10.heap.size V10 v ∧ BK v wg6.heap.size [.int .i64 0, .int .i64 0]) ⟨hHeld, BK.new _ _ _⟩ (fun wg10 hS => ?_)
          clear hHeld
          obtain ⟨hHeld, BP⟩ := hS
          refine wpAnyH_ready (rs := [10]) (by kernel_rfl) (by simp) (AllReadyH.cons (o := _) rfl (fun K hK => ?_) AllReadyH.nil)
          have n0 := BP.c 0 rfl
          have f0 := BP.f 0 rfl
          have n1 := BP.c 1 rfl
          have f1 := BP.f 1 rfl
          go_simp
          clear n0 f0 n1 f1
          refine hK.out _ _ (below_set (below_set hHeld (by omega) _) (by omega) _) (fun hNew => ?_)
          clear hHeld hK K
          have hHeld := hNew
          clear hNew
          try simp only [Act.put, List.getElem_toArray, List.getElem_cons_succ, List.getElem_cons_zero, List.setIfInBounds_toArray, List.set_cons_zero, List.set_cons_succ]
          refine at_anyH (fun v => Below V10.heap.size V10 v ∧ BK v wg6.heap.size [.int .i64 T, .int .i64 1]) ⟨hHeld, ((BP.set 0 _).set 1 _)⟩ (fun wg11 hS => ?_)
          clear hHeld BP
          obtain ⟨hHeld, BP⟩ := hS
          refine wpAnyH_take (i := 11) (oi := _) (v := ?vg12) rfl (by kernel_rfl) (by kernel_rfl) (by kernel_rfl) (fun _ _ _ h => h) (Or.inl ⟨by kernel_rfl, ?hyg12⟩) hHeld ?restg12
          case hyg12 => (intro w hSw; go_simp; first | done | (with_reducible rfl))
          try simp only [Act.put, List.getElem_toArray, List.getElem_cons_succ, List.getElem_cons_zero, List.setIfInBounds_toArray, List.set_cons_zero, List.set_cons_succ]
          refine wpAnyH_done (by kernel_rfl) ?_ _
          go_wp2_with fail
          go_meet
          exact ⟨_, rfl, rfl, BP, hHeld⟩
        ·
          go_simp
          refine hK.out _ _ (below_al hHeld _) (fun hNew => ?_)
          have hP : V10.heap.size ≤ wg5.heap.size := hHeld.size
          clear hHeld hK K
          have hHeld := hNew
          clear hNew
          try simp only [Act.put, List.getElem_toArray, List.getElem_cons_succ, List.getElem_cons_zero, List.setIfInBounds_toArray, List.set_cons_zero, List.set_cons_succ]
          refine at_anyH (fun v => Below V10.heap.size V10 v ∧ BK v wg5.heap.size [.int .i64 0, .int .i64 0]) ⟨hHeld, BK.new _ _ _⟩ (fun wg13 hS => ?_)
          clear hHeld
          obtain ⟨hHeld, BP⟩ := hS
          refine wpAnyH_ready (rs := [5]) (by kernel_rfl) (by simp) (AllReadyH.cons (o := _) rfl (fun K hK => ?_) AllReadyH.nil)
          go_simp
          refine (CW.out _ (keepB hbb hHeld)).mono ?_
          rintro e wg14 ⟨rfl, hb3⟩
          go_wp2_with fail
          refine hK.out _ _ (keepB hHeld hb3) (fun hNew => ?_)
          replace BP := BP.keep hb3
          clear hb3
          clear hHeld hK K
          have hHeld := hNew
          clear hNew
          try simp only [Act.put, List.getElem_toArray, List.getElem_cons_succ, List.getElem_cons_zero, List.setIfInBounds_toArray, List.set_cons_zero, List.set_cons_succ]
          refine wpAnyH_take (i := 6) (oi := _) (v := ?vg15) rfl (by kernel_rfl) (by kernel_rfl) (by kernel_rfl) (fun _ _ _ h => h) (Or.inl ⟨by kernel_rfl, ?hyg15⟩) hHeld ?restg15
          case hyg15 => (intro w hSw; go_simp; first | done | (with_reducible rfl))
          try simp only [Act.put, List.getElem_toArray, List.getElem_cons_succ, List.getElem_cons_zero, List.setIfInBounds_toArray, List.set_cons_zero, List.set_cons_succ]
          refine wpAnyH_take (i := 7) (oi := _) (v := ?vg16) rfl (by kernel_rfl) (by kernel_rfl) (by kernel_rfl) (fun _ _ _ h => h) (Or.inl ⟨by kernel_rfl, ?hyg16⟩) hHeld ?restg16
          case hyg16 => (intro w hSw; go_simp; first | done | (with_reducible rfl))
          try simp only [Act.put, List.getElem_toArray, List.getElem_cons_succ, List.getElem_cons_zero, List.setIfInBounds_toArray, List.set_cons_zero, List.set_cons_succ]
          refine wpAnyH_take (i := 8) (oi := _) (v := ?vg17) rfl (by kernel_rfl) (by kernel_rfl) (by kernel_rfl) (fun _ _ _ h => h) (Or.inl ⟨by kernel_rfl, ?hyg17⟩) hHeld ?restg17
          case hyg17 => (intro w hSw; go_simp; first | done | (with_reducible rfl))
          try simp only [Act.put, List.getElem_toArray, List.getElem_cons_succ, List.getElem_cons_zero, List.setIfInBounds_toArray, List.set_cons_zero, List.set_cons_succ]
          refine wpAnyH_ready (rs := [10]) (by kernel_rfl) (by simp) (AllReadyH.cons (o := _) rfl (fun K hK => ?_) AllReadyH.nil)
          have n0 := BP.c 0 rfl
          have f0 := BP.f 0 rfl
          have n1 := BP.c 1 rfl
          have f1 := BP.f 1 rfl
          go_simp
          clear n0 f0 n1 f1
          refine hK.out _ _ (below_set (below_set hHeld (by omega) _) (by omega) _) (fun hNew => ?_)
          clear hHeld hK K
          have hHeld := hNew
          clear hNew
          try simp only [Act.put, List.getElem_toArray, List.getElem_cons_succ, List.getElem_cons_zero, List.setIfInBounds_toArray, List.set_cons_zero, List.set_cons_succ]
          refine at_anyH (fun v => Below V10.heap.size V10 v ∧ BK v wg5.heap.size [.int .i64 T, .int .i64 1]) ⟨hHeld, ((BP.set 0 _).set 1 _)⟩ (fun wg18 hS => ?_)
          clear hHeld BP
          obtain ⟨hHeld, BP⟩ := hS
          refine wpAnyH_take (i := 11) (oi := _) (v := ?vg19) rfl (by kernel_rfl) (by kernel_rfl) (by kernel_rfl) (fun _ _ _ h => h) (Or.inl ⟨by kernel_rfl, ?hyg19⟩) hHeld ?restg19
          case hyg19 => (intro w hSw; go_simp; first | done | (with_reducible rfl))
          try simp only [Act.put, List.getElem_toArray, List.getElem_cons_succ, List.getElem_cons_zero, List.setIfInBounds_toArray, List.set_cons_zero, List.set_cons_succ]
          refine wpAnyH_done (by kernel_rfl) ?_ _
          go_wp2_with fail
          go_meet
          exact ⟨_, rfl, rfl, BP, hHeld⟩
      ·
        go_simp
        refine hK.out _ _ (below_al hHeld _) (fun hNew => ?_)
        have hP : V10.heap.size ≤ wg4.heap.size := hHeld.size
        clear hHeld hK K
        have hHeld := hNew
        clear hNew
        try simp only [Act.put, List.getElem_toArray, List.getElem_cons_succ, List.getElem_cons_zero, List.setIfInBounds_toArray, List.set_cons_zero, List.set_cons_succ]
        refine at_anyH (fun v => Below V10.heap.size V10 v ∧ BK v wg4.heap.size [.int .i64 0, .int .i64 0]) ⟨hHeld, BK.new _ _ _⟩ (fun wg20 hS => ?_)
        clear hHeld
        obtain ⟨hHeld, BP⟩ := hS
        refine wpAnyH_ready (rs := [4]) (by kernel_rfl) (by simp) (AllReadyH.cons (o := _) rfl (fun K hK => ?_) AllReadyH.nil)
        go_simp
        refine (of2_any _ _).mono ?_
        rintro e wg21 ⟨rfl, hb3⟩
        go_wp2_with fail
        refine hK.out _ _ (keepB hHeld hb3) (fun hNew => ?_)
        replace BP := BP.keep hb3
        clear hb3
        clear hHeld hK K
        have hHeld := hNew
        clear hNew
        try simp only [Act.put, List.getElem_toArray, List.getElem_cons_succ, List.getElem_cons_zero, List.setIfInBounds_toArray, List.set_cons_zero, List.set_cons_succ]
        refine wpAnyH_ready (rs := [5]) (by kernel_rfl) (by simp) (AllReadyH.cons (o := _) rfl (fun K hK => ?_) AllReadyH.nil)
        go_simp
        refine (CW.out _ (keepB hbb hHeld)).mono ?_
        rintro e wg22 ⟨rfl, hb3⟩
        go_wp2_with fail
        refine hK.out _ _ (keepB hHeld hb3) (fun hNew => ?_)
        replace BP := BP.keep hb3
        clear hb3
        clear hHeld hK K
        have hHeld := hNew
        clear hNew
        try simp only [Act.put, List.getElem_toArray, List.getElem_cons_succ, List.getElem_cons_zero, List.setIfInBounds_toArray, List.set_cons_zero, List.set_cons_succ]
        refine wpAnyH_take (i := 6) (oi := _) (v := ?vg23) rfl (by kernel_rfl) (by kernel_rfl) (by kernel_rfl) (fun _ _ _ h => h) (Or.inl ⟨by kernel_rfl, ?hyg23⟩) hHeld ?restg23
        case hyg23 => (intro w hSw; go_simp; first | done | (with_reducible rfl))
        try simp only [Act.put, List.getElem_toArray, List.getElem_cons_succ, List.getElem_cons_zero, List.setIfInBounds_toArray, List.set_cons_zero, List.set_cons_succ]
        refine wpAnyH_take (i := 7) (oi := _) (v := ?vg24) rfl (by kernel_rfl) (by kernel_rfl) (by kernel_rfl) (fun _ _ _ h => h) (Or.inl ⟨by kernel_rfl, ?hyg24⟩) hHeld ?restg24
        case hyg24 => (intro w hSw; go_simp; first | done | (with_reducible rfl))
        try simp only [Act.put, List.getElem_toArray, List.getElem_cons_succ, List.getElem_cons_zero, List.setIfInBounds_toArray, List.set_cons_zero, List.set_cons_succ]
        refine wpAnyH_take (i := 8) (oi := _) (v := ?vg25) rfl (by kernel_rfl) (by kernel_rfl) (by kernel_rfl) (fun _ _ _ h => h) (Or.inl ⟨by kernel_rfl, ?hyg25⟩) hHeld ?restg25
        case hyg25 => (intro w hSw; go_simp; first | done | (with_reducible rfl))
        try simp only [Act.put, List.getElem_toArray, List.getElem_cons_succ, List.getElem_cons_zero, List.setIfInBounds_toArray, List.set_cons_zero, List.set_cons_succ]
        refine wpAnyH_ready (rs := [10]) (by kernel_rfl) (by simp) (AllReadyH.cons (o := _) rfl (fun K hK => ?_) AllReadyH.nil)
        have n0 := BP.c 0 rfl
        have f0 := BP.f 0 rfl
        have n1 := BP.c 1 rfl
        have f1 := BP.f 1 rfl
        go_simp
        clear n0 f0 n1 f1
        refine hK.out _ _ (below_set (below_set hHeld (by omega) _) (by omega) _) (fun hNew => ?_)
        clear hHeld hK K
        have hHeld := hNew
        clear hNew
        try simp only [Act.put, List.getElem_toArray, List.getElem_cons_succ, List.getElem_cons_zero, List.setIfInBounds_toArray, List.set_cons_zero, List.set_cons_succ]
        refine at_anyH (fun v => Below V10.heap.size V10 v ∧ BK v wg4.heap.size [.int .i64 T, .int .i64 1]) ⟨hHeld, ((BP.set 0 _).set 1 _)⟩ (fun wg26 hS => ?_)
        clear hHeld BP
        obtain ⟨hHeld, BP⟩ := hS
        refine wpAnyH_take (i := 11) (oi := _) (v := ?vg27) rfl (by kernel_rfl) (by kernel_rfl) (by kernel_rfl) (fun _ _ _ h => h) (Or.inl ⟨by kernel_rfl, ?hyg27⟩) hHeld ?restg27
        case hyg27 => (intro w hSw; go_simp; first | done | (with_reducible rfl))
        try simp only [Act.put, List.getElem_toArray, List.getElem_cons_succ, List.getElem_cons_zero, List.setIfInBounds_toArray, List.set_cons_zero, List.set_cons_succ]
        refine wpAnyH_done (by kernel_rfl) ?_ _
        go_wp2_with fail
        go_meet
        exact ⟨_, rfl, rfl, BP, hHeld⟩
    ·
      go_simp
      refine hK.out _ _ (below_al hHeld _) (fun hNew => ?_)
      have hP : V10.heap.size ≤ wg0.heap.size := hHeld.size
      clear hHeld hK K
      have hHeld := hNew
      clear hNew
      try simp only [Act.put, List.getElem_toArray, List.getElem_cons_succ, List.getElem_cons_zero, List.setIfInBounds_toArray, List.set_cons_zero, List.set_cons_succ]
      refine at_anyH (fun v => Below V10.heap.size V10 v ∧ BK v wg0.heap.size [.int .i64 0, .int .i64 0]) ⟨hHeld, BK.new _ _ _⟩ (fun wg28 hS => ?_)
      clear hHeld
      obtain ⟨hHeld, BP⟩ := hS
      refine wpAnyH_ready (rs := [1]) (by kernel_rfl) (by simp) (AllReadyH.cons (o := _) rfl (fun K hK => ?_) AllReadyH.nil)
      go_simp
      refine (of2_any _ _).mono ?_
      rintro e wg29 ⟨rfl, hb3⟩
      go_wp2_with fail
      refine hK.out _ _ (keepB hHeld hb3) (fun hNew => ?_)
      replace BP := BP.keep hb3
      clear hb3
      clear hHeld hK K
      have hHeld := hNew
      clear hNew
      try simp only [Act.put, List.getElem_toArray, List.getElem_cons_succ, List.getElem_cons_zero, List.setIfInBounds_toArray, List.set_cons_zero, List.set_cons_succ]
      refine wpAnyH_ready (rs := [4]) (by kernel_rfl) (by simp) (AllReadyH.cons (o := _) rfl (fun K hK => ?_) AllReadyH.nil)
      go_simp
      refine (of2_any _ _).mono ?_
      rintro e wg30 ⟨rfl, hb3⟩
      go_wp2_with fail
      refine hK.out _ _ (keepB hHeld hb3) (fun hNew => ?_)
      replace BP := BP.keep hb3
      clear hb3
      clear hHeld hK K
      have hHeld := hNew
      clear hNew
      try simp only [Act.put, List.getElem_toArray, List.getElem_cons_succ, List.getElem_cons_zero, List.setIfInBounds_toArray, List.set_cons_zero, List.set_cons_succ]
      refine wpAnyH_ready (rs := [5]) (by kernel_rfl) (by simp) (AllReadyH.cons (o := _) rfl (fun K hK => ?_) AllReadyH.nil)
      go_simp
      refine (CW.out _ (keepB hbb hHeld)).mono ?_
      rintro e wg31 ⟨rfl, hb3⟩
      go_wp2_with fail
      refine hK.out _ _ (keepB hHeld hb3) (fun hNew => ?_)
      replace BP := BP.keep hb3
      clear hb3
      clear hHeld hK K
      have hHeld := hNew
      clear hNew
      try simp only [Act.put, List.getElem_toArray, List.getElem_cons_succ, List.getElem_cons_zero, List.setIfInBounds_toArray, List.set_cons_zero, List.set_cons_succ]
      refine wpAnyH_take (i := 6) (oi := _) (v := ?vg32) rfl (by kernel_rfl) (by kernel_rfl) (by kernel_rfl) (fun _ _ _ h => h) (Or.inl ⟨by kernel_rfl, ?hyg32⟩) hHeld ?restg32
      case hyg32 => (intro w hSw; go_simp; first | done | (with_reducible rfl))
      try simp only [Act.put, List.getElem_toArray, List.getElem_cons_succ, List.getElem_cons_zero, List.setIfInBounds_toArray, List.set_cons_zero, List.set_cons_succ]
      refine wpAnyH_take (i := 7) (oi := _) (v := ?vg33) rfl (by kernel_rfl) (by kernel_rfl) (by kernel_rfl) (fun _ _ _ h => h) (Or.inl ⟨by kernel_rfl, ?hyg33⟩) hHeld ?restg33
      case hyg33 => (intro w hSw; go_simp; first | done | (with_reducible rfl))
      try simp only [Act.put, List.getElem_toArray, List.getElem_cons_succ, List.getElem_cons_zero, List.setIfInBounds_toArray, List.set_cons_zero, List.set_cons_succ]
      refine wpAnyH_take (i := 8) (oi := _) (v := ?vg34) rfl (by kernel_rfl) (by kernel_rfl) (by kernel_rfl) (fun _ _ _ h => h) (Or.inl ⟨by kernel_rfl, ?hyg34⟩) hHeld ?restg34
      case hyg34 => (intro w hSw; go_simp; first | done | (with_reducible rfl))
      try simp only [Act.put, List.getElem_toArray, List.getElem_cons_succ, List.getElem_cons_zero, List.setIfInBounds_toArray, List.set_cons_zero, List.set_cons_succ]
      refine wpAnyH_ready (rs := [10]) (by kernel_rfl) (by simp) (AllReadyH.cons (o := _) rfl (fun K hK => ?_) AllReadyH.nil)
      have n0 := BP.c 0 rfl
      have f0 := BP.f 0 rfl
      have n1 := BP.c 1 rfl
      have f1 := BP.f 1 rfl
      go_simp
      clear n0 f0 n1 f1
      refine hK.out _ _ (below_set (below_set hHeld (by omega) _) (by omega) _) (fun hNew => ?_)
      clear hHeld hK K
      have hHeld := hNew
      clear hNew
      try simp only [Act.put, List.getElem_toArray, List.getElem_cons_succ, List.getElem_cons_zero, List.setIfInBounds_toArray, List.set_cons_zero, List.set_cons_succ]
      refine at_anyH (fun v => Below V10.heap.size V10 v ∧ BK v wg0.heap.size [.int .i64 T, .int .i64 1]) ⟨hHeld, ((BP.set 0 _).set 1 _)⟩ (fun wg35 hS => ?_)
      clear hHeld BP
      obtain ⟨hHeld, BP⟩ := hS
      refine wpAnyH_take (i := 11) (oi := _) (v := ?vg36) rfl (by kernel_rfl) (by kernel_rfl) (by kernel_rfl) (fun _ _ _ h => h) (Or.inl ⟨by kernel_rfl, ?hyg36⟩) hHeld ?restg36
      case hyg36 => (intro w hSw; go_simp; first | done | (with_reducible rfl))
      try simp only [Act.put, List.getElem_toArray, List.getElem_cons_succ, List.getElem_cons_zero, List.setIfInBounds_toArray, List.set_cons_zero, List.set_cons_succ]
      refine wpAnyH_done (by kernel_rfl) ?_ _
      go_wp2_with fail
      go_meet
      exact ⟨_, rfl, rfl, BP, hHeld⟩
  case rest =>
    obtain ⟨p, rfl, rfl, BP, hv⟩ := hcut
    clear c0 c1 c2
    go_upto_region 8 with fail
    replace B4 := B4.keep hv
    replace B5 := B5.keep hv
    replace B6 := B6.keep hv
    replace B7 := B7.keep hv
    replace BA := BA.keep hv
    replace BB := BB.keep hv
    replace BC := BC.keep hv
    replace hbb := keepB hbb hv
    clear hv
    refine at_worldQ (fun v => Below w.heap.size w v ∧ BK v (w.heap.size) [.int .i64 len, .slice K kn ck, .slice Z zn cz] ∧ BK v (w.heap.size + 1) [.int .i64 n1, .int .i64 d1] ∧ BK v (w.heap.size + 1 + 1) [.int .i64 n2, .int .i64 d2] ∧ BK v (w.heap.size + 1 + 1 + 1) [.int .i64 n3, .int .i64 d3] ∧ BK v (w3.heap.size) [.int .i64 X1, .int .i64 X2] ∧ BK v (w5.heap.size) [.int .i64 Y1, .int .i64 Y2] ∧ BK v (w7.heap.size) [.int .i64 Z1, .int .i64 Z2] ∧ BK v (p) [.int .i64 T, .int .i64 1]) ⟨hbb, B4, B5, B6, B7, BA, BB, BC, BP⟩ (fun V11 hS => ?_)
    clear hbb B4 B5 B6 B7 BA BB BC BP
    obtain ⟨hbb, B4, B5, B6, B7, BA, BB, BC, BP⟩ := hS
    have c0 := B4.c 0 rfl
    have p0 := BP.c 0 rfl
    have p1 := BP.c 1 rfl
    refine wp_region_noPanic ?_
    refine wp_region_held_drew (S := (Below V11.heap.size V11)) (by kernel_rfl) ((Below.refl _ _).drew) (fun hHeld => ?_)
    refine at_anyH (Below V11.heap.size V11) hHeld (fun wh0 hNew => ?_)
    clear hHeld
    have hHeld := hNew
    clear hNew
    refine wpAnyH_take (i := 0) (oi := _) (v := ?vh1) rfl (by kernel_rfl) (by kernel_rfl) (by kernel_rfl) (fun _ _ _ h => h) (Or.inl ⟨by kernel_rfl, ?hyh1⟩) hHeld ?resth1
    case hyh1 => (intro w hSw; go_simp; first | done | (with_reducible rfl))
    try simp only [Act.put, List.getElem_toArray, List.getElem_cons_succ, List.getElem_cons_zero, List.setIfInBounds_toArray, List.set_cons_zero, List.set_cons_succ]
    refine wpAnyH_take (i := 1) (oi := _) (v := ?vh2) rfl (by kernel_rfl) (by kernel_rfl) (by kernel_rfl) (fun _ _ _ h => h) (Or.inl ⟨by kernel_rfl, ?hyh2⟩) hHeld ?resth2
    case hyh2 => (intro w hSw; go_simp; first | done | (with_reducible rfl))
    try simp only [Act.put, List.getElem_toArray, List.getElem_cons_succ, List.getElem_cons_zero, List.setIfInBounds_toArray, List.set_cons_zero, List.set_cons_succ]
    refine wpAnyH_take (i := 2) (oi := _) (v := ?vh3) rfl (by kernel_rfl) (by kernel_rfl) (by kernel_rfl) (fun _ _ _ h => h) (Or.inl ⟨by kernel_rfl, ?hyh3⟩) hHeld ?resth3
    case hyh3 => (intro w hSw; go_simp; first | done | (with_reducible rfl))
    try simp only [Act.put, List.getElem_toArray, List.getElem_cons_succ, List.getElem_cons_zero, List.setIfInBounds_toArray, List.set_cons_zero, List.set_cons_succ]
    refine wpAnyH_take (i := 3) (oi := _) (v := ?vh4) rfl (by kernel_rfl) (by kernel_rfl) (by kernel_rfl) (fun _ _ _ h => h) (Or.inl ⟨by kernel_rfl, ?hyh4⟩) hHeld ?resth4
    case hyh4 => (intro w hSw; go_simp; first | done | (with_reducible rfl))
    try simp only [Act.put, List.getElem_toArray, List.getElem_cons_succ, List.getElem_cons_zero, List.setIfInBounds_toArray, List.set_cons_zero, List.set_cons_succ]
    refine wpAnyH_take (i := 4) (oi := _) (v := ?vh5) rfl (by kernel_rfl) (by kernel_rfl) (by kernel_rfl) (fun _ _ _ h => h) (Or.inl ⟨by kernel_rfl, ?hyh5⟩) hHeld ?resth5
    case hyh5 => (intro w hSw; go_simp; first | done | (with_reducible rfl))
    try simp only [Act.put, List.getElem_toArray, List.getElem_cons_succ, List.getElem_cons_zero, List.setIfInBounds_toArray, List.set_cons_zero, List.set_cons_succ]
    refine wpAnyH_take (i := 5) (oi := _) (v := ?vh6) rfl (by kernel_rfl) (by kernel_rfl) (by kernel_rfl) (fun _ _ _ h => h) (Or.inl ⟨by kernel_rfl, ?hyh6⟩) hHeld ?resth6
    case hyh6 => (intro w hSw; go_simp; first | done | (with_reducible rfl))
    try simp only [Act.put, List.getElem_toArray, List.getElem_cons_succ, List.getElem_cons_zero, List.setIfInBounds_toArray, List.set_cons_zero, List.set_cons_succ]
    refine wpAnyH_take (i := 6) (oi := _) (v := ?vh7) rfl (by kernel_rfl) (by kernel_rfl) (by kernel_rfl) (fun _ _ _ h => h) (Or.inl ⟨by kernel_rfl, ?hyh7⟩) hHeld ?resth7
    case hyh7 => (intro w hSw; go_simp; first | done | (with_reducible rfl))
    try simp only [Act.put, List.getElem_toArray, List.getElem_cons_succ, List.getElem_cons_zero, List.setIfInBounds_toArray, List.set_cons_zero, List.set_cons_succ]
    refine wpAnyH_take (i := 7) (oi := _) (v := ?vh8) rfl (by kernel_rfl) (by kernel_rfl) (by kernel_rfl) (fun _ _ _ h => h) (Or.inl ⟨by kernel_rfl, ?hyh8⟩) hHeld ?resth8
    case hyh8 => (intro w hSw; have kc0 := keepC hSw c0; have kp0 := keepC hSw p0; have kp1 := keepC hSw p1; go_simp; first | done | (with_reducible rfl))
    try simp only [Act.put, List.getElem_toArray, List.getElem_cons_succ, List.getElem_cons_zero, List.setIfInBounds_toArray, List.set_cons_zero, List.set_cons_succ]
    refine wpAnyH_take (i := 8) (oi := _) (v := ?vh9) rfl (by kernel_rfl) (by kernel_rfl) (by kernel_rfl) (fun _ _ _ h => h) (Or.inl ⟨by kernel_rfl, ?hyh9⟩) hHeld ?resth9
    case hyh9 => (intro w hSw; go_simp; first | done | (with_reducible rfl))
    try simp only [Act.put, List.getElem_toArray, List.getElem_cons_succ, List.getElem_cons_zero, List.setIfInBounds_toArray, List.set_cons_zero, List.set_cons_succ]
    refine wpAnyH_ready (rs := [9]) (by kernel_rfl) (by simp) (AllReadyH.cons (o := _) rfl (fun K hK => ?_) AllReadyH.nil)
    go_simp
    refine (of2_any _ _).mono ?_
    rintro e wh10 ⟨rfl, hb3⟩
    go_wp2_with fail
    refine hK.out _ _ (keepB hHeld hb3) (fun hNew => ?_)
    clear hb3
    clear hHeld hK K
    have hHeld := hNew
    clear hNew
    try simp only [Act.put, List.getElem_toArray, List.getElem_cons_succ, List.getElem_cons_zero, List.setIfInBounds_toArray, List.set_cons_zero, List.set_cons_succ]
    refine wpAnyH_take (i := 10) (oi := _) (v := ?vh11) rfl (by kernel_rfl) (by kernel_rfl) (by kernel_rfl) (fun _ _ _ h => h) (Or.inl ⟨by kernel_rfl, ?hyh11⟩) hHeld ?resth11
    case hyh11 => (intro w hSw; go_simp; first | done | (with_reducible rfl))
    try simp only [Act.put, List.getElem_toArray, List.getElem_cons_succ, List.getElem_cons_zero, List.setIfInBounds_toArray, List.set_cons_zero, List.set_cons_succ]
    refine wpAnyH_take (i := 11) (oi := _) (v := ?vh12) rfl (by kernel_rfl) (by kernel_rfl) (by kernel_rfl) (fun _ _ _ h => h) (Or.inl ⟨by kernel_rfl, ?hyh12⟩) hHeld ?resth12
    case hyh12 => (intro w hSw; go_simp; first | done | (with_reducible rfl))
    try simp only [Act.put, List.getElem_toArray, List.getElem_cons_succ, List.getElem_cons_zero, List.setIfInBounds_toArray, List.set_cons_zero, List.set_cons_succ]
    refine wpAnyH_take (i := 12) (oi := _) (v := ?vh13) rfl (by kernel_rfl) (by kernel_rfl) (by kernel_rfl) (fun _ _ _ h => h) (Or.inl ⟨by kernel_rfl, ?hyh13⟩) hHeld ?resth13
    case hyh13 => (intro w hSw; go_simp; first | done | (with_reducible rfl))
    try simp only [Act.put, List.getElem_toArray, List.getElem_cons_succ, List.getElem_cons_zero, List.setIfInBounds_toArray, List.set_cons_zero, List.set_cons_succ]
    refine wpAnyH_take (i := 13) (oi := _) (v := ?vh14) rfl (by kernel_rfl) (by kernel_rfl) (by kernel_rfl) (fun _ _ _ h => h) (Or.inl ⟨by kernel_rfl, ?hyh14⟩) hHeld ?resth14
    case hyh14 => (intro w hSw; go_simp; first | done | (with_reducible rfl))
    try simp only [Act.put, List.getElem_toArray, List.getElem_cons_succ, List.getElem_cons_zero, List.setIfInBounds_toArray, List.set_cons_zero, List.set_cons_succ]
    refine wpAnyH_take (i := 14) (oi := _) (v := ?vh15) rfl (by kernel_rfl) (by kernel_rfl) (by kernel_rfl) (fun _ _ _ h => h) (Or.inl ⟨by kernel_rfl, ?hyh15⟩) hHeld ?resth15
    case hyh15 => (intro w hSw; go_simp; first | done | (with_reducible rfl))
    try simp only [Act.put, List.getElem_toArray, List.getElem_cons_succ, List.getElem_cons_zero, List.setIfInBounds_toArray, List.set_cons_zero, List.set_cons_succ]
    refine wpAnyH_take (i := 15) (oi := _) (v := ?vh16) rfl (by kernel_rfl) (by kernel_rfl) (by kernel_rfl) (fun _ _ _ h => h) (Or.inl ⟨by kernel_rfl, ?hyh16⟩) hHeld ?resth16
    case hyh16 => (intro w hSw; go_simp; first | done | (with_reducible rfl))
    try simp only [Act.put, List.getElem_toArray, List.getElem_cons_succ, List.getElem_cons_zero, List.setIfInBounds_toArray, List.set_cons_zero, List.set_cons_succ]
    refine wpAnyH_take (i := 16) (oi := _) (v := ?vh17) rfl (by kernel_rfl) (by kernel_rfl) (by kernel_rfl) (fun _ _ _ h => h) (Or.inl ⟨by kernel_rfl, ?hyh17⟩) hHeld ?resth17
    case hyh17 => (intro w hSw; go_simp; first | done | (with_reducible rfl))
    try simp only [Act.put, List.getElem_toArray, List.getElem_cons_succ, List.getElem_cons_zero, List.setIfInBounds_toArray, List.set_cons_zero, List.set_cons_succ]
    refine wpAnyH_take (i := 17) (oi := _) (v := ?vh18) rfl (by kernel_rfl) (by kernel_rfl) (by kernel_rfl) (fun _ _ _ h => h) (Or.inl ⟨by kernel_rfl, ?hyh18⟩) hHeld ?resth18
    case hyh18 => (intro w hSw; go_simp; first | done | (with_reducible rfl))
    try simp only [Act.put, List.getElem_toArray, List.getElem_cons_succ, List.getElem_cons_zero, List.setIfInBounds_toArray, List.set_cons_zero, List.set_cons_succ]
    refine wpAnyH_take (i := 18) (oi := _) (v := ?vh19) rfl (by kernel_rfl) (by kernel_rfl) (by kernel_rfl) (fun _ _ _ h => h) (Or.inl ⟨by kernel_rfl, ?hyh19⟩) hHeld ?resth19
    case hyh19 => (intro w hSw; go_simp; first | done | (with_reducible rfl))
    try simp only [Act.put, List.getElem_toArray, List.getElem_cons_succ, List.getElem_cons_zero, List.setIfInBounds_toArray, List.set_cons_zero, List.set_cons_succ]
    refine wpAnyH_take (i := 19) (oi := _) (v := ?vh20) rfl (by kernel_rfl) (by kernel_rfl) (by kernel_rfl) (fun _ _ _ h => h) (Or.inl ⟨by kernel_rfl, ?hyh20⟩) hHeld ?resth20
    case hyh20 => (intro w hSw; have kc0 := keepC hSw c0; have kp0 := keepC hSw p0; have kp1 := keepC hSw p1; go_simp; first | done | (with_reducible rfl))
    try simp only [Act.put, List.getElem_toArray, List.getElem_cons_succ, List.getElem_cons_zero, List.setIfInBounds_toArray, List.set_cons_zero, List.set_cons_succ]
    refine wpAnyH_take (i := 20) (oi := _) (v := ?vh21) rfl (by kernel_rfl) (by kernel_rfl) (by kernel_rfl) (fun _ _ _ h => h) (Or.inl ⟨by kernel_rfl, ?hyh21⟩) hHeld ?resth21
    case hyh21 => (intro w hSw; go_simp; first | done | (with_reducible rfl))
    try simp only [Act.put, List.getElem_toArray, List.getElem_cons_succ, List.getElem_cons_zero, List.setIfInBounds_toArray, List.set_cons_zero, List.set_cons_succ]
    refine wpAnyH_take (i := 21) (oi := _) (v := ?vh22) rfl (by kernel_rfl) (by kernel_rfl) (by kernel_rfl) (fun _ _ _ h => h) (Or.inl ⟨by kernel_rfl, ?hyh22⟩) hHeld ?resth22
    case hyh22 => (intro w hSw; go_simp; first | done | (with_reducible rfl))
    try simp only [Act.put, List.getElem_toArray, List.getElem_cons_succ, List.getElem_cons_zero, List.setIfInBounds_toArray, List.set_cons_zero, List.set_cons_succ]
    refine wpAnyH_take (i := 22) (oi := _) (v := ?vh23) rfl (by kernel_rfl) (by kernel_rfl) (by kernel_rfl) (fun _ _ _ h => h) (Or.inl ⟨by kernel_rfl, ?hyh23⟩) hHeld ?resth23
    case hyh23 => (intro w hSw; go_simp; first | done | (with_reducible rfl))
    try simp only [Act.put, List.getElem_toArray, List.getElem_cons_succ, List.getElem_cons_zero, List.setIfInBounds_toArray, List.set_cons_zero, List.set_cons_succ]
    refine wpAnyH_done (by kernel_rfl) ?_ _
    refine NoPanic.normal ?_
    skip
    clear c0 p0 p1 t1 t2 t3
    replace B4 := B4.keep hHeld
    replace B5 := B5.keep hHeld
    replace B6 := B6.keep hHeld
    replace B7 := B7.keep hHeld
    replace BA := BA.keep hHeld
    replace BB := BB.keep hHeld
    replace BC := BC.keep hHeld
    replace BP := BP.keep hHeld
    replace hbb := keepB hbb hHeld
    clear hHeld
    rcases EX.out with rfl | hx
    · rcases EY.out with rfl | hy
      · rcases EZ.out with rfl | hz
        · have cd := fun v => Add_any X1 X2 Y1 Y2 v (by have := (VX.out rfl).1.2.2.1; omega) (by have := (VX.out rfl).1.2.2.2.1; omega) (by have := (VX.out rfl).1.1; omega) (by have := (VX.out rfl).1.2.1; omega) (by have := (VY.out rfl).1.2.2.1; omega) (by have := (VY.out rfl).1.2.2.2.1; omega) (by have := (VY.out rfl).1.1; omega) (by have := (VY.out rfl).1.2.1; omega)
          rw [HA.out rfl rfl rfl] at cd
          have CD := Lib.hid cd
          clear cd
          have ba_0 := BA.c 0 rfl
          have ba_1 := BA.c 1 rfl
          have bb_0 := BB.c 0 rfl
          have bb_1 := BB.c 1 rfl
          go_wp2_with fail
          refine (CD.out _).mono ?_
          rintro e w21 ⟨rfl, hb⟩
          clear ba_0 ba_1 bb_0 bb_1
          replace B4 := B4.keep hb
          replace B5 := B5.keep hb
          replace B6 := B6.keep hb
          replace B7 := B7.keep hb
          replace BA := BA.keep hb
          replace BB := BB.keep hb
          replace BC := BC.keep hb
          replace BP := BP.keep hb
          replace hbb := keepB hbb hb
          clear hb
          go_upto_region 13 with fail
          refine at_worldQ (fun v => Below w.heap.size w v ∧ BK v (w.heap.size) [.int .i64 len, .slice K kn ck, .slice Z zn cz] ∧ BK v (w.heap.size + 1) [.int .i64 n1, .int .i64 d1] ∧ BK v (w.heap.size + 1 + 1) [.int .i64 n2, .int .i64 d2] ∧ BK v (w.heap.size + 1 + 1 + 1) [.int .i64 n3, .int .i64 d3] ∧ BK v (w3.heap.size) [.int .i64 X1, .int .i64 X2] ∧ BK v (w5.heap.size) [.int .i64 Y1, .int .i64 Y2] ∧ BK v (w7.heap.size) [.int .i64 Z1, .int .i64 Z2] ∧ BK v (p) [.int .i64 T, .int .i64 1] ∧ BK v (w21.heap.size) [.int .i64 Z1, .int .i64 Z2]) ⟨below_al hbb _, B4.al _, B5.al _, B6.al _, B7.al _, BA.al _, BB.al _, BC.al _, BP.al _, BK.new _ _ _⟩ (fun V22 hS => ?_)
          clear hbb B4 B5 B6 B7 BA BB BC BP
          obtain ⟨hbb, B4, B5, B6, B7, BA, BB, BC, BP, BD⟩ := hS
          have ba_0 := BA.c 0 rfl
          have ba_1 := BA.c 1 rfl
          have bb_0 := BB.c 0 rfl
          have bb_1 := BB.c 1 rfl
          have bc_0 := BC.c 0 rfl
          have bc_1 := BC.c 1 rfl
          have bd_0 := BD.c 0 rfl
          have bd_1 := BD.c 1 rfl
          go_wp2_with fail
          refine (alive2_any _).mono ?_
          rintro e w23 ⟨rfl, hb⟩
          clear ba_0 ba_1 bb_0 bb_1 bc_0 bc_1 bd_0 bd_1
          replace B4 := B4.keep hb
          replace B5 := B5.keep hb
          replace B6 := B6.keep hb
          replace B7 := B7.keep hb
          replace BA := BA.keep hb
          replace BB := BB.keep hb
          replace BC := BC.keep hb
          replace BP := BP.keep hb
          replace BD := BD.keep hb
          replace hbb := keepB hbb hb
          clear hb
          go_wp2_with fail
          go_ret
          exact ⟨rfl, hbb⟩
        · simp only [Prod.mk.injEq] at hz
          obtain ⟨rfl, rfl, rfl⟩ := hz
          go_wp2_with fail
          refine (alive2_any _).mono ?_
          rintro e w21 ⟨rfl, hb⟩
          replace B4 := B4.keep hb
          replace B5 := B5.keep hb
          replace B6 := B6.keep hb
          replace B7 := B7.keep hb
          replace BA := BA.keep hb
          replace BB := BB.keep hb
          replace BC := BC.keep hb
          replace BP := BP.keep hb
          replace hbb := keepB hbb hb
          clear hb
          go_wp2_with fail
          go_ret
          exact ⟨rfl, hbb⟩
      · simp only [Prod.mk.injEq] at hy
        obtain ⟨rfl, rfl, rfl⟩ := hy
        rcases EZ.out with rfl | hz
        · skip
          go_wp2_with fail
          refine (alive2_any _).mono ?_
          rintro e w21 ⟨rfl, hb⟩
          replace B4 := B4.keep hb
          replace B5 := B5.keep hb
          replace B6 := B6.keep hb
          replace B7 := B7.keep hb
          replace BA := BA.keep hb
          replace BB := BB.keep hb
          replace BC := BC.keep hb
          replace BP := BP.keep hb
          replace hbb := keepB hbb hb
          clear hb
          go_wp2_with fail
          go_ret
          exact ⟨rfl, hbb⟩
        · simp only [Prod.mk.injEq] at hz
          obtain ⟨rfl, rfl, rfl⟩ := hz
          go_wp2_with fail
          refine (alive2_any _).mono ?_
          rintro e w21 ⟨rfl, hb⟩
          replace B4 := B4.keep hb
          replace B5 := B5.keep hb
          replace B6 := B6.keep hb
          replace B7 := B7.keep hb
          replace BA := BA.keep hb
          replace BB := BB.keep hb
          replace BC := BC.keep hb
          replace BP := BP.keep hb
          replace hbb := keepB hbb hb
          clear hb
          go_wp2_with fail
          go_ret
          exact ⟨rfl, hbb⟩
    · simp only [Prod.mk.injEq] at hx
      obtain ⟨rfl, rfl, rfl⟩ := hx
      rcases EY.out with rfl | hy
      · rcases EZ.out with rfl | hz
        · skip
          go_wp2_with fail
          refine (alive2_any _).mono ?_
          rintro e w21 ⟨rfl, hb⟩
          replace B4 := B4.keep hb
          replace B5 := B5.keep hb
          replace B6 := B6.keep hb
          replace B7 := B7.keep hb
          replace BA := BA.keep hb
          replace BB := BB.keep hb
          replace BC := BC.keep hb
          replace BP := BP.keep hb
          replace hbb := keepB hbb hb
          clear hb
          go_wp2_with fail
          go_ret
          exact ⟨rfl, hbb⟩
        · simp only [Prod.mk.injEq] at hz
          obtain ⟨rfl, rfl, rfl⟩ := hz
          go_wp2_with fail
          refine (alive2_any _).mono ?_
          rintro e w21 ⟨rfl, hb⟩
          replace B4 := B4.keep hb
          replace B5 := B5.keep hb
          replace B6 := B6.keep hb
          replace B7 := B7.keep hb
          replace BA := BA.keep hb
          replace BB := BB.keep hb
          replace BC := BC.keep hb
          replace BP := BP.keep hb
          replace hbb := keepB hbb hb
          clear hb
          go_wp2_with fail
          go_ret
          exact ⟨rfl, hbb⟩
      · simp only [Prod.mk.injEq] at hy
        obtain ⟨rfl, rfl, rfl⟩ := hy
        rcases EZ.out with rfl | hz
        · skip
          go_wp2_with fail
          refine (alive2_any _).mono ?_
          rintro e w21 ⟨rfl, hb⟩
          replace B4 := B4.keep hb
          replace B5 := B5.keep hb
          replace B6 := B6.keep hb
          replace B7 := B7.keep hb
          replace BA := BA.keep hb
          replace BB := BB.keep hb
          replace BC := BC.keep hb
          replace BP := BP.keep hb
          replace hbb := keepB hbb hb
          clear hb
          go_wp2_with fail
          go_ret
          exact ⟨rfl, hbb⟩
        · simp only [Prod.mk.injEq] at hz
          obtain ⟨rfl, rfl, rfl⟩ := hz
          go_wp2_with fail
          refine (alive2_any _).mono ?_
          rintro e w21 ⟨rfl, hb⟩
          replace B4 := B4.keep hb
          replace B5 := B5.keep hb
          replace B6 := B6.keep hb
          replace B7 := B7.keep hb
          replace BA := BA.keep hb
          replace BB := BB.keep hb
          replace BC := BC.keep hb
          replace BP := BP.keep hb
          replace hbb := keepB hbb hb
          clear hb
          go_wp2_with fail
          go_ret
          exact ⟨rfl, hbb⟩

theorem adds_walk (len : Int) (K : Option Addr) (cuts : List Int) (ck : Nat) (Z : Option Addr) (dens : List Int) (cz : Nat) (n1 d1 n2 d2 n3 d3 : Int) (w : World) (h : IsCake w len K cuts Z dens) (n1l : -9223372036854775808 ≤ n1) (n1h : n1 ≤ 9223372036854775807) (d1l : -9223372036854775808 ≤ d1) (d1h : d1 ≤ 9223372036854775807) (n2l : -9223372036854775808 ≤ n2) (n2h : n2 ≤ 9223372036854775807) (d2l : -9223372036854775808 ≤ d2) (d2h : d2 ≤ 9223372036854775807) (n3l : -9223372036854775808 ≤ n3) (n3h : n3 ≤ 9223372036854775807) (d3l : -9223372036854775808 ≤ d3) (d3h : d3 ≤ 9223372036854775807) :
    Calls Try.prog 5 #[.agg #[.int .i64 len, .slice K cuts.length ck, .slice Z dens.length cz], .agg #[.int .i64 n1, .int .i64 d1], .agg #[.int .i64 n2, .int .i64 d2], .agg #[.int .i64 n3, .int .i64 d3]] w fun e w' => e = .returned (.bool true) ∧ Below w.heap.size w w' := by
  have H := fun hno => adds_no len K cuts ck Z dens cz n1 d1 n2 d2 n3 d3 w h ⟨n1l, n1h⟩ ⟨d1l, d1h⟩ ⟨n2l, n2h⟩ ⟨d2l, d2h⟩ ⟨n3l, n3h⟩ ⟨d3l, d3h⟩ hno
  cases hv : Ck.vld len cuts dens n1 d1 n2 d2 with
  | false => exact H (.inl hv)
  | true =>
    cases hv2 : Ck.vld len cuts dens n2 d2 n3 d3 with
    | false => exact H (.inr ⟨hv, hv2⟩)
    | true => exact adds_yes len K cuts ck Z dens cz n1 d1 n2 d2 n3 d3 w h ⟨n1l, n1h⟩ ⟨d1l, d1h⟩ ⟨n2l, n2h⟩ ⟨d2l, d2h⟩ ⟨n3l, n3h⟩ ⟨d3l, d3h⟩ hv hv2
end Go.Proofs.Ytomokdepndclpaa
