/- The walk of the law CakeSame: it answers true for any cake, any two points, any value and any two whole numbers. -/
import Derived.Test.YtomokdepndclpaaSamel2
namespace Go.Proofs.Ytomokdepndclpaa
open Go.RowKit
set_option linter.unusedSimpArgs false in
set_option linter.unusedVariables false in
set_option maxHeartbeats 8000000 in
set_option maxRecDepth 100000 in
theorem same_no (len : Int) (K : Option Addr) (cuts : List Int) (ck : Nat) (Z : Option Addr) (dens : List Int) (cz : Nat) (n1 d1 n2 d2 v1 v2 fa fb : Int) (w : World) (h : IsCake w len K cuts Z dens) (hck : cuts.length ≤ ck) (hcz : dens.length ≤ cz) (hn1 : I64 n1) (hd1 : I64 d1) (hn2 : I64 n2) (hd2 : I64 d2) (hv1 : I64 v1) (hv2 : I64 v2) (hfa : I64 fa) (hfb : I64 fb) (hv : Ck.vld len cuts dens n1 d1 n2 d2 = false) :
    Calls Try.prog 6 #[.agg #[.int .i64 len, .slice K cuts.length ck, .slice Z dens.length cz], .agg #[.int .i64 n1, .int .i64 d1], .agg #[.int .i64 n2, .int .i64 d2], .agg #[.int .i64 v1, .int .i64 v2], .int .i64 fa, .int .i64 fb] w fun e w' => e = .returned (.bool true) ∧ Below w.heap.size w w' := by
  have cv1 := fun v (hb : Below w.heap.size w v) => vld_any len K cuts ck Z dens cz n1 d1 n2 d2 v (h.keep hb) hn1 hd1 hn2 hd2
  obtain ⟨kn, hkn⟩ : ∃ kn, cuts.length = kn := ⟨_, rfl⟩
  obtain ⟨zn, hzn⟩ : ∃ zn, dens.length = zn := ⟨_, rfl⟩
  rw [hv] at cv1
  rw [hkn, hzn] at cv1 ⊢
  have CV1 := Lib.hid cv1
  clear cv1 hv h hkn hzn hck hcz
  clear hn1 hd1 hn2 hd2 hv1 hv2 hfa hfb
  go_enter Try.func6, Try.ntmps6
  go_wp2_with fail
  refine (CV1.out _ (((((Below.refl _ _).alloc (Nat.le_refl _) _).alloc (by simp) _).alloc (by simp; omega) _).alloc (by simp; omega) _)).mono ?_
  rintro e w1 ⟨rfl, hb⟩
  have B6 : BK w1 (w.heap.size) [.int .i64 len, .slice K kn ck, .slice Z zn cz] := BK.keep (v := _) ⟨by simp <;> omega, fun j x e => by
    match j with
    | 0 => injection e with e; subst e; exact ⟨by go_simp, by go_simp⟩
    | 1 => injection e with e; subst e; exact ⟨by go_simp, by go_simp⟩
    | 2 => injection e with e; subst e; exact ⟨by go_simp, by go_simp⟩
    | j + 3 => cases e⟩ hb
  have B7 : BK w1 (w.heap.size + 1) [.int .i64 n1, .int .i64 d1] := BK.keep (v := _) ⟨by simp <;> omega, fun j x e => by
    match j with
    | 0 => injection e with e; subst e; exact ⟨by go_simp, by go_simp⟩
    | 1 => injection e with e; subst e; exact ⟨by go_simp, by go_simp⟩
    | j + 2 => cases e⟩ hb
  have B8 : BK w1 (w.heap.size + 1 + 1) [.int .i64 n2, .int .i64 d2] := BK.keep (v := _) ⟨by simp <;> omega, fun j x e => by
    match j with
    | 0 => injection e with e; subst e; exact ⟨by go_simp, by go_simp⟩
    | 1 => injection e with e; subst e; exact ⟨by go_simp, by go_simp⟩
    | j + 2 => cases e⟩ hb
  have B9 : BK w1 (w.heap.size + 1 + 1 + 1) [.int .i64 v1, .int .i64 v2] := BK.keep (v := _) ⟨by simp <;> omega, fun j x e => by
    match j with
    | 0 => injection e with e; subst e; exact ⟨by go_simp, by go_simp⟩
    | 1 => injection e with e; subst e; exact ⟨by go_simp, by go_simp⟩
    | j + 2 => cases e⟩ hb
  have hbb : Below w.heap.size w w1 := keepB (((((Below.refl _ _).alloc (Nat.le_refl _) _).alloc (by simp) _).alloc (by simp; omega) _).alloc (by simp; omega) _) hb
  clear hb
  go_wp2_with fail
  refine (alive2_any _).mono ?_
  rintro e w2 ⟨rfl, hb⟩
  replace B6 := B6.keep hb
  replace B7 := B7.keep hb
  replace B8 := B8.keep hb
  replace B9 := B9.keep hb
  replace hbb := keepB hbb hb
  clear hb
  go_wp2_with fail
  go_ret
  exact ⟨rfl, hbb⟩

set_option linter.unusedSimpArgs false in
set_option linter.unusedVariables false in
set_option maxHeartbeats 8000000 in
set_option maxRecDepth 100000 in
theorem same_yes (len : Int) (K : Option Addr) (cuts : List Int) (ck : Nat) (Z : Option Addr) (dens : List Int) (cz : Nat) (n1 d1 n2 d2 v1 v2 fa fb : Int) (w : World) (h : IsCake w len K cuts Z dens) (hck : cuts.length ≤ ck) (hcz : dens.length ≤ cz) (hn1 : I64 n1) (hd1 : I64 d1) (hn2 : I64 n2) (hd2 : I64 d2) (hv1 : I64 v1) (hv2 : I64 v2) (hfa : I64 fa) (hfb : I64 fb) (hv : Ck.vld len cuts dens n1 d1 n2 d2 = true) :
    Calls Try.prog 6 #[.agg #[.int .i64 len, .slice K cuts.length ck, .slice Z dens.length cz], .agg #[.int .i64 n1, .int .i64 d1], .agg #[.int .i64 n2, .int .i64 d2], .agg #[.int .i64 v1, .int .i64 v2], .int .i64 fa, .int .i64 fb] w fun e w' => e = .returned (.bool true) ∧ Below w.heap.size w w' := by
  have cv1 := fun v (hb : Below w.heap.size w v) => vld_any len K cuts ck Z dens cz n1 d1 n2 d2 v (h.keep hb) hn1 hd1 hn2 hd2
  rw [hv] at cv1
  obtain ⟨hc, pa, pb, hab⟩ := vld_spec hv
  have hG := Ck.chk_good hc
  have hN := Ck.nor_good hG
  have hcn := Ck.chk_of_good hN
  have hcum := Ck.cum_nor hG
  have hself := Ck.nor_self hG
  have cn := fun v (hb : Below w.heap.size w v) => nor_c ck cz (h.keep hb) hc
  have hdn := Ck.dens_nor hG (n := n1) (m := d1) (by have := (pt_spec pa).1.1; omega) (pt_spec pa).2.1
  have hne := Ck.nD_ne hG dens.length (Nat.le_refl _)
  have hcu := fun y => nor_cum hG y
  obtain ⟨nc, hnc⟩ : ∃ nc, Ck.nC cuts dens dens.length ++ [len] = nc := ⟨_, rfl⟩
  obtain ⟨nd, hnd⟩ : ∃ nd, Ck.nD dens dens.length = nd := ⟨_, rfl⟩
  rw [hnc, hnd] at hN hcn cn hself hdn hcu
  rw [hnd] at hne
  have cm := fun (K : Option Addr) (ck : Nat) (Z : Option Addr) (cz : Nat) (v : World) (hI : IsCake v len K nc Z nd) => nor_c ck cz hI hcn
  rw [hself.1, hself.2] at cm
  have cs := fun (K : Option Addr) (ck : Nat) (Z : Option Addr) (cz : Nat) (K' : Option Addr) (ck' : Nat) (Z' : Option Addr) (cz' : Nat) (v : World) (hI : IsCake v len K nc Z nd) (hI' : IsCake v len K' nc Z' nd) => rckSame_any len K nc ck Z nd cz len K' nc ck' Z' nd cz' v hI hI'
  rw [show Ck.same len nc nd len nc nd = true by simp [Ck.same]] at cs
  have cc := fun (K : Option Addr) (ck : Nat) (Z : Option Addr) (cz : Nat) (v : World) (hI : IsCake v len K nc Z nd) => rckCheck_any len K nc ck Z nd cz v hI
  rw [hcn] at cc
  have cd := fun v (hb : Below w.heap.size w v) => ckDensity_any len K cuts ck Z dens cz n1 d1 v (h.keep hb) hn1 hd1
  have cdn := fun (K : Option Addr) (ck : Nat) (Z : Option Addr) (cz : Nat) (v : World) (hI : IsCake v len K nc Z nd) => ckDensity_any len K nc ck Z nd cz n1 d1 v hI hn1 hd1
  obtain ⟨D1, hD1⟩ : ∃ D1, Ck.at_ dens (Ck.place cuts n1 d1 (dens.length - 1)) = D1 := ⟨_, rfl⟩
  rw [show Ck.denS len cuts dens n1 d1 = (D1, 0) by unfold Ck.denS; rw [if_pos hc, if_pos pa, hD1]] at cd
  rw [show Ck.denS len nc nd n1 d1 = (D1, 0) by unfold Ck.denS; rw [if_pos hcn, if_pos pa, hdn, hD1]] at cdn
  obtain ⟨X1, X2, X3, hX, xX, cX⟩ := val_all len cuts dens n1 d1 n2 d2 hc pa pb hab
  obtain ⟨Y1, Y2, Y3, hY, xY, cY⟩ := val_all len nc nd n1 d1 n2 d2 hcn pa pb hab
  have tv : TwoV X1 X2 X3 Y1 Y2 Y3 := by
    have hs := Ck.val_same hG hN hcu (pt_spec pa).1 (pt_spec pb).1 (Rat.not_lt.1 hab)
    rw [hX, hY] at hs
    rcases xX with rfl | ⟨rfl, rfl, rfl⟩
    · rcases xY with rfl | ⟨rfl, rfl, rfl⟩
      · exact .inl ⟨rfl, rfl, (hs rfl rfl).1, (hs rfl rfl).2⟩
      · exact .inr (.inl ⟨rfl, rfl, rfl, rfl⟩)
    · rcases xY with rfl | ⟨rfl, rfl, rfl⟩
      · exact .inr (.inr (.inl ⟨rfl, rfl, rfl, rfl⟩))
      · exact .inr (.inr (.inr ⟨rfl, rfl, rfl, rfl, rfl, rfl⟩))
  obtain ⟨P1, P2, P3, hP, cP⟩ := mrk_all len cuts dens n1 d1 v1 v2 hc pa hv1 hv2
  obtain ⟨Q1, Q2, Q3, hQ, cQ⟩ := mrk_all len nc nd n1 d1 v1 v2 hcn pa hv1 hv2
  have tm := two_of hG hcu hP hQ
  have hpa : ((fa < 0 ∨ len < fb ∨ fb ≤ fa) ∧ ∀ v, Below w.heap.size w v → Calls Try.prog 19 #[.agg #[.int .i64 len, .slice K cuts.length ck, .slice Z dens.length cz], .int .i64 fa, .int .i64 fb] v (CakeQ 0 [] [] 2 v)) ∨
      (¬ (fa < 0 ∨ len < fb ∨ fb ≤ fa) ∧ ∀ v, Below w.heap.size w v → Calls Try.prog 19 #[.agg #[.int .i64 len, .slice K cuts.length ck, .slice Z dens.length cz], .int .i64 fa, .int .i64 fb] v (CakeQ 0 [] [] 6 v)) ∨
      (¬ (fa < 0 ∨ len < fb ∨ fb ≤ fa) ∧ Ck.chk (fb - fa) (Ck.pC cuts fa fb dens.length) (Ck.pD cuts dens fa fb dens.length) = 0 ∧ ∀ v, Below w.heap.size w v → Calls Try.prog 19 #[.agg #[.int .i64 len, .slice K cuts.length ck, .slice Z dens.length cz], .int .i64 fa, .int .i64 fb] v (CakeQ (fb - fa) (Ck.pC cuts fa fb dens.length) (Ck.pD cuts dens fa fb dens.length) 0 v)) := by
    have pc := fun v (hb : Below w.heap.size w v) => part_c ck cz fa fb (h.keep hb) hck hcz hc hfa hfb
    by_cases hr : fa < 0 ∨ len < fb ∨ fb ≤ fa
    · refine .inl ⟨hr, fun v hb => ?_⟩
      rcases pc v hb with ⟨_, g⟩ | ⟨g, _⟩ | ⟨g, _⟩
      · exact g
      · exact absurd hr g
      · exact absurd hr g
    · by_cases hk : Ck.chk (fb - fa) (Ck.pC cuts fa fb dens.length) (Ck.pD cuts dens fa fb dens.length) = 0
      · refine .inr (.inr ⟨hr, hk, fun v hb => ?_⟩)
        rcases pc v hb with ⟨g, _⟩ | ⟨_, g, _⟩ | ⟨_, _, g⟩
        · exact absurd g hr
        · exact absurd hk g
        · exact g
      · refine .inr (.inl ⟨hr, fun v hb => ?_⟩)
        rcases pc v hb with ⟨g, _⟩ | ⟨_, _, g⟩ | ⟨_, g, _⟩
        · exact absurd g hr
        · exact g
        · exact absurd g hk
  obtain ⟨kn, hkn⟩ : ∃ kn, cuts.length = kn := ⟨_, rfl⟩
  obtain ⟨zn, hzn⟩ : ∃ zn, dens.length = zn := ⟨_, rfl⟩
  have HCK := Lib.hid (show 1 ≤ nd.length ∧ nd.length ≤ 40 by have := hN.shape; omega)
  have HN1 := Lib.hid (show 0 < nd.length by have := hN.shape; omega)
  have HNL := Lib.hid (show nd.length ≤ 40 by have := hN.shape; omega)
  have HNE := Lib.hid (show ∀ j, j + 1 < nd.length → Ck.at_ nd (j + 1) ≠ Ck.at_ nd j from hne)
  have H := Lib.hid h
  have HC := Lib.hid hc
  have HKN := Lib.hid hkn
  have HZN := Lib.hid hzn
  have HPA0 := hpa
  rw [hkn, hzn] at cv1 cn cd cX cP hpa ⊢
  have CV1 := Lib.hid cv1
  have CN := Lib.hid cn
  have CM := Lib.hid cm
  have CS := Lib.hid cs
  have CC := Lib.hid cc
  have CD := Lib.hid cd
  have CDn := Lib.hid cdn
  have CX := Lib.hid cX
  have CY := Lib.hid cY
  have CP := Lib.hid cP
  have CQ := Lib.hid cQ
  have TV := Lib.hid tv
  have TM := Lib.hid tm
  have HPA := Lib.hid hpa
  have l0 := hG.len0
  have l1 := hG.len1
  have n0 : (((0 : Int)) != 0) = false := rfl
  clear HPA0 cv1 cn cm cs cc cd cdn hX xX cX hY xY cY tv hP cP hQ cQ tm hpa hv hc pa pb hab hG hN hcn hcum hself hdn hne hcu hnc hnd hD1 hkn hzn h hck hcz
  clear hn1 hd1 hn2 hd2 hv1 hv2 hfa hfb
  go_enter Try.func6, Try.ntmps6
  go_wp2_with fail
  refine (CV1.out _ (((((Below.refl _ _).alloc (Nat.le_refl _) _).alloc (by simp) _).alloc (by simp; omega) _).alloc (by simp; omega) _)).mono ?_
  rintro e w1 ⟨rfl, hb⟩
  have B6 : BK w1 (w.heap.size) [.int .i64 len, .slice K kn ck, .slice Z zn cz] := BK.keep (v := _) ⟨by simp <;> omega, fun j x e => by
    match j with
    | 0 => injection e with e; subst e; exact ⟨by go_simp, by go_simp⟩
    | 1 => injection e with e; subst e; exact ⟨by go_simp, by go_simp⟩
    | 2 => injection e with e; subst e; exact ⟨by go_simp, by go_simp⟩
    | j + 3 => cases e⟩ hb
  have B7 : BK w1 (w.heap.size + 1) [.int .i64 n1, .int .i64 d1] := BK.keep (v := _) ⟨by simp <;> omega, fun j x e => by
    match j with
    | 0 => injection e with e; subst e; exact ⟨by go_simp, by go_simp⟩
    | 1 => injection e with e; subst e; exact ⟨by go_simp, by go_simp⟩
    | j + 2 => cases e⟩ hb
  have B8 : BK w1 (w.heap.size + 1 + 1) [.int .i64 n2, .int .i64 d2] := BK.keep (v := _) ⟨by simp <;> omega, fun j x e => by
    match j with
    | 0 => injection e with e; subst e; exact ⟨by go_simp, by go_simp⟩
    | 1 => injection e with e; subst e; exact ⟨by go_simp, by go_simp⟩
    | j + 2 => cases e⟩ hb
  have B9 : BK w1 (w.heap.size + 1 + 1 + 1) [.int .i64 v1, .int .i64 v2] := BK.keep (v := _) ⟨by simp <;> omega, fun j x e => by
    match j with
    | 0 => injection e with e; subst e; exact ⟨by go_simp, by go_simp⟩
    | 1 => injection e with e; subst e; exact ⟨by go_simp, by go_simp⟩
    | j + 2 => cases e⟩ hb
  have hbb : Below w.heap.size w w1 := keepB (((((Below.refl _ _).alloc (Nat.le_refl _) _).alloc (by simp) _).alloc (by simp; omega) _).alloc (by simp; omega) _) hb
  clear hb
  have b6_0 := B6.c 0 rfl
  have b6_1 := B6.c 1 rfl
  have b6_2 := B6.c 2 rfl
  go_wp2_with fail
  refine (CN.out _ hbb).mono ?_
  rintro e w2 ⟨Kn, ln, Zn, yn, rfl, hIn, hb⟩
  clear b6_0 b6_1 b6_2
  replace B6 := B6.keep hb
  replace B7 := B7.keep hb
  replace B8 := B8.keep hb
  replace B9 := B9.keep hb
  replace hbb := keepB hbb hb
  clear hb
  go_upto_region 4 with fail
  refine at_worldQ (fun v => Below w.heap.size w v ∧ BK v (w.heap.size) [.int .i64 len, .slice K kn ck, .slice Z zn cz] ∧ BK v (w.heap.size + 1) [.int .i64 n1, .int .i64 d1] ∧ BK v (w.heap.size + 1 + 1) [.int .i64 n2, .int .i64 d2] ∧ BK v (w.heap.size + 1 + 1 + 1) [.int .i64 v1, .int .i64 v2] ∧ BK v (w2.heap.size) [.int .i64 len, .slice Kn nc.length ln, .slice Zn nd.length yn] ∧ IsCake v len Kn nc Zn nd) ⟨(below_al hbb _), (B6.al _), (B7.al _), (B8.al _), (B9.al _), (BK.new _ _ _), hIn.keep (below_al (Below.refl _ _) _)⟩ (fun Vw3 hS => ?_)
  clear hbb B6 B7 B8 B9 hIn
  obtain ⟨hbb, B6, B7, B8, B9, Bn, hIn⟩ := hS
  have bn_0 := Bn.c 0 rfl
  have bn_1 := Bn.c 1 rfl
  have bn_2 := Bn.c 2 rfl
  go_wp2_with fail
  refine (CM.out _ _ _ _ _ hIn).mono ?_
  rintro e w4 ⟨Km, lm, Zm, ym, rfl, hIm, hb⟩
  clear bn_0 bn_1 bn_2
  replace B6 := B6.keep hb
  replace B7 := B7.keep hb
  replace B8 := B8.keep hb
  replace B9 := B9.keep hb
  replace Bn := Bn.keep hb
  replace hIn := hIn.keep hb
  replace hbb := keepB hbb hb
  clear hb
  go_upto_region 5 with fail
  refine at_worldQ (fun v => Below w.heap.size w v ∧ BK v (w.heap.size) [.int .i64 len, .slice K kn ck, .slice Z zn cz] ∧ BK v (w.heap.size + 1) [.int .i64 n1, .int .i64 d1] ∧ BK v (w.heap.size + 1 + 1) [.int .i64 n2, .int .i64 d2] ∧ BK v (w.heap.size + 1 + 1 + 1) [.int .i64 v1, .int .i64 v2] ∧ BK v (w2.heap.size) [.int .i64 len, .slice Kn nc.length ln, .slice Zn nd.length yn] ∧ BK v (w4.heap.size) [.int .i64 len, .slice Km nc.length lm, .slice Zm nd.length ym] ∧ IsCake v len Kn nc Zn nd ∧ IsCake v len Km nc Zm nd) ⟨(below_al hbb _), (B6.al _), (B7.al _), (B8.al _), (B9.al _), (Bn.al _), (BK.new _ _ _), hIn.keep (below_al (Below.refl _ _) _), hIm.keep (below_al (Below.refl _ _) _)⟩ (fun Vw5 hS => ?_)
  clear hbb B6 B7 B8 B9 Bn hIn hIm
  obtain ⟨hbb, B6, B7, B8, B9, Bn, Bm, hIn, hIm⟩ := hS
  have bn_0 := Bn.c 0 rfl
  have bn_1 := Bn.c 1 rfl
  have bn_2 := Bn.c 2 rfl
  have bm_0 := Bm.c 0 rfl
  have bm_1 := Bm.c 1 rfl
  have bm_2 := Bm.c 2 rfl
  go_wp2_with fail
  refine (CS.out _ _ _ _ _ _ _ _ _ hIn hIm).mono ?_
  rintro e w6 ⟨rfl, hb⟩
  clear bn_0 bn_1 bn_2 bm_0 bm_1 bm_2
  replace B6 := B6.keep hb
  replace B7 := B7.keep hb
  replace B8 := B8.keep hb
  replace B9 := B9.keep hb
  replace Bn := Bn.keep hb
  replace Bm := Bm.keep hb
  replace hIn := hIn.keep hb
  replace hIm := hIm.keep hb
  replace hbb := keepB hbb hb
  clear hb
  have bn_0 := Bn.c 0 rfl
  have bn_1 := Bn.c 1 rfl
  have bn_2 := Bn.c 2 rfl
  go_wp2_with fail
  refine (CC.out _ _ _ _ _ hIn).mono ?_
  rintro e w7 ⟨rfl, hb⟩
  clear bn_0 bn_1 bn_2
  replace B6 := B6.keep hb
  replace B7 := B7.keep hb
  replace B8 := B8.keep hb
  replace B9 := B9.keep hb
  replace Bn := Bn.keep hb
  replace Bm := Bm.keep hb
  replace hIn := hIn.keep hb
  replace hIm := hIm.keep hb
  replace hbb := keepB hbb hb
  clear hb
  clear Bm hIm
  go_upto_region 7 with fail
  refine at_worldQ (fun v => Below w.heap.size w v ∧ BK v (w.heap.size) [.int .i64 len, .slice K kn ck, .slice Z zn cz] ∧ BK v (w.heap.size + 1) [.int .i64 n1, .int .i64 d1] ∧ BK v (w.heap.size + 1 + 1) [.int .i64 n2, .int .i64 d2] ∧ BK v (w.heap.size + 1 + 1 + 1) [.int .i64 v1, .int .i64 v2] ∧ BK v (w2.heap.size) [.int .i64 len, .slice Kn nc.length ln, .slice Zn nd.length yn] ∧ IsCake v len Kn nc Zn nd) ⟨hbb, B6, B7, B8, B9, Bn, hIn⟩ (fun Vw8 hS => ?_)
  clear hbb B6 B7 B8 B9 Bn hIn
  obtain ⟨hbb, B6, B7, B8, B9, Bn, hIn⟩ := hS
  obtain ⟨bz, oz, rfl, hz⟩ := hIn.2.2.2.1 HN1.out
  have HZ := Lib.hid hz
  clear hz
  have gn := Bn.c 2 rfl
  go_wp2_with fail
  go_loopw [17] (fun i v => ∃ j : Nat, j + 1 ≤ nd.length ∧ i = .int .i64 ((j : Int) + 1) ∧ Below Vw8.heap.size Vw8 v) (fun i _ => nd.length - (intOf i).toNat)
  case atStart => exact ⟨0, HN1.out, rfl, Below.refl _ _⟩
  case round =>
    obtain ⟨j, hj, rfl, hv⟩ := hrel
    have hnl := HNL.out
    by_cases hlt : j + 1 < nd.length
    · as_aux_lemma =>
        have gn' := keepC hv gn
        have y0 := keepC hv (HZ.out j (by omega))
        have y1 := keepC hv (HZ.out (j + 1) hlt)
        have hne := HNE.out j hlt
        obtain ⟨p, hp⟩ : ∃ p, Ck.at_ nd j = p := ⟨_, rfl⟩
        obtain ⟨q, hq⟩ : ∃ q, Ck.at_ nd (j + 1) = q := ⟨_, rfl⟩
        rw [hp] at y0 hne
        rw [hq] at y1 hne
        have f1 : (q == p) = false := by simpa using hne
        clear hp hq hne
        have t1 : (j : Int) + 1 < (nd.length : Int) := by omega
        have t2 : (0 : Int) ≤ (j : Int) + 1 := by omega
        have t3 : ((j : Int) + 1).toNat = j + 1 := by omega
        have t4 : IntKind.i64.wrap ((j : Int) + 1 - 1) = (j : Int) := by rw [show (j : Int) + 1 - 1 = j by omega]; exact IntWalk.i64_in _ (by omega)
        have t5 : (j : Int) < (nd.length : Int) := by omega
        have t7 : IntKind.i64.wrap (j : Int) = (j : Int) := IntWalk.i64_in _ (by omega)
        have t8 : (0 : Int) ≤ (j : Int) := by omega
        have t6 : IntKind.i64.wrap ((j : Int) + 1) = (j : Int) + 1 := IntWalk.i64_in _ (by omega)
        go_upto_region 10 with fail
        refine at_worldQ (fun v => Below Vw8.heap.size Vw8 v ∧ v.cell? ⟨w2.heap.size, 2, none⟩ = some (.slice (some ⟨bz, oz, none⟩) nd.length yn) ∧ v.cell? ⟨bz, oz + j, none⟩ = some (.int .i64 p) ∧ v.cell? ⟨bz, oz + (j + 1), none⟩ = some (.int .i64 q)) ⟨hv, gn', y0, y1⟩ (fun Vr hS => ?_)
        clear hv gn' y0 y1
        obtain ⟨hv, gn', y0, y1⟩ := hS
        refine wp_region_noPanic ?_
        refine wp_region_held_drew (S := (Below Vr.heap.size Vr)) (by kernel_rfl) ((Below.refl _ _).drew) (fun hHeld => ?_)
        refine at_anyH (Below Vr.heap.size Vr) hHeld (fun wl0 hNew => ?_)
        clear hHeld
        have hHeld := hNew
        clear hNew
        refine wpAnyH_take (i := 0) (oi := _) (v := ?vl1) rfl (by kernel_rfl) (by kernel_rfl) (by kernel_rfl) (fun _ _ _ h => h) (Or.inl ⟨by kernel_rfl, ?hyl1⟩) hHeld ?restl1
        case hyl1 => (intro w hSw; go_simp; first | done | (with_reducible rfl))
        try simp only [Act.put, List.getElem_toArray, List.getElem_cons_succ, List.getElem_cons_zero, List.setIfInBounds_toArray, List.set_cons_zero, List.set_cons_succ]
        refine wpAnyH_take (i := 1) (oi := _) (v := ?vl2) rfl (by kernel_rfl) (by kernel_rfl) (by kernel_rfl) (fun _ _ _ h => h) (Or.inl ⟨by kernel_rfl, ?hyl2⟩) hHeld ?restl2
        case hyl2 => (intro w hSw; have kgn' := keepC hSw gn'; have ky0 := keepC hSw y0; have ky1 := keepC hSw y1; go_simp; first | done | (with_reducible rfl))
        try simp only [Act.put, List.getElem_toArray, List.getElem_cons_succ, List.getElem_cons_zero, List.setIfInBounds_toArray, List.set_cons_zero, List.set_cons_succ]
        refine wpAnyH_take (i := 2) (oi := _) (v := ?vl3) rfl (by kernel_rfl) (by kernel_rfl) (by kernel_rfl) (fun _ _ _ h => h) (Or.inl ⟨by kernel_rfl, ?hyl3⟩) hHeld ?restl3
        case hyl3 => (intro w hSw; go_simp; first | done | (with_reducible rfl))
        try simp only [Act.put, List.getElem_toArray, List.getElem_cons_succ, List.getElem_cons_zero, List.setIfInBounds_toArray, List.set_cons_zero, List.set_cons_succ]
        refine wpAnyH_take (i := 3) (oi := _) (v := ?vl4) rfl (by kernel_rfl) (by kernel_rfl) (by kernel_rfl) (fun _ _ _ h => h) (Or.inl ⟨by kernel_rfl, ?hyl4⟩) hHeld ?restl4
        case hyl4 => (intro w hSw; go_simp; first | done | (with_reducible rfl))
        try simp only [Act.put, List.getElem_toArray, List.getElem_cons_succ, List.getElem_cons_zero, List.setIfInBounds_toArray, List.set_cons_zero, List.set_cons_succ]
        refine wpAnyH_take (i := 4) (oi := _) (v := ?vl5) rfl (by kernel_rfl) (by kernel_rfl) (by kernel_rfl) (fun _ _ _ h => h) (Or.inl ⟨by kernel_rfl, ?hyl5⟩) hHeld ?restl5
        case hyl5 => (intro w hSw; have kgn' := keepC hSw gn'; have ky0 := keepC hSw y0; have ky1 := keepC hSw y1; go_simp; first | done | (with_reducible rfl))
        try simp only [Act.put, List.getElem_toArray, List.getElem_cons_succ, List.getElem_cons_zero, List.setIfInBounds_toArray, List.set_cons_zero, List.set_cons_succ]
        refine wpAnyH_take (i := 5) (oi := _) (v := ?vl6) rfl (by kernel_rfl) (by kernel_rfl) (by kernel_rfl) (fun _ _ _ h => h) (Or.inl ⟨by kernel_rfl, ?hyl6⟩) hHeld ?restl6
        case hyl6 => (intro w hSw; go_simp; first | done | (with_reducible rfl))
        try simp only [Act.put, List.getElem_toArray, List.getElem_cons_succ, List.getElem_cons_zero, List.setIfInBounds_toArray, List.set_cons_zero, List.set_cons_succ]
        refine wpAnyH_take (i := 6) (oi := _) (v := ?vl7) rfl (by kernel_rfl) (by kernel_rfl) (by kernel_rfl) (fun _ _ _ h => h) (Or.inl ⟨by kernel_rfl, ?hyl7⟩) hHeld ?restl7
        case hyl7 => (intro w hSw; have kgn' := keepC hSw gn'; have ky0 := keepC hSw y0; have ky1 := keepC hSw y1; go_simp; first | done | (with_reducible rfl))
        try simp only [Act.put, List.getElem_toArray, List.getElem_cons_succ, List.getElem_cons_zero, List.setIfInBounds_toArray, List.set_cons_zero, List.set_cons_succ]
        refine wpAnyH_take (i := 7) (oi := _) (v := ?vl8) rfl (by kernel_rfl) (by kernel_rfl) (by kernel_rfl) (fun _ _ _ h => h) (Or.inl ⟨by kernel_rfl, ?hyl8⟩) hHeld ?restl8
        case hyl8 => (intro w hSw; go_simp; first | done | (with_reducible rfl))
        try simp only [Act.put, List.getElem_toArray, List.getElem_cons_succ, List.getElem_cons_zero, List.setIfInBounds_toArray, List.set_cons_zero, List.set_cons_succ]
        refine wpAnyH_take (i := 8) (oi := _) (v := ?vl9) rfl (by kernel_rfl) (by kernel_rfl) (by kernel_rfl) (fun _ _ _ h => h) (Or.inl ⟨by kernel_rfl, ?hyl9⟩) hHeld ?restl9
        case hyl9 => (intro w hSw; go_simp; first | done | (with_reducible rfl))
        try simp only [Act.put, List.getElem_toArray, List.getElem_cons_succ, List.getElem_cons_zero, List.setIfInBounds_toArray, List.set_cons_zero, List.set_cons_succ]
        refine wpAnyH_take (i := 9) (oi := _) (v := ?vl10) rfl (by kernel_rfl) (by kernel_rfl) (by kernel_rfl) (fun _ _ _ h => h) (Or.inl ⟨by kernel_rfl, ?hyl10⟩) hHeld ?restl10
        case hyl10 => (intro w hSw; go_simp; first | done | (with_reducible rfl))
        try simp only [Act.put, List.getElem_toArray, List.getElem_cons_succ, List.getElem_cons_zero, List.setIfInBounds_toArray, List.set_cons_zero, List.set_cons_succ]
        refine wpAnyH_take (i := 10) (oi := _) (v := ?vl11) rfl (by kernel_rfl) (by kernel_rfl) (by kernel_rfl) (fun _ _ _ h => h) (Or.inl ⟨by kernel_rfl, ?hyl11⟩) hHeld ?restl11
        case hyl11 => (intro w hSw; have kgn' := keepC hSw gn'; have ky0 := keepC hSw y0; have ky1 := keepC hSw y1; go_simp; first | done | (with_reducible rfl))
        try simp only [Act.put, List.getElem_toArray, List.getElem_cons_succ, List.getElem_cons_zero, List.setIfInBounds_toArray, List.set_cons_zero, List.set_cons_succ]
        refine wpAnyH_take (i := 11) (oi := _) (v := ?vl12) rfl (by kernel_rfl) (by kernel_rfl) (by kernel_rfl) (fun _ _ _ h => h) (Or.inl ⟨by kernel_rfl, ?hyl12⟩) hHeld ?restl12
        case hyl12 => (intro w hSw; go_simp; first | done | (with_reducible rfl))
        try simp only [Act.put, List.getElem_toArray, List.getElem_cons_succ, List.getElem_cons_zero, List.setIfInBounds_toArray, List.set_cons_zero, List.set_cons_succ]
        refine wpAnyH_done (by kernel_rfl) ?_ _
        refine NoPanic.normal ?_
        replace hv := keepB hv hHeld
        clear hHeld gn' y0 y1
        go_wp2_with fail
        go_roundw
        case rel => exact ⟨j + 1, by omega, by go_num, hv⟩
        case measure => simp [intOf]; omega
    ·
      have gn' := keepC hv gn
      have hje : (j : Int) + 1 = (nd.length : Int) := by omega
      rw [hje]
      clear hje
      as_aux_lemma =>
        go_upto_region 12 with fail
        clear gn' gn HZ HNE
        replace B6 := B6.keep hv
        replace B7 := B7.keep hv
        replace B8 := B8.keep hv
        replace B9 := B9.keep hv
        replace Bn := Bn.keep hv
        replace hIn := hIn.keep hv
        replace hbb := keepB hbb hv
        clear hv
        clear hlt hj hnl
        refine at_worldQ (fun v => Below w.heap.size w v ∧ BK v (w.heap.size) [.int .i64 len, .slice K kn ck, .slice Z zn cz] ∧ BK v (w.heap.size + 1) [.int .i64 n1, .int .i64 d1] ∧ BK v (w.heap.size + 1 + 1) [.int .i64 n2, .int .i64 d2] ∧ BK v (w.heap.size + 1 + 1 + 1) [.int .i64 v1, .int .i64 v2] ∧ BK v (w2.heap.size) [.int .i64 len, .slice Kn nc.length ln, .slice (some ⟨bz, oz, none⟩) nd.length yn] ∧ IsCake v len Kn nc (some ⟨bz, oz, none⟩) nd) ⟨hbb, B6, B7, B8, B9, Bn, hIn⟩ (fun Vw9 hS => ?_)
        clear hbb B6 B7 B8 B9 Bn hIn
        obtain ⟨hbb, B6, B7, B8, B9, Bn, hIn⟩ := hS
        have b6_0 := B6.c 0 rfl
        have b6_1 := B6.c 1 rfl
        have b6_2 := B6.c 2 rfl
        have b7_0 := B7.c 0 rfl
        have b7_1 := B7.c 1 rfl
        go_wp2_with fail
        refine (CD.out _ hbb).mono ?_
        rintro e w10 ⟨rfl, hb⟩
        clear b6_0 b6_1 b6_2 b7_0 b7_1
        replace B6 := B6.keep hb
        replace B7 := B7.keep hb
        replace B8 := B8.keep hb
        replace B9 := B9.keep hb
        replace Bn := Bn.keep hb
        replace hIn := hIn.keep hb
        replace hbb := keepB hbb hb
        clear hb
        have b7_0 := B7.c 0 rfl
        have b7_1 := B7.c 1 rfl
        have bn_0 := Bn.c 0 rfl
        have bn_1 := Bn.c 1 rfl
        have bn_2 := Bn.c 2 rfl
        go_wp2_with fail
        refine (CDn.out _ _ _ _ _ hIn).mono ?_
        rintro e w11 ⟨rfl, hb⟩
        clear b7_0 b7_1 bn_0 bn_1 bn_2
        replace B6 := B6.keep hb
        replace B7 := B7.keep hb
        replace B8 := B8.keep hb
        replace B9 := B9.keep hb
        replace Bn := Bn.keep hb
        replace hIn := hIn.keep hb
        replace hbb := keepB hbb hb
        clear hb
        have b6_0 := B6.c 0 rfl
        have b6_1 := B6.c 1 rfl
        have b6_2 := B6.c 2 rfl
        have b7_0 := B7.c 0 rfl
        have b7_1 := B7.c 1 rfl
        have b8_0 := B8.c 0 rfl
        have b8_1 := B8.c 1 rfl
        go_wp2_with fail
        refine (CX.out K ck Z cz _ (H.out.keep hbb)).mono ?_
        rintro e w12 ⟨rfl, hb⟩
        clear b6_0 b6_1 b6_2 b7_0 b7_1 b8_0 b8_1
        replace B6 := B6.keep hb
        replace B7 := B7.keep hb
        replace B8 := B8.keep hb
        replace B9 := B9.keep hb
        replace Bn := Bn.keep hb
        replace hIn := hIn.keep hb
        replace hbb := keepB hbb hb
        clear hb
        go_upto_region 15 with fail
        refine at_worldQ (fun v => Below w.heap.size w v ∧ BK v (w.heap.size) [.int .i64 len, .slice K kn ck, .slice Z zn cz] ∧ BK v (w.heap.size + 1) [.int .i64 n1, .int .i64 d1] ∧ BK v (w.heap.size + 1 + 1) [.int .i64 n2, .int .i64 d2] ∧ BK v (w.heap.size + 1 + 1 + 1) [.int .i64 v1, .int .i64 v2] ∧ BK v (w2.heap.size) [.int .i64 len, .slice Kn nc.length ln, .slice (some ⟨bz, oz, none⟩) nd.length yn] ∧ BK v (w12.heap.size) [.int .i64 X1, .int .i64 X2] ∧ IsCake v len Kn nc (some ⟨bz, oz, none⟩) nd) ⟨(below_al hbb _), (B6.al _), (B7.al _), (B8.al _), (B9.al _), (Bn.al _), (BK.new _ _ _), hIn.keep (below_al (Below.refl _ _) _)⟩ (fun Vw13 hS => ?_)
        clear hbb B6 B7 B8 B9 Bn hIn
        obtain ⟨hbb, B6, B7, B8, B9, Bn, BX, hIn⟩ := hS
        have b7_0 := B7.c 0 rfl
        have b7_1 := B7.c 1 rfl
        have b8_0 := B8.c 0 rfl
        have b8_1 := B8.c 1 rfl
        have bn_0 := Bn.c 0 rfl
        have bn_1 := Bn.c 1 rfl
        have bn_2 := Bn.c 2 rfl
        go_wp2_with fail
        refine (CY.out _ _ _ _ _ hIn).mono ?_
        rintro e w14 ⟨rfl, hb⟩
        clear b7_0 b7_1 b8_0 b8_1 bn_0 bn_1 bn_2
        replace B6 := B6.keep hb
        replace B7 := B7.keep hb
        replace B8 := B8.keep hb
        replace B9 := B9.keep hb
        replace Bn := Bn.keep hb
        replace BX := BX.keep hb
        replace hIn := hIn.keep hb
        replace hbb := keepB hbb hb
        clear hb
        go_upto_region 16 with fail
        refine at_worldQ (fun v => Below w.heap.size w v ∧ BK v (w.heap.size) [.int .i64 len, .slice K kn ck, .slice Z zn cz] ∧ BK v (w.heap.size + 1) [.int .i64 n1, .int .i64 d1] ∧ BK v (w.heap.size + 1 + 1) [.int .i64 n2, .int .i64 d2] ∧ BK v (w.heap.size + 1 + 1 + 1) [.int .i64 v1, .int .i64 v2] ∧ BK v (w2.heap.size) [.int .i64 len, .slice Kn nc.length ln, .slice (some ⟨bz, oz, none⟩) nd.length yn] ∧ BK v (w12.heap.size) [.int .i64 X1, .int .i64 X2] ∧ BK v (w14.heap.size) [.int .i64 Y1, .int .i64 Y2] ∧ IsCake v len Kn nc (some ⟨bz, oz, none⟩) nd) ⟨(below_al hbb _), (B6.al _), (B7.al _), (B8.al _), (B9.al _), (Bn.al _), (BX.al _), (BK.new _ _ _), hIn.keep (below_al (Below.refl _ _) _)⟩ (fun Vw15 hS => ?_)
        clear hbb B6 B7 B8 B9 Bn BX hIn
        obtain ⟨hbb, B6, B7, B8, B9, Bn, BX, BY, hIn⟩ := hS
        have TT := Lib.hid TV.out
        go_cut [137] (fun t v => t = .bool false ∧ Below Vw15.heap.size Vw15 v)
        case first =>
          rcases TT.out with ⟨rfl, rfl, rfl, rfl⟩ | ⟨rfl, rfl, rfl, rfl⟩ | ⟨rfl, rfl, rfl, rfl⟩ | ⟨rfl, rfl, rfl, rfl, rfl, rfl⟩
          all_goals
            as_aux_lemma =>
              have m0 : (((0 : Int)) != 0) = false := rfl
              have m1 : (((0 : Int)) == 0) = true := rfl
              have m2 : (((16 : Int)) == 0) = false := rfl
              have g0 := BX.c 0 rfl
              have g1 := BX.c 1 rfl
              have g2 := BY.c 0 rfl
              have g3 := BY.c 1 rfl
              have m3 : (D1 != D1) = false := by simp
              go_wp2_with fail
              go_meet
              exact ⟨rfl, Below.refl _ _⟩
        case rest =>
          as_aux_lemma =>
            obtain ⟨rfl, hv⟩ := hcut
            clear TT
            go_upto_region 18 with fail
            replace B6 := B6.keep hv
            replace B7 := B7.keep hv
            replace B8 := B8.keep hv
            replace B9 := B9.keep hv
            replace Bn := Bn.keep hv
            replace BX := BX.keep hv
            replace BY := BY.keep hv
            replace hIn := hIn.keep hv
            replace hbb := keepB hbb hv
            clear hv
            clear BX BY
            refine at_worldQ (fun v => Below w.heap.size w v ∧ BK v (w.heap.size) [.int .i64 len, .slice K kn ck, .slice Z zn cz] ∧ BK v (w.heap.size + 1) [.int .i64 n1, .int .i64 d1] ∧ BK v (w.heap.size + 1 + 1) [.int .i64 n2, .int .i64 d2] ∧ BK v (w.heap.size + 1 + 1 + 1) [.int .i64 v1, .int .i64 v2] ∧ BK v (w2.heap.size) [.int .i64 len, .slice Kn nc.length ln, .slice (some ⟨bz, oz, none⟩) nd.length yn] ∧ IsCake v len Kn nc (some ⟨bz, oz, none⟩) nd) ⟨hbb, B6, B7, B8, B9, Bn, hIn⟩ (fun Vw16 hS => ?_)
            clear hbb B6 B7 B8 B9 Bn hIn
            obtain ⟨hbb, B6, B7, B8, B9, Bn, hIn⟩ := hS
            have b6_0 := B6.c 0 rfl
            have b6_1 := B6.c 1 rfl
            have b6_2 := B6.c 2 rfl
            have b7_0 := B7.c 0 rfl
            have b7_1 := B7.c 1 rfl
            have b9_0 := B9.c 0 rfl
            have b9_1 := B9.c 1 rfl
            go_wp2_with fail
            refine (CP.out K ck Z cz _ (H.out.keep hbb)).mono ?_
            rintro e w17 ⟨rfl, hb⟩
            clear b6_0 b6_1 b6_2 b7_0 b7_1 b9_0 b9_1
            replace B6 := B6.keep hb
            replace B7 := B7.keep hb
            replace B8 := B8.keep hb
            replace B9 := B9.keep hb
            replace Bn := Bn.keep hb
            replace hIn := hIn.keep hb
            replace hbb := keepB hbb hb
            clear hb
            go_upto_region 19 with fail
            refine at_worldQ (fun v => Below w.heap.size w v ∧ BK v (w.heap.size) [.int .i64 len, .slice K kn ck, .slice Z zn cz] ∧ BK v (w.heap.size + 1) [.int .i64 n1, .int .i64 d1] ∧ BK v (w.heap.size + 1 + 1) [.int .i64 n2, .int .i64 d2] ∧ BK v (w.heap.size + 1 + 1 + 1) [.int .i64 v1, .int .i64 v2] ∧ BK v (w2.heap.size) [.int .i64 len, .slice Kn nc.length ln, .slice (some ⟨bz, oz, none⟩) nd.length yn] ∧ BK v (w17.heap.size) [.int .i64 P1, .int .i64 P2] ∧ IsCake v len Kn nc (some ⟨bz, oz, none⟩) nd) ⟨(below_al hbb _), (B6.al _), (B7.al _), (B8.al _), (B9.al _), (Bn.al _), (BK.new _ _ _), hIn.keep (below_al (Below.refl _ _) _)⟩ (fun Vw18 hS => ?_)
            clear hbb B6 B7 B8 B9 Bn hIn
            obtain ⟨hbb, B6, B7, B8, B9, Bn, BP, hIn⟩ := hS
            have b7_0 := B7.c 0 rfl
            have b7_1 := B7.c 1 rfl
            have b9_0 := B9.c 0 rfl
            have b9_1 := B9.c 1 rfl
            have bn_0 := Bn.c 0 rfl
            have bn_1 := Bn.c 1 rfl
            have bn_2 := Bn.c 2 rfl
            go_wp2_with fail
            refine (CQ.out _ _ _ _ _ hIn).mono ?_
            rintro e w19 ⟨rfl, hb⟩
            clear b7_0 b7_1 b9_0 b9_1 bn_0 bn_1 bn_2
            replace B6 := B6.keep hb
            replace B7 := B7.keep hb
            replace B8 := B8.keep hb
            replace B9 := B9.keep hb
            replace Bn := Bn.keep hb
            replace BP := BP.keep hb
            replace hIn := hIn.keep hb
            replace hbb := keepB hbb hb
            clear hb
            go_upto_region 20 with fail
            refine at_worldQ (fun v => Below w.heap.size w v ∧ BK v (w.heap.size) [.int .i64 len, .slice K kn ck, .slice Z zn cz] ∧ BK v (w.heap.size + 1) [.int .i64 n1, .int .i64 d1] ∧ BK v (w.heap.size + 1 + 1) [.int .i64 n2, .int .i64 d2] ∧ BK v (w.heap.size + 1 + 1 + 1) [.int .i64 v1, .int .i64 v2] ∧ BK v (w2.heap.size) [.int .i64 len, .slice Kn nc.length ln, .slice (some ⟨bz, oz, none⟩) nd.length yn] ∧ BK v (w17.heap.size) [.int .i64 P1, .int .i64 P2] ∧ BK v (w19.heap.size) [.int .i64 Q1, .int .i64 Q2] ∧ IsCake v len Kn nc (some ⟨bz, oz, none⟩) nd) ⟨(below_al hbb _), (B6.al _), (B7.al _), (B8.al _), (B9.al _), (Bn.al _), (BP.al _), (BK.new _ _ _), hIn.keep (below_al (Below.refl _ _) _)⟩ (fun Vw20 hS => ?_)
            clear hbb B6 B7 B8 B9 Bn BP hIn
            obtain ⟨hbb, B6, B7, B8, B9, Bn, BP, BQ, hIn⟩ := hS
            have TT := Lib.hid TM.out
            go_cut [177] (fun t v => t = .bool false ∧ Below Vw20.heap.size Vw20 v)
            case first =>
              rcases TT.out with ⟨rfl, rfl, rfl, rfl⟩ | ⟨rfl, rfl, rfl, rfl⟩ | ⟨rfl, rfl, rfl, rfl⟩ | ⟨rfl, rfl, rfl, rfl, rfl, rfl⟩ | ⟨rfl, rfl, rfl, rfl, rfl, rfl⟩ | ⟨rfl, rfl, rfl, rfl, rfl, rfl⟩ | ⟨rfl, rfl, rfl, rfl, rfl, rfl⟩ | ⟨rfl, rfl, rfl, rfl, rfl, rfl⟩
              all_goals
                as_aux_lemma =>
                  have m0 : (((0 : Int)) != 0) = false := rfl
                  have m1 : (((0 : Int)) == 0) = true := rfl
                  have m2 : (((16 : Int)) == 0) = false := rfl
                  have g0 := BP.c 0 rfl
                  have g1 := BP.c 1 rfl
                  have g2 := BQ.c 0 rfl
                  have g3 := BQ.c 1 rfl
                  have u00 : (((0 : Int)) == 0) = true := rfl
                  have u06 : (((0 : Int)) == 6) = false := rfl
                  have u20 : (((2 : Int)) == 0) = false := rfl
                  have u26 : (((2 : Int)) == 6) = false := rfl
                  have u60 : (((6 : Int)) == 0) = false := rfl
                  have u66 : (((6 : Int)) == 6) = true := rfl
                  have u160 : (((16 : Int)) == 0) = false := rfl
                  have u166 : (((16 : Int)) == 6) = false := rfl
                  have z0 : (((0 : Int)) != 16) = true := rfl
                  have z2 : (((2 : Int)) != 16) = true := rfl
                  have z6 : (((6 : Int)) != 16) = true := rfl
                  have z16 : (((16 : Int)) != 16) = false := rfl
                  have zz : ((true : Bool) != true) = false := rfl
                  have zf : ((false : Bool) != false) = false := rfl
                  go_wp2_with fail
                  go_meet
                  exact ⟨rfl, Below.refl _ _⟩
            case rest =>
              as_aux_lemma =>
                obtain ⟨rfl, hv⟩ := hcut
                clear TT
                go_upto_region 22 with fail
                replace B6 := B6.keep hv
                replace B7 := B7.keep hv
                replace B8 := B8.keep hv
                replace B9 := B9.keep hv
                replace Bn := Bn.keep hv
                replace BP := BP.keep hv
                replace BQ := BQ.keep hv
                replace hIn := hIn.keep hv
                replace hbb := keepB hbb hv
                clear hv
                clear BP BQ Bn hIn
                refine at_worldQ (fun v => Below w.heap.size w v ∧ BK v (w.heap.size) [.int .i64 len, .slice K kn ck, .slice Z zn cz] ∧ BK v (w.heap.size + 1) [.int .i64 n1, .int .i64 d1] ∧ BK v (w.heap.size + 1 + 1) [.int .i64 n2, .int .i64 d2] ∧ BK v (w.heap.size + 1 + 1 + 1) [.int .i64 v1, .int .i64 v2]) ⟨hbb, B6, B7, B8, B9⟩ (fun Vw21 hS => ?_)
                clear hbb B6 B7 B8 B9
                obtain ⟨hbb, B6, B7, B8, B9⟩ := hS
                rcases HPA.out with ⟨hr, CR⟩ | ⟨hr, CR⟩ | ⟨hr, hkk, CR⟩
                · as_aux_lemma =>
                    have g0 : decide (fa < 0) = true ∨ (decide (fa < 0) = false ∧ decide (len < fb) = true) ∨ (decide (fa < 0) = false ∧ decide (len < fb) = false ∧ decide (fb ≤ fa) = true) := by
                      simp only [decide_eq_true_eq, decide_eq_false_iff_not]
                      omega
                    have G0 := Lib.hid g0
                    have CRH := Lib.hid CR
                    clear g0 CR hr
                    have b6_0 := B6.c 0 rfl
                    have b6_1 := B6.c 1 rfl
                    have b6_2 := B6.c 2 rfl
                    go_wp2_with fail
                    refine (CRH.out _ hbb).mono ?_
                    rintro e w22 ⟨Kr, lr, Zr, yr, rfl, _, hb⟩
                    clear b6_0 b6_1 b6_2
                    replace B6 := B6.keep hb
                    replace B7 := B7.keep hb
                    replace B8 := B8.keep hb
                    replace B9 := B9.keep hb
                    replace hbb := keepB hbb hb
                    clear hb
                    go_upto_region 23 with fail
                    refine at_worldQ (fun v => Below w.heap.size w v ∧ BK v (w.heap.size) [.int .i64 len, .slice K kn ck, .slice Z zn cz] ∧ BK v (w.heap.size + 1) [.int .i64 n1, .int .i64 d1] ∧ BK v (w.heap.size + 1 + 1) [.int .i64 n2, .int .i64 d2] ∧ BK v (w.heap.size + 1 + 1 + 1) [.int .i64 v1, .int .i64 v2]) ⟨(below_al hbb _), (B6.al _), (B7.al _), (B8.al _), (B9.al _)⟩ (fun Vw23 hS => ?_)
                    clear hbb B6 B7 B8 B9
                    obtain ⟨hbb, B6, B7, B8, B9⟩ := hS
                    have m0 : (((2 : Int)) != 0) = true := rfl
                    have m1 : (((2 : Int)) == 2) = true := rfl
                    have b6_0 := B6.c 0 rfl
                    have mb : ((true : Bool) == true) = true := rfl
                    rcases G0.out with g | ⟨g, g1⟩ | ⟨g, g1, g2⟩
                    all_goals
                      go_wp2_with fail
                      refine (alive2_any _).mono ?_
                      rintro e wz ⟨rfl, hb⟩
                      go_wp2_with fail
                      go_ret
                      exact ⟨by first | rfl | simp, keepB hbb hb⟩
                · as_aux_lemma =>
                    have g : decide (fa < 0) = false := decide_eq_false (by omega)
                    have g1 : decide (len < fb) = false := decide_eq_false (by omega)
                    have g2 : decide (fb ≤ fa) = false := decide_eq_false (by omega)
                    have CRH := Lib.hid CR
                    clear CR hr
                    have b6_0 := B6.c 0 rfl
                    have b6_1 := B6.c 1 rfl
                    have b6_2 := B6.c 2 rfl
                    go_wp2_with fail
                    refine (CRH.out _ hbb).mono ?_
                    rintro e w22 ⟨Kr, lr, Zr, yr, rfl, _, hb⟩
                    clear b6_0 b6_1 b6_2
                    replace B6 := B6.keep hb
                    replace B7 := B7.keep hb
                    replace B8 := B8.keep hb
                    replace B9 := B9.keep hb
                    replace hbb := keepB hbb hb
                    clear hb
                    go_upto_region 23 with fail
                    refine at_worldQ (fun v => Below w.heap.size w v ∧ BK v (w.heap.size) [.int .i64 len, .slice K kn ck, .slice Z zn cz] ∧ BK v (w.heap.size + 1) [.int .i64 n1, .int .i64 d1] ∧ BK v (w.heap.size + 1 + 1) [.int .i64 n2, .int .i64 d2] ∧ BK v (w.heap.size + 1 + 1 + 1) [.int .i64 v1, .int .i64 v2]) ⟨(below_al hbb _), (B6.al _), (B7.al _), (B8.al _), (B9.al _)⟩ (fun Vw23 hS => ?_)
                    clear hbb B6 B7 B8 B9
                    obtain ⟨hbb, B6, B7, B8, B9⟩ := hS
                    have m0 : (((6 : Int)) != 0) = true := rfl
                    have m1 : (((6 : Int)) == 2) = false := rfl
                    have m2 : (((6 : Int)) == 6) = true := rfl
                    have b6_0 := B6.c 0 rfl
                    have mb : ((false : Bool) == false) = true := rfl
                    go_wp2_with fail
                    refine (alive2_any _).mono ?_
                    rintro e wz ⟨rfl, hb⟩
                    go_wp2_with fail
                    go_ret
                    exact ⟨by first | rfl | simp, keepB hbb hb⟩
                · as_aux_lemma =>
                    have pt := part_tot (len := len) (cuts := cuts) (dens := dens) HC.out hr
                    have cw := fun v (hb : Below w.heap.size w v) => val_ints ck cz (H.out.keep hb) HC.out hr
                    rw [HKN.out, HZN.out] at cw
                    rw [HZN.out] at pt
                    obtain ⟨pc, hpc⟩ : ∃ pc, Ck.pC cuts fa fb zn = pc := ⟨_, rfl⟩
                    obtain ⟨pd, hpd⟩ : ∃ pd, Ck.pD cuts dens fa fb zn = pd := ⟨_, rfl⟩
                    obtain ⟨T, hT⟩ : ∃ T, Ck.vint cuts dens fa fb zn = T := ⟨_, rfl⟩
                    rw [hpc, hpd] at hkk CR pt
                    rw [hT] at pt cw
                    have ct := fun (Kr : Option Addr) (lr : Nat) (Zr : Option Addr) (yr : Nat) (v : World) (hI : IsCake v (fb - fa) Kr pc Zr pd) => ckTotal_any (fb - fa) Kr pc lr Zr pd yr v hI
                    rw [show Ck.totS (fb - fa) pc pd = (T, 0) by unfold Ck.totS; rw [if_pos hkk, pt]] at ct
                    have fw : IntKind.i64.wrap (fb - fa) = fb - fa := IntWalk.i64_in _ (by omega)
                    have CT := Lib.hid ct
                    have CW := Lib.hid cw
                    have CRH := Lib.hid CR
                    clear ct cw CR pt hkk hpc hpd hT hr
                    have b6_0 := B6.c 0 rfl
                    have b6_1 := B6.c 1 rfl
                    have b6_2 := B6.c 2 rfl
                    go_wp2_with fail
                    refine (CRH.out _ hbb).mono ?_
                    rintro e w22 ⟨Kr, lr, Zr, yr, rfl, hIr, hb⟩
                    clear b6_0 b6_1 b6_2
                    replace B6 := B6.keep hb
                    replace B7 := B7.keep hb
                    replace B8 := B8.keep hb
                    replace B9 := B9.keep hb
                    replace hbb := keepB hbb hb
                    clear hb
                    go_upto_region 23 with fail
                    refine at_worldQ (fun v => Below w.heap.size w v ∧ BK v (w.heap.size) [.int .i64 len, .slice K kn ck, .slice Z zn cz] ∧ BK v (w.heap.size + 1) [.int .i64 n1, .int .i64 d1] ∧ BK v (w.heap.size + 1 + 1) [.int .i64 n2, .int .i64 d2] ∧ BK v (w.heap.size + 1 + 1 + 1) [.int .i64 v1, .int .i64 v2] ∧ BK v (w22.heap.size) [.int .i64 (fb - fa), .slice Kr pc.length lr, .slice Zr pd.length yr] ∧ IsCake v (fb - fa) Kr pc Zr pd) ⟨(below_al hbb _), (B6.al _), (B7.al _), (B8.al _), (B9.al _), (BK.new _ _ _), hIr.keep (below_al (Below.refl _ _) _)⟩ (fun Vw23 hS => ?_)
                    clear hbb B6 B7 B8 B9 hIr
                    obtain ⟨hbb, B6, B7, B8, B9, Br, hIr⟩ := hS
                    have br_0 := Br.c 0 rfl
                    have br_1 := Br.c 1 rfl
                    have br_2 := Br.c 2 rfl
                    go_wp2_with fail
                    refine (CT.out _ _ _ _ _ hIr).mono ?_
                    rintro e w24 ⟨rfl, hb⟩
                    clear br_0 br_1 br_2
                    replace B6 := B6.keep hb
                    replace B7 := B7.keep hb
                    replace B8 := B8.keep hb
                    replace B9 := B9.keep hb
                    replace Br := Br.keep hb
                    replace hIr := hIr.keep hb
                    replace hbb := keepB hbb hb
                    clear hb
                    clear hIr
                    go_upto_region 26 with fail
                    refine at_worldQ (fun v => Below w.heap.size w v ∧ BK v (w.heap.size) [.int .i64 len, .slice K kn ck, .slice Z zn cz] ∧ BK v (w.heap.size + 1) [.int .i64 n1, .int .i64 d1] ∧ BK v (w.heap.size + 1 + 1) [.int .i64 n2, .int .i64 d2] ∧ BK v (w.heap.size + 1 + 1 + 1) [.int .i64 v1, .int .i64 v2] ∧ BK v (w22.heap.size) [.int .i64 (fb - fa), .slice Kr pc.length lr, .slice Zr pd.length yr]) ⟨hbb, B6, B7, B8, B9, Br⟩ (fun Vw25 hS => ?_)
                    clear hbb B6 B7 B8 B9 Br
                    obtain ⟨hbb, B6, B7, B8, B9, Br⟩ := hS
                    have c0 := B6.c 0 rfl
                    have c1 := B6.c 1 rfl
                    have c2 := B6.c 2 rfl
                    go_cut [34, 35] (fun x y v => ∃ p : Nat, x = .pointer (some ⟨p, 0, none⟩) ∧ y = .int .i64 0 ∧ BK v p [.int .i64 T, .int .i64 1] ∧ Below Vw25.heap.size Vw25 v)
                    case first =>
                      as_aux_lemma =>
                        refine wp_region_held_drew (S := (Below Vw25.heap.size Vw25)) (by kernel_rfl) ((Below.refl _ _).drew) (fun hHeld => ?_)
                        refine at_anyH (Below Vw25.heap.size Vw25) hHeld (fun wg0 hNew => ?_)
                        clear hHeld
                        have hHeld := hNew
                        clear hNew
                        refine wpAnyH_take (i := 0) (oi := _) (v := ?vg1) rfl (by kernel_rfl) (by kernel_rfl) (by kernel_rfl) (fun _ _ _ h => h) (Or.inl ⟨by kernel_rfl, ?hyg1⟩) hHeld ?restg1
                        case hyg1 => (intro w hSw; have kc0 := keepC hSw c0; have kc1 := keepC hSw c1; have kc2 := keepC hSw c2; go_simp; first | done | (with_reducible rfl))
                        try simp only [Act.put, List.getElem_toArray, List.getElem_cons_succ, List.getElem_cons_zero, List.setIfInBounds_toArray, List.set_cons_zero, List.set_cons_succ]
                        refine wpAnyH_take (i := 1) (oi := _) (v := ?vg2) rfl (by kernel_rfl) (by kernel_rfl) (by kernel_rfl) (fun _ _ _ h => h) (Or.inl ⟨by kernel_rfl, ?hyg2⟩) hHeld ?restg2
                        case hyg2 => (intro w hSw; go_simp; first | done | (with_reducible rfl))
                        try simp only [Act.put, List.getElem_toArray, List.getElem_cons_succ, List.getElem_cons_zero, List.setIfInBounds_toArray, List.set_cons_zero, List.set_cons_succ]
                        refine wpAnyH_take (i := 3) (oi := _) (v := ?vg3) rfl (by kernel_rfl) (by kernel_rfl) (by kernel_rfl) (fun _ _ _ h => h) (Or.inl ⟨by kernel_rfl, ?hyg3⟩) hHeld ?restg3
                        case hyg3 => (intro w hSw; go_simp; first | done | (with_reducible rfl))
                        try simp only [Act.put, List.getElem_toArray, List.getElem_cons_succ, List.getElem_cons_zero, List.setIfInBounds_toArray, List.set_cons_zero, List.set_cons_succ]
                        refine wpAnyH_ready (rs := [2, 9]) (by kernel_rfl) (by simp) (AllReadyH.cons (o := _) rfl (fun K hK => ?_) (AllReadyH.cons (o := _) rfl (fun K hK => ?_) AllReadyH.nil))
                        ·
                          go_simp
                          refine (of2_any _ _).mono ?_
                          rintro e wg4 ⟨rfl, hb3⟩
                          go_wp2_with fail
                          refine hK.out _ _ (keepB hHeld hb3) (fun hNew => ?_)
                          clear hb3
                          clear hHeld hK K
                          have hHeld := hNew
                          clear hNew
                          try simp only [Act.put, List.getElem_toArray, List.getElem_cons_succ, List.getElem_cons_zero, List.setIfInBounds_toArray, List.set_cons_zero, List.set_cons_succ]
                          refine wpAnyH_ready (rs := [4, 9]) (by kernel_rfl) (by simp) (AllReadyH.cons (o := _) rfl (fun K hK => ?_) (AllReadyH.cons (o := _) rfl (fun K hK => ?_) AllReadyH.nil))
                          ·
                            go_simp
                            refine (of2_any _ _).mono ?_
                            rintro e wg5 ⟨rfl, hb3⟩
                            go_wp2_with fail
                            refine hK.out _ _ (keepB hHeld hb3) (fun hNew => ?_)
                            clear hb3
                            clear hHeld hK K
                            have hHeld := hNew
                            clear hNew
                            try simp only [Act.put, List.getElem_toArray, List.getElem_cons_succ, List.getElem_cons_zero, List.setIfInBounds_toArray, List.set_cons_zero, List.set_cons_succ]
                            refine wpAnyH_ready (rs := [5, 9]) (by kernel_rfl) (by simp) (AllReadyH.cons (o := _) rfl (fun K hK => ?_) (AllReadyH.cons (o := _) rfl (fun K hK => ?_) AllReadyH.nil))
                            ·
                              go_simp
                              refine (CW.out _ (keepB hbb hHeld)).mono ?_
                              rintro e wg6 ⟨rfl, hb3⟩
                              go_wp2_with fail
                              refine hK.out _ _ (keepB hHeld hb3) (fun hNew => ?_)
                              clear hb3
                              clear hHeld hK K
                              have hHeld := hNew
                              clear hNew
                              try simp only [Act.put, List.getElem_toArray, List.getElem_cons_succ, List.getElem_cons_zero, List.setIfInBounds_toArray, List.set_cons_zero, List.set_cons_succ]
                              refine wpAnyH_take (i := 6) (oi := _) (v := ?vg7) rfl (by kernel_rfl) (by kernel_rfl) (by kernel_rfl) (fun _ _ _ h => h) (Or.inl ⟨by kernel_rfl, ?hyg7⟩) hHeld ?restg7
                              case hyg7 => (intro w hSw; go_simp; first | done | (with_reducible rfl))
                              try simp only [Act.put, List.getElem_toArray, List.getElem_cons_succ, List.getElem_cons_zero, List.setIfInBounds_toArray, List.set_cons_zero, List.set_cons_succ]
                              refine wpAnyH_take (i := 7) (oi := _) (v := ?vg8) rfl (by kernel_rfl) (by kernel_rfl) (by kernel_rfl) (fun _ _ _ h => h) (Or.inl ⟨by kernel_rfl, ?hyg8⟩) hHeld ?restg8
                              case hyg8 => (intro w hSw; go_simp; first | done | (with_reducible rfl))
                              try simp only [Act.put, List.getElem_toArray, List.getElem_cons_succ, List.getElem_cons_zero, List.setIfInBounds_toArray, List.set_cons_zero, List.set_cons_succ]
                              refine wpAnyH_take (i := 8) (oi := _) (v := ?vg9) rfl (by kernel_rfl) (by kernel_rfl) (by kernel_rfl) (fun _ _ _ h => h) (Or.inl ⟨by kernel_rfl, ?hyg9⟩) hHeld ?restg9
                              case hyg9 => (intro w hSw; go_simp; first | done | (with_reducible rfl))
                              try simp only [Act.put, List.getElem_toArray, List.getElem_cons_succ, List.getElem_cons_zero, List.setIfInBounds_toArray, List.set_cons_zero, List.set_cons_succ]
                              refine wpAnyH_ready (rs := [9]) (by kernel_rfl) (by simp) (AllReadyH.cons (o := _) rfl (fun K hK => ?_) AllReadyH.nil)
                              go_simp
                              refine hK.out _ _ (below_al hHeld _) (fun hNew => ?_)
                              have hP : Vw25.heap.size ≤ wg6.heap.size := hHeld.size
                              clear hHeld hK K
                              have hHeld := hNew
                              clear hNew
                              try simp only [Act.put, List.getElem_toArray, List.getElem_cons_succ, List.getElem_cons_zero, List.setIfInBounds_toArray, List.set_cons_zero, List.set_cons_succ]
                              refine at_anyH (fun v => Below Vw25.heap.size Vw25 v ∧ BK v wg6.heap.size [.int .i64 0, .int .i64 0]) ⟨hHeld, BK.new _ _ _⟩ (fun wg10 hS => ?_)
                              clear hHeld
                              obtain ⟨hHeld, BP⟩ := hS
                              refine wpAnyH_ready (rs := [10]) (by kernel_rfl) (by simp) (AllReadyH.cons (o := _) rfl (fun K hK => ?_) AllReadyH.nil)
                              have n0 := BP.c 0 rfl
                              have f0 := BP.f 0 rfl
                              have n1 := BP.c 1 rfl
                              have f1 := BP.f 1 rfl
                              go_simp
                              clear n0 f0 n1 f1
                              refine hK.out _ _ (below_set (below_set hHeld (by omega) _) (by omega) _) (fun hNew => ?_)
                              clear hHeld hK K
                              have hHeld := hNew
                              clear hNew
                              try simp only [Act.put, List.getElem_toArray, List.getElem_cons_succ, List.getElem_cons_zero, List.setIfInBounds_toArray, List.set_cons_zero, List.set_cons_succ]
                              refine at_anyH (fun v => Below Vw25.heap.size Vw25 v ∧ BK v wg6.heap.size [.int .i64 T, .int .i64 1]) ⟨hHeld, ((BP.set 0 _).set 1 _)⟩ (fun wg11 hS => ?_)
                              clear hHeld BP
                              obtain ⟨hHeld, BP⟩ := hS
                              refine wpAnyH_take (i := 11) (oi := _) (v := ?vg12) rfl (by kernel_rfl) (by kernel_rfl) (by kernel_rfl) (fun _ _ _ h => h) (Or.inl ⟨by kernel_rfl, ?hyg12⟩) hHeld ?restg12
                              case hyg12 => (intro w hSw; go_simp; first | done | (with_reducible rfl))
                              try simp only [Act.put, List.getElem_toArray, List.getElem_cons_succ, List.getElem_cons_zero, List.setIfInBounds_toArray, List.set_cons_zero, List.set_cons_succ]
                              refine wpAnyH_done (by kernel_rfl) ?_ _
                              go_wp2_with fail
                              go_meet
                              exact ⟨_, rfl, rfl, BP, hHeld⟩
                            ·
                              go_simp
                              refine hK.out _ _ (below_al hHeld _) (fun hNew => ?_)
                              have hP : Vw25.heap.size ≤ wg5.heap.size := hHeld.size
                              clear hHeld hK K
                              have hHeld := hNew
                              clear hNew
                              try simp only [Act.put, List.getElem_toArray, List.getElem_cons_succ, List.getElem_cons_zero, List.setIfInBounds_toArray, List.set_cons_zero, List.set_cons_succ]
                              refine at_anyH (fun v => Below Vw25.heap.size Vw25 v ∧ BK v wg5.heap.size [.int .i64 0, .int .i64 0]) ⟨hHeld, BK.new _ _ _⟩ (fun wg13 hS => ?_)
                              clear hHeld
                              obtain ⟨hHeld, BP⟩ := hS
                              refine wpAnyH_ready (rs := [5]) (by kernel_rfl) (by simp) (AllReadyH.cons (o := _) rfl (fun K hK => ?_) AllReadyH.nil)
                              go_simp
                              refine (CW.out _ (keepB hbb hHeld)).mono ?_
                              rintro e wg14 ⟨rfl, hb3⟩
                              go_wp2_with fail
                              refine hK.out _ _ (keepB hHeld hb3) (fun hNew => ?_)
                              replace BP := BP.keep hb3
                              clear hb3
                              clear hHeld hK K
                              have hHeld := hNew
                              clear hNew
                              try simp only [Act.put, List.getElem_toArray, List.getElem_cons_succ, List.getElem_cons_zero, List.setIfInBounds_toArray, List.set_cons_zero, List.set_cons_succ]
                              refine wpAnyH_take (i := 6) (oi := _) (v := ?vg15) rfl (by kernel_rfl) (by kernel_rfl) (by kernel_rfl) (fun _ _ _ h => h) (Or.inl ⟨by kernel_rfl, ?hyg15⟩) hHeld ?restg15
                              case hyg15 => (intro w hSw; go_simp; first | done | (with_reducible rfl))
                              try simp only [Act.put, List.getElem_toArray, List.getElem_cons_succ, List.getElem_cons_zero, List.setIfInBounds_toArray, List.set_cons_zero, List.set_cons_succ]
                              refine wpAnyH_take (i := 7) (oi := _) (v := ?vg16) rfl (by kernel_rfl) (by kernel_rfl) (by kernel_rfl) (fun _ _ _ h => h) (Or.inl ⟨by kernel_rfl, ?hyg16⟩) hHeld ?restg16
                              case hyg16 => (intro w hSw; go_simp; first | done | (with_reducible rfl))
                              try simp only [Act.put, List.getElem_toArray, List.getElem_cons_succ, List.getElem_cons_zero, List.setIfInBounds_toArray, List.set_cons_zero, List.set_cons_succ]
                              refine wpAnyH_take (i := 8) (oi := _) (v := ?vg17) rfl (by kernel_rfl) (by kernel_rfl) (by kernel_rfl) (fun _ _ _ h => h) (Or.inl ⟨by kernel_rfl, ?hyg17⟩) hHeld ?restg17
                              case hyg17 => (intro w hSw; go_simp; first | done | (with_reducible rfl))
                              try simp only [Act.put, List.getElem_toArray, List.getElem_cons_succ, List.getElem_cons_zero, List.setIfInBounds_toArray, List.set_cons_zero, List.set_cons_succ]
                              refine wpAnyH_ready (rs := [10]) (by kernel_rfl) (by simp) (AllReadyH.cons (o := _) rfl (fun K hK => ?_) AllReadyH.nil)
                              have n0 := BP.c 0 rfl
                              have f0 := BP.f 0 rfl
                              have n1 := BP.c 1 rfl
                              have f1 := BP.f 1 rfl
                              go_simp
                              clear n0 f0 n1 f1
                              refine hK.out _ _ (below_set (below_set hHeld (by omega) _) (by omega) _) (fun hNew => ?_)
                              clear hHeld hK K
                              have hHeld := hNew
                              clear hNew
                              try simp only [Act.put, List.getElem_toArray, List.getElem_cons_succ, List.getElem_cons_zero, List.setIfInBounds_toArray, List.set_cons_zero, List.set_cons_succ]
                              refine at_anyH (fun v => Below Vw25.heap.size Vw25 v ∧ BK v wg5.heap.size [.int .i64 T, .int .i64 1]) ⟨hHeld, ((BP.set 0 _).set 1 _)⟩ (fun wg18 hS => ?_)
                              clear hHeld BP
                              obtain ⟨hHeld, BP⟩ := hS
                              refine wpAnyH_take (i := 11) (oi := _) (v := ?vg19) rfl (by kernel_rfl) (by kernel_rfl) (by kernel_rfl) (fun _ _ _ h => h) (Or.inl ⟨by kernel_rfl, ?hyg19⟩) hHeld ?restg19
                              case hyg19 => (intro w hSw; go_simp; first | done | (with_reducible rfl))
                              try simp only [Act.put, List.getElem_toArray, List.getElem_cons_succ, List.getElem_cons_zero, List.setIfInBounds_toArray, List.set_cons_zero, List.set_cons_succ]
                              refine wpAnyH_done (by kernel_rfl) ?_ _
                              go_wp2_with fail
                              go_meet
                              exact ⟨_, rfl, rfl, BP, hHeld⟩
                          ·
                            go_simp
                            refine hK.out _ _ (below_al hHeld _) (fun hNew => ?_)
                            have hP : Vw25.heap.size ≤ wg4.heap.size := hHeld.size
                            clear hHeld hK K
                            have hHeld := hNew
                            clear hNew
                            try simp only [Act.put, List.getElem_toArray, List.getElem_cons_succ, List.getElem_cons_zero, List.setIfInBounds_toArray, List.set_cons_zero, List.set_cons_succ]
                            refine at_anyH (fun v => Below Vw25.heap.size Vw25 v ∧ BK v wg4.heap.size [.int .i64 0, .int .i64 0]) ⟨hHeld, BK.new _ _ _⟩ (fun wg20 hS => ?_)
                            clear hHeld
                            obtain ⟨hHeld, BP⟩ := hS
                            refine wpAnyH_ready (rs := [4]) (by kernel_rfl) (by simp) (AllReadyH.cons (o := _) rfl (fun K hK => ?_) AllReadyH.nil)
                            go_simp
                            refine (of2_any _ _).mono ?_
                            rintro e wg21 ⟨rfl, hb3⟩
                            go_wp2_with fail
                            refine hK.out _ _ (keepB hHeld hb3) (fun hNew => ?_)
                            replace BP := BP.keep hb3
                            clear hb3
                            clear hHeld hK K
                            have hHeld := hNew
                            clear hNew
                            try simp only [Act.put, List.getElem_toArray, List.getElem_cons_succ, List.getElem_cons_zero, List.setIfInBounds_toArray, List.set_cons_zero, List.set_cons_succ]
                            refine wpAnyH_ready (rs := [5]) (by kernel_rfl) (by simp) (AllReadyH.cons (o := _) rfl (fun K hK => ?_) AllReadyH.nil)
                            go_simp
                            refine (CW.out _ (keepB hbb hHeld)).mono ?_
                            rintro e wg22 ⟨rfl, hb3⟩
                            go_wp2_with fail
                            refine hK.out _ _ (keepB hHeld hb3) (fun hNew => ?_)
                            replace BP := BP.keep hb3
                            clear hb3
                            clear hHeld hK K
                            have hHeld := hNew
                            clear hNew
                            try simp only [Act.put, List.getElem_toArray, List.getElem_cons_succ, List.getElem_cons_zero, List.setIfInBounds_toArray, List.set_cons_zero, List.set_cons_succ]
                            refine wpAnyH_take (i := 6) (oi := _) (v := ?vg23) rfl (by kernel_rfl) (by kernel_rfl) (by kernel_rfl) (fun _ _ _ h => h) (Or.inl ⟨by kernel_rfl, ?hyg23⟩) hHeld ?restg23
                            case hyg23 => (intro w hSw; go_simp; first | done | (with_reducible rfl))
                            try simp only [Act.put, List.getElem_toArray, List.getElem_cons_succ, List.getElem_cons_zero, List.setIfInBounds_toArray, List.set_cons_zero, List.set_cons_succ]
                            refine wpAnyH_take (i := 7) (oi := _) (v := ?vg24) rfl (by kernel_rfl) (by kernel_rfl) (by kernel_rfl) (fun _ _ _ h => h) (Or.inl ⟨by kernel_rfl, ?hyg24⟩) hHeld ?restg24
                            case hyg24 => (intro w hSw; go_simp; first | done | (with_reducible rfl))
                            try simp only [Act.put, List.getElem_toArray, List.getElem_cons_succ, List.getElem_cons_zero, List.setIfInBounds_toArray, List.set_cons_zero, List.set_cons_succ]
                            refine wpAnyH_take (i := 8) (oi := _) (v := ?vg25) rfl (by kernel_rfl) (by kernel_rfl) (by kernel_rfl) (fun _ _ _ h => h) (Or.inl ⟨by kernel_rfl, ?hyg25⟩) hHeld ?restg25
                            case hyg25 => (intro w hSw; go_simp; first | done | (with_reducible rfl))
                            try simp only [Act.put, List.getElem_toArray, List.getElem_cons_succ, List.getElem_cons_zero, List.setIfInBounds_toArray, List.set_cons_zero, List.set_cons_succ]
                            refine wpAnyH_ready (rs := [10]) (by kernel_rfl) (by simp) (AllReadyH.cons (o := _) rfl (fun K hK => ?_) AllReadyH.nil)
                            have n0 := BP.c 0 rfl
                            have f0 := BP.f 0 rfl
                            have n1 := BP.c 1 rfl
                            have f1 := BP.f 1 rfl
                            go_simp
                            clear n0 f0 n1 f1
                            refine hK.out _ _ (below_set (below_set hHeld (by omega) _) (by omega) _) (fun hNew => ?_)
                            clear hHeld hK K
                            have hHeld := hNew
                            clear hNew
                            try simp only [Act.put, List.getElem_toArray, List.getElem_cons_succ, List.getElem_cons_zero, List.setIfInBounds_toArray, List.set_cons_zero, List.set_cons_succ]
                            refine at_anyH (fun v => Below Vw25.heap.size Vw25 v ∧ BK v wg4.heap.size [.int .i64 T, .int .i64 1]) ⟨hHeld, ((BP.set 0 _).set 1 _)⟩ (fun wg26 hS => ?_)
                            clear hHeld BP
                            obtain ⟨hHeld, BP⟩ := hS
                            refine wpAnyH_take (i := 11) (oi := _) (v := ?vg27) rfl (by kernel_rfl) (by kernel_rfl) (by kernel_rfl) (fun _ _ _ h => h) (Or.inl ⟨by kernel_rfl, ?hyg27⟩) hHeld ?restg27
                            case hyg27 => (intro w hSw; go_simp; first | done | (with_reducible rfl))
                            try simp only [Act.put, List.getElem_toArray, List.getElem_cons_succ, List.getElem_cons_zero, List.setIfInBounds_toArray, List.set_cons_zero, List.set_cons_succ]
                            refine wpAnyH_done (by kernel_rfl) ?_ _
                            go_wp2_with fail
                            go_meet
                            exact ⟨_, rfl, rfl, BP, hHeld⟩
                        ·
                          go_simp
                          refine hK.out _ _ (below_al hHeld _) (fun hNew => ?_)
                          have hP : Vw25.heap.size ≤ wg0.heap.size := hHeld.size
                          clear hHeld hK K
                          have hHeld := hNew
                          clear hNew
                          try simp only [Act.put, List.getElem_toArray, List.getElem_cons_succ, List.getElem_cons_zero, List.setIfInBounds_toArray, List.set_cons_zero, List.set_cons_succ]
                          refine at_anyH (fun v => Below Vw25.heap.size Vw25 v ∧ BK v wg0.heap.size [.int .i64 0, .int .i64 0]) ⟨hHeld, BK.new _ _ _⟩ (fun wg28 hS => ?_)
                          clear hHeld
                          obtain ⟨hHeld, BP⟩ := hS
                          refine wpAnyH_ready (rs := [2]) (by kernel_rfl) (by simp) (AllReadyH.cons (o := _) rfl (fun K hK => ?_) AllReadyH.nil)
                          go_simp
                          refine (of2_any _ _).mono ?_
                          rintro e wg29 ⟨rfl, hb3⟩
                          go_wp2_with fail
                          refine hK.out _ _ (keepB hHeld hb3) (fun hNew => ?_)
                          replace BP := BP.keep hb3
                          clear hb3
                          clear hHeld hK K
                          have hHeld := hNew
                          clear hNew
                          try simp only [Act.put, List.getElem_toArray, List.getElem_cons_succ, List.getElem_cons_zero, List.setIfInBounds_toArray, List.set_cons_zero, List.set_cons_succ]
                          refine wpAnyH_ready (rs := [4]) (by kernel_rfl) (by simp) (AllReadyH.cons (o := _) rfl (fun K hK => ?_) AllReadyH.nil)
                          go_simp
                          refine (of2_any _ _).mono ?_
                          rintro e wg30 ⟨rfl, hb3⟩
                          go_wp2_with fail
                          refine hK.out _ _ (keepB hHeld hb3) (fun hNew => ?_)
                          replace BP := BP.keep hb3
                          clear hb3
                          clear hHeld hK K
                          have hHeld := hNew
                          clear hNew
                          try simp only [Act.put, List.getElem_toArray, List.getElem_cons_succ, List.getElem_cons_zero, List.setIfInBounds_toArray, List.set_cons_zero, List.set_cons_succ]
                          refine wpAnyH_ready (rs := [5]) (by kernel_rfl) (by simp) (AllReadyH.cons (o := _) rfl (fun K hK => ?_) AllReadyH.nil)
                          go_simp
                          refine (CW.out _ (keepB hbb hHeld)).mono ?_
                          rintro e wg31 ⟨rfl, hb3⟩
                          go_wp2_with fail
                          refine hK.out _ _ (keepB hHeld hb3) (fun hNew => ?_)
                          replace BP := BP.keep hb3
                          clear hb3
                          clear hHeld hK K
                          have hHeld := hNew
                          clear hNew
                          try simp only [Act.put, List.getElem_toArray, List.getElem_cons_succ, List.getElem_cons_zero, List.setIfInBounds_toArray, List.set_cons_zero, List.set_cons_succ]
                          refine wpAnyH_take (i := 6) (oi := _) (v := ?vg32) rfl (by kernel_rfl) (by kernel_rfl) (by kernel_rfl) (fun _ _ _ h => h) (Or.inl ⟨by kernel_rfl, ?hyg32⟩) hHeld ?restg32
                          case hyg32 => (intro w hSw; go_simp; first | done | (with_reducible rfl))
                          try simp only [Act.put, List.getElem_toArray, List.getElem_cons_succ, List.getElem_cons_zero, List.setIfInBounds_toArray, List.set_cons_zero, List.set_cons_succ]
                          refine wpAnyH_take (i := 7) (oi := _) (v := ?vg33) rfl (by kernel_rfl) (by kernel_rfl) (by kernel_rfl) (fun _ _ _ h => h) (Or.inl ⟨by kernel_rfl, ?hyg33⟩) hHeld ?restg33
                          case hyg33 => (intro w hSw; go_simp; first | done | (with_reducible rfl))
                          try simp only [Act.put, List.getElem_toArray, List.getElem_cons_succ, List.getElem_cons_zero, List.setIfInBounds_toArray, List.set_cons_zero, List.set_cons_succ]
                          refine wpAnyH_take (i := 8) (oi := _) (v := ?vg34) rfl (by kernel_rfl) (by kernel_rfl) (by kernel_rfl) (fun _ _ _ h => h) (Or.inl ⟨by kernel_rfl, ?hyg34⟩) hHeld ?restg34
                          case hyg34 => (intro w hSw; go_simp; first | done | (with_reducible rfl))
                          try simp only [Act.put, List.getElem_toArray, List.getElem_cons_succ, List.getElem_cons_zero, List.setIfInBounds_toArray, List.set_cons_zero, List.set_cons_succ]
                          refine wpAnyH_ready (rs := [10]) (by kernel_rfl) (by simp) (AllReadyH.cons (o := _) rfl (fun K hK => ?_) AllReadyH.nil)
                          have n0 := BP.c 0 rfl
                          have f0 := BP.f 0 rfl
                          have n1 := BP.c 1 rfl
                          have f1 := BP.f 1 rfl
                          go_simp
                          clear n0 f0 n1 f1
                          refine hK.out _ _ (below_set (below_set hHeld (by omega) _) (by omega) _) (fun hNew => ?_)
                          clear hHeld hK K
                          have hHeld := hNew
                          clear hNew
                          try simp only [Act.put, List.getElem_toArray, List.getElem_cons_succ, List.getElem_cons_zero, List.setIfInBounds_toArray, List.set_cons_zero, List.set_cons_succ]
                          refine at_anyH (fun v => Below Vw25.heap.size Vw25 v ∧ BK v wg0.heap.size [.int .i64 T, .int .i64 1]) ⟨hHeld, ((BP.set 0 _).set 1 _)⟩ (fun wg35 hS => ?_)
                          clear hHeld BP
                          obtain ⟨hHeld, BP⟩ := hS
                          refine wpAnyH_take (i := 11) (oi := _) (v := ?vg36) rfl (by kernel_rfl) (by kernel_rfl) (by kernel_rfl) (fun _ _ _ h => h) (Or.inl ⟨by kernel_rfl, ?hyg36⟩) hHeld ?restg36
                          case hyg36 => (intro w hSw; go_simp; first | done | (with_reducible rfl))
                          try simp only [Act.put, List.getElem_toArray, List.getElem_cons_succ, List.getElem_cons_zero, List.setIfInBounds_toArray, List.set_cons_zero, List.set_cons_succ]
                          refine wpAnyH_done (by kernel_rfl) ?_ _
                          go_wp2_with fail
                          go_meet
                          exact ⟨_, rfl, rfl, BP, hHeld⟩
                    case rest =>
                      obtain ⟨p, rfl, rfl, BP, hv⟩ := hcut
                      clear c0 c1 c2
                      go_upto_region 27 with fail
                      replace B6 := B6.keep hv
                      replace B7 := B7.keep hv
                      replace B8 := B8.keep hv
                      replace B9 := B9.keep hv
                      replace Br := Br.keep hv
                      replace hbb := keepB hbb hv
                      clear hv
                      refine at_worldQ (fun v => Below w.heap.size w v ∧ BK v (w.heap.size) [.int .i64 len, .slice K kn ck, .slice Z zn cz] ∧ BK v (w.heap.size + 1) [.int .i64 n1, .int .i64 d1] ∧ BK v (w.heap.size + 1 + 1) [.int .i64 n2, .int .i64 d2] ∧ BK v (w.heap.size + 1 + 1 + 1) [.int .i64 v1, .int .i64 v2] ∧ BK v (w22.heap.size) [.int .i64 (fb - fa), .slice Kr pc.length lr, .slice Zr pd.length yr] ∧ BK v (p) [.int .i64 T, .int .i64 1]) ⟨hbb, B6, B7, B8, B9, Br, BP⟩ (fun Vw26 hS => ?_)
                      clear hbb B6 B7 B8 B9 Br BP
                      obtain ⟨hbb, B6, B7, B8, B9, Br, BP⟩ := hS
                      have c0 := Br.c 0 rfl
                      have p0 := BP.c 0 rfl
                      have p1 := BP.c 1 rfl
                      refine wp_region_noPanic ?_
                      refine wp_region_held_drew (S := (Below Vw26.heap.size Vw26)) (by kernel_rfl) ((Below.refl _ _).drew) (fun hHeld => ?_)
                      refine at_anyH (Below Vw26.heap.size Vw26) hHeld (fun wh0 hNew => ?_)
                      clear hHeld
                      have hHeld := hNew
                      clear hNew
                      refine wpAnyH_take (i := 0) (oi := _) (v := ?vh1) rfl (by kernel_rfl) (by kernel_rfl) (by kernel_rfl) (fun _ _ _ h => h) (Or.inl ⟨by kernel_rfl, ?hyh1⟩) hHeld ?resth1
                      case hyh1 => (intro w hSw; go_simp; first | done | (with_reducible rfl))
                      try simp only [Act.put, List.getElem_toArray, List.getElem_cons_succ, List.getElem_cons_zero, List.setIfInBounds_toArray, List.set_cons_zero, List.set_cons_succ]
                      refine wpAnyH_take (i := 1) (oi := _) (v := ?vh2) rfl (by kernel_rfl) (by kernel_rfl) (by kernel_rfl) (fun _ _ _ h => h) (Or.inl ⟨by kernel_rfl, ?hyh2⟩) hHeld ?resth2
                      case hyh2 => (intro w hSw; go_simp; first | done | (with_reducible rfl))
                      try simp only [Act.put, List.getElem_toArray, List.getElem_cons_succ, List.getElem_cons_zero, List.setIfInBounds_toArray, List.set_cons_zero, List.set_cons_succ]
                      refine wpAnyH_take (i := 2) (oi := _) (v := ?vh3) rfl (by kernel_rfl) (by kernel_rfl) (by kernel_rfl) (fun _ _ _ h => h) (Or.inl ⟨by kernel_rfl, ?hyh3⟩) hHeld ?resth3
                      case hyh3 => (intro w hSw; go_simp; first | done | (with_reducible rfl))
                      try simp only [Act.put, List.getElem_toArray, List.getElem_cons_succ, List.getElem_cons_zero, List.setIfInBounds_toArray, List.set_cons_zero, List.set_cons_succ]
                      refine wpAnyH_take (i := 3) (oi := _) (v := ?vh4) rfl (by kernel_rfl) (by kernel_rfl) (by kernel_rfl) (fun _ _ _ h => h) (Or.inl ⟨by kernel_rfl, ?hyh4⟩) hHeld ?resth4
                      case hyh4 => (intro w hSw; go_simp; first | done | (with_reducible rfl))
                      try simp only [Act.put, List.getElem_toArray, List.getElem_cons_succ, List.getElem_cons_zero, List.setIfInBounds_toArray, List.set_cons_zero, List.set_cons_succ]
                      refine wpAnyH_take (i := 4) (oi := _) (v := ?vh5) rfl (by kernel_rfl) (by kernel_rfl) (by kernel_rfl) (fun _ _ _ h => h) (Or.inl ⟨by kernel_rfl, ?hyh5⟩) hHeld ?resth5
                      case hyh5 => (intro w hSw; go_simp; first | done | (with_reducible rfl))
                      try simp only [Act.put, List.getElem_toArray, List.getElem_cons_succ, List.getElem_cons_zero, List.setIfInBounds_toArray, List.set_cons_zero, List.set_cons_succ]
                      refine wpAnyH_take (i := 5) (oi := _) (v := ?vh6) rfl (by kernel_rfl) (by kernel_rfl) (by kernel_rfl) (fun _ _ _ h => h) (Or.inl ⟨by kernel_rfl, ?hyh6⟩) hHeld ?resth6
                      case hyh6 => (intro w hSw; go_simp; first | done | (with_reducible rfl))
                      try simp only [Act.put, List.getElem_toArray, List.getElem_cons_succ, List.getElem_cons_zero, List.setIfInBounds_toArray, List.set_cons_zero, List.set_cons_succ]
                      refine wpAnyH_take (i := 6) (oi := _) (v := ?vh7) rfl (by kernel_rfl) (by kernel_rfl) (by kernel_rfl) (fun _ _ _ h => h) (Or.inl ⟨by kernel_rfl, ?hyh7⟩) hHeld ?resth7
                      case hyh7 => (intro w hSw; go_simp; first | done | (with_reducible rfl))
                      try simp only [Act.put, List.getElem_toArray, List.getElem_cons_succ, List.getElem_cons_zero, List.setIfInBounds_toArray, List.set_cons_zero, List.set_cons_succ]
                      refine wpAnyH_take (i := 7) (oi := _) (v := ?vh8) rfl (by kernel_rfl) (by kernel_rfl) (by kernel_rfl) (fun _ _ _ h => h) (Or.inl ⟨by kernel_rfl, ?hyh8⟩) hHeld ?resth8
                      case hyh8 => (intro w hSw; have kc0 := keepC hSw c0; have kp0 := keepC hSw p0; have kp1 := keepC hSw p1; go_simp; first | done | (with_reducible rfl))
                      try simp only [Act.put, List.getElem_toArray, List.getElem_cons_succ, List.getElem_cons_zero, List.setIfInBounds_toArray, List.set_cons_zero, List.set_cons_succ]
                      refine wpAnyH_take (i := 8) (oi := _) (v := ?vh9) rfl (by kernel_rfl) (by kernel_rfl) (by kernel_rfl) (fun _ _ _ h => h) (Or.inl ⟨by kernel_rfl, ?hyh9⟩) hHeld ?resth9
                      case hyh9 => (intro w hSw; go_simp; first | done | (with_reducible rfl))
                      try simp only [Act.put, List.getElem_toArray, List.getElem_cons_succ, List.getElem_cons_zero, List.setIfInBounds_toArray, List.set_cons_zero, List.set_cons_succ]
                      refine wpAnyH_ready (rs := [9]) (by kernel_rfl) (by simp) (AllReadyH.cons (o := _) rfl (fun K hK => ?_) AllReadyH.nil)
                      go_simp
                      refine (of2_any _ _).mono ?_
                      rintro e wh10 ⟨rfl, hb3⟩
                      go_wp2_with fail
                      refine hK.out _ _ (keepB hHeld hb3) (fun hNew => ?_)
                      clear hb3
                      clear hHeld hK K
                      have hHeld := hNew
                      clear hNew
                      try simp only [Act.put, List.getElem_toArray, List.getElem_cons_succ, List.getElem_cons_zero, List.setIfInBounds_toArray, List.set_cons_zero, List.set_cons_succ]
                      refine wpAnyH_take (i := 10) (oi := _) (v := ?vh11) rfl (by kernel_rfl) (by kernel_rfl) (by kernel_rfl) (fun _ _ _ h => h) (Or.inl ⟨by kernel_rfl, ?hyh11⟩) hHeld ?resth11
                      case hyh11 => (intro w hSw; go_simp; first | done | (with_reducible rfl))
                      try simp only [Act.put, List.getElem_toArray, List.getElem_cons_succ, List.getElem_cons_zero, List.setIfInBounds_toArray, List.set_cons_zero, List.set_cons_succ]
                      refine wpAnyH_take (i := 11) (oi := _) (v := ?vh12) rfl (by kernel_rfl) (by kernel_rfl) (by kernel_rfl) (fun _ _ _ h => h) (Or.inl ⟨by kernel_rfl, ?hyh12⟩) hHeld ?resth12
                      case hyh12 => (intro w hSw; go_simp; first | done | (with_reducible rfl))
                      try simp only [Act.put, List.getElem_toArray, List.getElem_cons_succ, List.getElem_cons_zero, List.setIfInBounds_toArray, List.set_cons_zero, List.set_cons_succ]
                      refine wpAnyH_take (i := 12) (oi := _) (v := ?vh13) rfl (by kernel_rfl) (by kernel_rfl) (by kernel_rfl) (fun _ _ _ h => h) (Or.inl ⟨by kernel_rfl, ?hyh13⟩) hHeld ?resth13
                      case hyh13 => (intro w hSw; go_simp; first | done | (with_reducible rfl))
                      try simp only [Act.put, List.getElem_toArray, List.getElem_cons_succ, List.getElem_cons_zero, List.setIfInBounds_toArray, List.set_cons_zero, List.set_cons_succ]
                      refine wpAnyH_take (i := 13) (oi := _) (v := ?vh14) rfl (by kernel_rfl) (by kernel_rfl) (by kernel_rfl) (fun _ _ _ h => h) (Or.inl ⟨by kernel_rfl, ?hyh14⟩) hHeld ?resth14
                      case hyh14 => (intro w hSw; go_simp; first | done | (with_reducible rfl))
                      try simp only [Act.put, List.getElem_toArray, List.getElem_cons_succ, List.getElem_cons_zero, List.setIfInBounds_toArray, List.set_cons_zero, List.set_cons_succ]
                      refine wpAnyH_take (i := 14) (oi := _) (v := ?vh15) rfl (by kernel_rfl) (by kernel_rfl) (by kernel_rfl) (fun _ _ _ h => h) (Or.inl ⟨by kernel_rfl, ?hyh15⟩) hHeld ?resth15
                      case hyh15 => (intro w hSw; have kc0 := keepC hSw c0; have kp0 := keepC hSw p0; have kp1 := keepC hSw p1; go_simp; first | done | (with_reducible rfl))
                      try simp only [Act.put, List.getElem_toArray, List.getElem_cons_succ, List.getElem_cons_zero, List.setIfInBounds_toArray, List.set_cons_zero, List.set_cons_succ]
                      refine wpAnyH_take (i := 15) (oi := _) (v := ?vh16) rfl (by kernel_rfl) (by kernel_rfl) (by kernel_rfl) (fun _ _ _ h => h) (Or.inl ⟨by kernel_rfl, ?hyh16⟩) hHeld ?resth16
                      case hyh16 => (intro w hSw; go_simp; first | done | (with_reducible rfl))
                      try simp only [Act.put, List.getElem_toArray, List.getElem_cons_succ, List.getElem_cons_zero, List.setIfInBounds_toArray, List.set_cons_zero, List.set_cons_succ]
                      refine wpAnyH_take (i := 16) (oi := _) (v := ?vh17) rfl (by kernel_rfl) (by kernel_rfl) (by kernel_rfl) (fun _ _ _ h => h) (Or.inl ⟨by kernel_rfl, ?hyh17⟩) hHeld ?resth17
                      case hyh17 => (intro w hSw; go_simp; first | done | (with_reducible rfl))
                      try simp only [Act.put, List.getElem_toArray, List.getElem_cons_succ, List.getElem_cons_zero, List.setIfInBounds_toArray, List.set_cons_zero, List.set_cons_succ]
                      refine wpAnyH_take (i := 17) (oi := _) (v := ?vh18) rfl (by kernel_rfl) (by kernel_rfl) (by kernel_rfl) (fun _ _ _ h => h) (Or.inl ⟨by kernel_rfl, ?hyh18⟩) hHeld ?resth18
                      case hyh18 => (intro w hSw; go_simp; first | done | (with_reducible rfl))
                      try simp only [Act.put, List.getElem_toArray, List.getElem_cons_succ, List.getElem_cons_zero, List.setIfInBounds_toArray, List.set_cons_zero, List.set_cons_succ]
                      refine wpAnyH_take (i := 18) (oi := _) (v := ?vh19) rfl (by kernel_rfl) (by kernel_rfl) (by kernel_rfl) (fun _ _ _ h => h) (Or.inl ⟨by kernel_rfl, ?hyh19⟩) hHeld ?resth19
                      case hyh19 => (intro w hSw; go_simp; first | done | (with_reducible rfl))
                      try simp only [Act.put, List.getElem_toArray, List.getElem_cons_succ, List.getElem_cons_zero, List.setIfInBounds_toArray, List.set_cons_zero, List.set_cons_succ]
                      refine wpAnyH_take (i := 19) (oi := _) (v := ?vh20) rfl (by kernel_rfl) (by kernel_rfl) (by kernel_rfl) (fun _ _ _ h => h) (Or.inl ⟨by kernel_rfl, ?hyh20⟩) hHeld ?resth20
                      case hyh20 => (intro w hSw; go_simp; first | done | (with_reducible rfl))
                      try simp only [Act.put, List.getElem_toArray, List.getElem_cons_succ, List.getElem_cons_zero, List.setIfInBounds_toArray, List.set_cons_zero, List.set_cons_succ]
                      refine wpAnyH_take (i := 20) (oi := _) (v := ?vh21) rfl (by kernel_rfl) (by kernel_rfl) (by kernel_rfl) (fun _ _ _ h => h) (Or.inl ⟨by kernel_rfl, ?hyh21⟩) hHeld ?resth21
                      case hyh21 => (intro w hSw; go_simp; first | done | (with_reducible rfl))
                      try simp only [Act.put, List.getElem_toArray, List.getElem_cons_succ, List.getElem_cons_zero, List.setIfInBounds_toArray, List.set_cons_zero, List.set_cons_succ]
                      refine wpAnyH_ready (rs := [21]) (by kernel_rfl) (by simp) (AllReadyH.cons (o := _) rfl (fun K hK => ?_) AllReadyH.nil)
                      go_simp
                      refine (alive2_any _).mono ?_
                      rintro e wh22 ⟨rfl, hb3⟩
                      go_wp2_with fail
                      refine hK.out _ _ (keepB hHeld hb3) (fun hNew => ?_)
                      clear hb3
                      clear hHeld hK K
                      have hHeld := hNew
                      clear hNew
                      try simp only [Act.put, List.getElem_toArray, List.getElem_cons_succ, List.getElem_cons_zero, List.setIfInBounds_toArray, List.set_cons_zero, List.set_cons_succ]
                      refine wpAnyH_take (i := 22) (oi := _) (v := ?vh23) rfl (by kernel_rfl) (by kernel_rfl) (by kernel_rfl) (fun _ _ _ h => h) (Or.inl ⟨by kernel_rfl, ?hyh23⟩) hHeld ?resth23
                      case hyh23 => (intro w hSw; go_simp; first | done | (with_reducible rfl))
                      try simp only [Act.put, List.getElem_toArray, List.getElem_cons_succ, List.getElem_cons_zero, List.setIfInBounds_toArray, List.set_cons_zero, List.set_cons_succ]
                      refine wpAnyH_take (i := 23) (oi := _) (v := ?vh24) rfl (by kernel_rfl) (by kernel_rfl) (by kernel_rfl) (fun _ _ _ h => h) (Or.inl ⟨by kernel_rfl, ?hyh24⟩) hHeld ?resth24
                      case hyh24 => (intro w hSw; go_simp; first | done | (with_reducible rfl))
                      try simp only [Act.put, List.getElem_toArray, List.getElem_cons_succ, List.getElem_cons_zero, List.setIfInBounds_toArray, List.set_cons_zero, List.set_cons_succ]
                      refine wpAnyH_done (by kernel_rfl) ?_ _
                      refine NoPanic.normal ?_
                      go_wp2_with fail
                      go_ret
                      exact ⟨by first | rfl | simp, keepB hbb hHeld⟩

theorem same_walk (len : Int) (K : Option Addr) (cuts : List Int) (ck : Nat) (Z : Option Addr) (dens : List Int) (cz : Nat) (n1 d1 n2 d2 v1 v2 fa fb : Int) (w : World) (h : IsCake w len K cuts Z dens) (hck : cuts.length ≤ ck) (hcz : dens.length ≤ cz) (n1l : -9223372036854775808 ≤ n1) (n1h : n1 ≤ 9223372036854775807) (d1l : -9223372036854775808 ≤ d1) (d1h : d1 ≤ 9223372036854775807) (n2l : -9223372036854775808 ≤ n2) (n2h : n2 ≤ 9223372036854775807) (d2l : -9223372036854775808 ≤ d2) (d2h : d2 ≤ 9223372036854775807) (v1l : -9223372036854775808 ≤ v1) (v1h : v1 ≤ 9223372036854775807) (v2l : -9223372036854775808 ≤ v2) (v2h : v2 ≤ 9223372036854775807) (fal : -9223372036854775808 ≤ fa) (fah : fa ≤ 9223372036854775807) (fbl : -9223372036854775808 ≤ fb) (fbh : fb ≤ 9223372036854775807) :
    Calls Try.prog 6 #[.agg #[.int .i64 len, .slice K cuts.length ck, .slice Z dens.length cz], .agg #[.int .i64 n1, .int .i64 d1], .agg #[.int .i64 n2, .int .i64 d2], .agg #[.int .i64 v1, .int .i64 v2], .int .i64 fa, .int .i64 fb] w fun e w' => e = .returned (.bool true) ∧ Below w.heap.size w w' := by
  cases hv : Ck.vld len cuts dens n1 d1 n2 d2 with
  | false => exact same_no len K cuts ck Z dens cz n1 d1 n2 d2 v1 v2 fa fb w h hck hcz ⟨n1l, n1h⟩ ⟨d1l, d1h⟩ ⟨n2l, n2h⟩ ⟨d2l, d2h⟩ ⟨v1l, v1h⟩ ⟨v2l, v2h⟩ ⟨fal, fah⟩ ⟨fbl, fbh⟩ hv
  | true => exact same_yes len K cuts ck Z dens cz n1 d1 n2 d2 v1 v2 fa fb w h hck hcz ⟨n1l, n1h⟩ ⟨d1l, d1h⟩ ⟨n2l, n2h⟩ ⟨d2l, d2h⟩ ⟨v1l, v1h⟩ ⟨v2l, v2h⟩ ⟨fal, fah⟩ ⟨fbl, fbh⟩ hv
end Go.Proofs.Ytomokdepndclpaa
