/- The walk of the law PieceAlgebra: it answers true. -/
import Derived.Test.YtomokdepndclpaaPlawm
namespace Go.Proofs.Ytomokdepndclpaa
open Go.RowKit
set_option linter.unusedSimpArgs false in
set_option linter.unusedVariables false in
set_option maxHeartbeats 16000000 in
set_option maxRecDepth 100000 in
theorem algebra_walk (A : Option Addr) (ca : Nat) (xs : List Raw) (B : Option Addr) (cb : Nat) (ys : List Raw) (n d : Int) (w : World) (hlx : xs.length ≤ maxLen) (ha : IsS w A xs) (hly : ys.length ≤ maxLen) (hb : IsS w B ys)
    (n0 : -9223372036854775808 ≤ n) (n1 : n ≤ 9223372036854775807) (d0 : -9223372036854775808 ≤ d) (d1 : d ≤ 9223372036854775807) :
    Calls Try.prog 10 #[.slice A xs.length ca, .slice B ys.length cb, .agg #[.int .i64 n, .int .i64 d]] w fun e w' => e = .returned (.bool true) ∧ Below w.heap.size w w' := by
  have va := fun v (hv : Below w.heap.size w v) => valid_any A ca xs v (ha.keep hv)
  have vb := fun v (hv : Below w.heap.size w v) => valid_any B cb ys v (hb.keep hv)
  have cr := fun v => rCheck_any n d v n0 n1 d0 d1
  by_cases h1 : Pc.validB xs = true
  case neg =>
    have h1 : Pc.validB xs = false := by simpa using h1
    rw [h1] at va
    have VA := Lib.hid va
    clear va vb cr ha hb h1 hlx hly n0 n1 d0 d1
    go_enter Try.func10, Try.ntmps10
    have hbb := below_al (Below.refl w.heap.size w) (.cells #[.int .i64 n, .int .i64 d] 30)
    have x0 := n20 w (.int .i64 n) (.int .i64 d) 30
    have x1 := n21 w (.int .i64 n) (.int .i64 d) 30
    go_wp2_with fail
    refine (VA.out _ hbb).mono ?_
    rintro e w1 ⟨rfl, hb3⟩
    replace x0 := keepC hb3 x0
    replace x1 := keepC hb3 x1
    replace hbb := keepB hbb hb3
    clear hb3
    go_wp2_with fail
    refine (palive_any _).mono ?_
    rintro e w2 ⟨rfl, hb3⟩
    replace x0 := keepC hb3 x0
    replace x1 := keepC hb3 x1
    replace hbb := keepB hbb hb3
    clear hb3
    go_wp2_with fail
    go_ret
    exact ⟨rfl, hbb⟩

  rw [h1] at va
  have VA := Lib.hid va
  by_cases h2 : Pc.validB ys = true
  case neg =>
    have h2 : Pc.validB ys = false := by simpa using h2
    rw [h2] at vb
    have VB := Lib.hid vb
    clear va vb cr ha hb h1 h2 hlx hly n0 n1 d0 d1
    go_enter Try.func10, Try.ntmps10
    have hbb := below_al (Below.refl w.heap.size w) (.cells #[.int .i64 n, .int .i64 d] 30)
    have x0 := n20 w (.int .i64 n) (.int .i64 d) 30
    have x1 := n21 w (.int .i64 n) (.int .i64 d) 30
    go_wp2_with fail
    refine (VA.out _ hbb).mono ?_
    rintro e w1 ⟨rfl, hb3⟩
    replace x0 := keepC hb3 x0
    replace x1 := keepC hb3 x1
    replace hbb := keepB hbb hb3
    clear hb3
    go_wp2_with fail
    refine (VB.out _ hbb).mono ?_
    rintro e w2 ⟨rfl, hb3⟩
    replace x0 := keepC hb3 x0
    replace x1 := keepC hb3 x1
    replace hbb := keepB hbb hb3
    clear hb3
    go_wp2_with fail
    refine (palive_any _).mono ?_
    rintro e w3 ⟨rfl, hb3⟩
    replace x0 := keepC hb3 x0
    replace x1 := keepC hb3 x1
    replace hbb := keepB hbb hb3
    clear hb3
    go_wp2_with fail
    go_ret
    exact ⟨rfl, hbb⟩

  rw [h2] at vb
  have VB := Lib.hid vb
  rcases chk_cases n d with ⟨e, ho⟩ | ⟨e, ho⟩
  case inr =>
    rw [e] at cr
    have CR := Lib.hid cr
    clear va vb cr ha hb h1 h2 hlx hly n0 n1 d0 d1 e ho
    go_enter Try.func10, Try.ntmps10
    have hbb := below_al (Below.refl w.heap.size w) (.cells #[.int .i64 n, .int .i64 d] 30)
    have x0 := n20 w (.int .i64 n) (.int .i64 d) 30
    have x1 := n21 w (.int .i64 n) (.int .i64 d) 30
    go_wp2_with fail
    refine (VA.out _ hbb).mono ?_
    rintro e w1 ⟨rfl, hb3⟩
    replace x0 := keepC hb3 x0
    replace x1 := keepC hb3 x1
    replace hbb := keepB hbb hb3
    clear hb3
    go_wp2_with fail
    refine (VB.out _ hbb).mono ?_
    rintro e w2 ⟨rfl, hb3⟩
    replace x0 := keepC hb3 x0
    replace x1 := keepC hb3 x1
    replace hbb := keepB hbb hb3
    clear hb3
    go_wp2_with fail
    refine (CR.out _).mono ?_
    rintro e w3 ⟨rfl, hb3⟩
    replace x0 := keepC hb3 x0
    replace x1 := keepC hb3 x1
    replace hbb := keepB hbb hb3
    clear hb3
    go_wp2_with fail
    refine (palive_any _).mono ?_
    rintro e w4 ⟨rfl, hb3⟩
    replace x0 := keepC hb3 x0
    replace x1 := keepC hb3 x1
    replace hbb := keepB hbb hb3
    clear hb3
    go_wp2_with fail
    go_ret
    exact ⟨rfl, hbb⟩

  rw [e] at cr
  have CR := Lib.hid cr
  obtain ⟨La, rfl, gA, lA⟩ := Pc.valid_good h1
  obtain ⟨Lb, rfl, gB, lB⟩ := Pc.valid_good h2
  have uu := Pc.opP_good (f := (fun x y => x || y)) rfl gA gB (by omega)
  have vv := Pc.opP_good (f := (fun x y => x || y)) rfl gB gA (by omega)
  have mm := Pc.opP_good (f := (fun x y => x && y)) rfl gA gB (by omega)
  have nn := Pc.opP_good (f := (fun x y => x && y)) rfl gB gA (by omega)
  have kk := Pc.opP_good (f := (fun x y => x && !y)) rfl gA gB (by omega)
  have lK := (Pc.opP_len (fun x y => x && !y) gA gB).2
  have jj := Pc.opP_good (f := (fun x y => x && !y)) rfl gA kk.1 (by omega)
  have eV : Pc.opP (fun x y => x || y) Lb La = Pc.opP (fun x y => x || y) La Lb := Pc.good_ext vv.1 uu.1 fun p => by rw [vv.2, uu.2]; exact Bool.or_comm _ _
  have eN : Pc.opP (fun x y => x && y) Lb La = Pc.opP (fun x y => x && y) La Lb := Pc.good_ext nn.1 mm.1 fun p => by rw [nn.2, mm.2]; exact Bool.and_comm _ _
  have eJ : Pc.opP (fun x y => x && !y) La (Pc.opP (fun x y => x && !y) La Lb) = Pc.opP (fun x y => x && y) La Lb := Pc.good_ext jj.1 mm.1 fun p => by
    rw [jj.2, kk.2, mm.2]
    generalize Pc.inn La p = x
    generalize Pc.inn Lb p = y
    cases x <;> cases y <;> rfl
  have sU := Pc.setS_op (f := (fun x y => x || y)) gA gB (by omega)
  have sV := Pc.setS_op (f := (fun x y => x || y)) gB gA (by omega)
  have sM := Pc.setS_op (f := (fun x y => x && y)) gA gB (by omega)
  have sN := Pc.setS_op (f := (fun x y => x && y)) gB gA (by omega)
  have sK := Pc.setS_op (f := (fun x y => x && !y)) gA gB (by omega)
  have sJ := Pc.setS_op (f := (fun x y => x && !y)) gA kk.1 (by omega)
  rw [eV] at sV
  rw [eN] at sN
  rw [eJ] at sJ
  have C1 := fun v (h : IsS v A (La.map Pc.raw)) (k : IsS v B (Lb.map Pc.raw)) => pUnion_any A B ca cb _ _ v h k
  have C2 := fun v (h : IsS v A (La.map Pc.raw)) (k : IsS v B (Lb.map Pc.raw)) => pUnion_any B A cb ca _ _ v k h
  have C3 := fun v (h : IsS v A (La.map Pc.raw)) (k : IsS v B (Lb.map Pc.raw)) => pMeet_any A B ca cb _ _ v h k
  have C4 := fun v (h : IsS v A (La.map Pc.raw)) (k : IsS v B (Lb.map Pc.raw)) => pMeet_any B A cb ca _ _ v k h
  have C5 := fun v (h : IsS v A (La.map Pc.raw)) (k : IsS v B (Lb.map Pc.raw)) => pMinus_any A B ca cb _ _ v h k
  have C6 := fun Z c v (h : IsS v A (La.map Pc.raw)) (k : IsS v Z ((Pc.opP (fun x y => x && !y) La Lb).map Pc.raw)) => pMinus_any A Z ca c _ _ v h k
  rw [sU] at C1
  rw [sV] at C2
  rw [sM] at C3
  rw [sN] at C4
  rw [sK] at C5
  rw [sJ] at C6
  have hU := Pc.hasS_good uu.1 ho
  have hM := Pc.hasS_good mm.1 ho
  have hK := Pc.hasS_good kk.1 ho
  have hAq := Pc.hasS_good gA ho
  have hBq := Pc.hasS_good gB ho
  rw [uu.2] at hU
  rw [mm.2] at hM
  rw [kk.2] at hK
  have K1 := fun Z c v (h : IsS v Z ((Pc.opP (fun x y => x || y) La Lb).map Pc.raw)) => rChk_any Z c _ v h
  have K2 := fun Z c v (h : IsS v Z ((Pc.opP (fun x y => x && y) La Lb).map Pc.raw)) => rChk_any Z c _ v h
  have K3 := fun Z c v (h : IsS v Z ((Pc.opP (fun x y => x && !y) La Lb).map Pc.raw)) => rChk_any Z c _ v h
  rw [Pc.chk_of_good uu.1] at K1
  rw [Pc.chk_of_good mm.1] at K2
  rw [Pc.chk_of_good kk.1] at K3
  have H1 := fun v (h : IsS v A (La.map Pc.raw)) => pHas_any A ca _ n d v ⟨n0, n1⟩ ⟨d0, d1⟩ h
  have H2 := fun v (h : IsS v B (Lb.map Pc.raw)) => pHas_any B cb _ n d v ⟨n0, n1⟩ ⟨d0, d1⟩ h
  have H3 := fun Z c v (h : IsS v Z ((Pc.opP (fun x y => x || y) La Lb).map Pc.raw)) => pHas_any Z c _ n d v ⟨n0, n1⟩ ⟨d0, d1⟩ h
  have H4 := fun Z c v (h : IsS v Z ((Pc.opP (fun x y => x && y) La Lb).map Pc.raw)) => pHas_any Z c _ n d v ⟨n0, n1⟩ ⟨d0, d1⟩ h
  have H5 := fun Z c v (h : IsS v Z ((Pc.opP (fun x y => x && !y) La Lb).map Pc.raw)) => pHas_any Z c _ n d v ⟨n0, n1⟩ ⟨d0, d1⟩ h
  rw [hAq] at H1
  rw [hBq] at H2
  rw [hU] at H3
  rw [hM] at H4
  rw [hK] at H5
  have S1 := fun Z Z' c c' v h k => rpSame_any Z Z' c c' ((Pc.opP (fun x y => x || y) La Lb).map Pc.raw) v h k
  have S2 := fun Z Z' c c' v h k => rpSame_any Z Z' c c' ((Pc.opP (fun x y => x && y) La Lb).map Pc.raw) v h k
  rw [List.length_map] at K1 K2 K3 H1 H2 H3 H4 H5 S1 S2
  simp only [List.length_map] at C1 C2 C3 C4 C5 C6 VA VB ⊢
  have fU := uu.1.fit
  have fM := mm.1.fit
  have fK := kk.1.fit
  have fUL : (Pc.opP (fun x y => x || y) La Lb).length ≤ maxLen := by have := uu.1.len; unfold maxLen; omega
  have fML : (Pc.opP (fun x y => x && y) La Lb).length ≤ maxLen := by have := mm.1.len; unfold maxLen; omega
  have fKL : (Pc.opP (fun x y => x && !y) La Lb).length ≤ maxLen := by have := kk.1.len; unfold maxLen; omega
  clear va vb cr h1 h2 hlx hly n0 n1 d0 d1 e ho gA gB lA lB uu vv mm nn kk lK jj eV eN eJ sU sV sM sN sK sJ hU hM hK hAq hBq
  generalize Pc.opP (fun x y => x || y) La Lb = U at *
  generalize Pc.opP (fun x y => x && y) La Lb = M at *
  generalize Pc.opP (fun x y => x && !y) La Lb = K at *
  generalize Pc.inn La (Rp.q n d) = x at *
  generalize Pc.inn Lb (Rp.q n d) = y at *
  dsimp only at C1 C2 C3 C4 C5 C6 H1 H2 H3 H4 H5
  have XC1 := Lib.hid C1
  clear C1
  have XC2 := Lib.hid C2
  clear C2
  have XC3 := Lib.hid C3
  clear C3
  have XC4 := Lib.hid C4
  clear C4
  have XC5 := Lib.hid C5
  clear C5
  have XC6 := Lib.hid C6
  clear C6
  have XK1 := Lib.hid K1
  clear K1
  have XK2 := Lib.hid K2
  clear K2
  have XK3 := Lib.hid K3
  clear K3
  have XH1 := Lib.hid H1
  clear H1
  have XH2 := Lib.hid H2
  clear H2
  have XH3 := Lib.hid H3
  clear H3
  have XH4 := Lib.hid H4
  clear H4
  have XH5 := Lib.hid H5
  clear H5
  have XS1 := Lib.hid S1
  clear S1
  have XS2 := Lib.hid S2
  clear S2
  have XfU := Lib.hid fU
  clear fU
  have XfM := Lib.hid fM
  clear fM
  have XfK := Lib.hid fK
  clear fK
  have XfUL := Lib.hid fUL
  clear fUL
  have XfML := Lib.hid fML
  clear fML
  have XfKL := Lib.hid fKL
  clear fKL
  go_enter Try.func10, Try.ntmps10
  have hbb := below_al (Below.refl w.heap.size w) (.cells #[.int .i64 n, .int .i64 d] 30)
  have x0 := n20 w (.int .i64 n) (.int .i64 d) 30
  have x1 := n21 w (.int .i64 n) (.int .i64 d) 30
  have Ia := ha.keep (below_al (Below.refl w.heap.size w) (.cells #[.int .i64 n, .int .i64 d] 30))
  have Ib := hb.keep (below_al (Below.refl w.heap.size w) (.cells #[.int .i64 n, .int .i64 d] 30))
  clear ha hb
  go_wp2_with fail
  refine (VA.out _ hbb).mono ?_
  rintro e w1 ⟨rfl, hb3⟩
  replace Ia := Ia.keep hb3
  replace Ib := Ib.keep hb3
  replace x0 := keepC hb3 x0
  replace x1 := keepC hb3 x1
  replace hbb := keepB hbb hb3
  clear hb3
  go_wp2_with fail
  refine (VB.out _ hbb).mono ?_
  rintro e w2 ⟨rfl, hb3⟩
  replace Ia := Ia.keep hb3
  replace Ib := Ib.keep hb3
  replace x0 := keepC hb3 x0
  replace x1 := keepC hb3 x1
  replace hbb := keepB hbb hb3
  clear hb3
  go_wp2_with fail
  refine (CR.out _).mono ?_
  rintro e w3 ⟨rfl, hb3⟩
  replace Ia := Ia.keep hb3
  replace Ib := Ib.keep hb3
  replace x0 := keepC hb3 x0
  replace x1 := keepC hb3 x1
  replace hbb := keepB hbb hb3
  clear hb3
  go_wp2_with fail
  refine (XC1.out _ Ia Ib).mono ?_
  rintro e w4 ⟨v1, rfl, hv1⟩
  have hb3 := hv1.bb
  obtain ⟨Z1, c1, rfl, -⟩ := row_cap hv1.row
  have I1 := isS_row hv1.row rfl XfU.out XfUL.out
  clear hv1
  replace Ia := Ia.keep hb3
  replace Ib := Ib.keep hb3
  replace x0 := keepC hb3 x0
  replace x1 := keepC hb3 x1
  replace hbb := keepB hbb hb3
  clear hb3
  go_wp2_with fail
  refine (XC2.out _ Ia Ib).mono ?_
  rintro e w5 ⟨v2, rfl, hv2⟩
  have hb3 := hv2.bb
  obtain ⟨Z2, c2, rfl, -⟩ := row_cap hv2.row
  have I2 := isS_row hv2.row rfl XfU.out XfUL.out
  clear hv2
  replace Ia := Ia.keep hb3
  replace Ib := Ib.keep hb3
  replace I1 := I1.keep hb3
  replace x0 := keepC hb3 x0
  replace x1 := keepC hb3 x1
  replace hbb := keepB hbb hb3
  clear hb3
  go_wp2_with fail
  refine (XC3.out _ Ia Ib).mono ?_
  rintro e w6 ⟨v3, rfl, hv3⟩
  have hb3 := hv3.bb
  obtain ⟨Z3, c3, rfl, -⟩ := row_cap hv3.row
  have I3 := isS_row hv3.row rfl XfM.out XfML.out
  clear hv3
  replace Ia := Ia.keep hb3
  replace Ib := Ib.keep hb3
  replace I1 := I1.keep hb3
  replace I2 := I2.keep hb3
  replace x0 := keepC hb3 x0
  replace x1 := keepC hb3 x1
  replace hbb := keepB hbb hb3
  clear hb3
  go_wp2_with fail
  refine (XC4.out _ Ia Ib).mono ?_
  rintro e w7 ⟨v4, rfl, hv4⟩
  have hb3 := hv4.bb
  obtain ⟨Z4, c4, rfl, -⟩ := row_cap hv4.row
  have I4 := isS_row hv4.row rfl XfM.out XfML.out
  clear hv4
  replace Ia := Ia.keep hb3
  replace Ib := Ib.keep hb3
  replace I1 := I1.keep hb3
  replace I2 := I2.keep hb3
  replace I3 := I3.keep hb3
  replace x0 := keepC hb3 x0
  replace x1 := keepC hb3 x1
  replace hbb := keepB hbb hb3
  clear hb3
  go_wp2_with fail
  refine (XC5.out _ Ia Ib).mono ?_
  rintro e w8 ⟨v5, rfl, hv5⟩
  have hb3 := hv5.bb
  obtain ⟨Z5, c5, rfl, -⟩ := row_cap hv5.row
  have I5 := isS_row hv5.row rfl XfK.out XfKL.out
  clear hv5
  replace Ia := Ia.keep hb3
  replace Ib := Ib.keep hb3
  replace I1 := I1.keep hb3
  replace I2 := I2.keep hb3
  replace I3 := I3.keep hb3
  replace I4 := I4.keep hb3
  replace x0 := keepC hb3 x0
  replace x1 := keepC hb3 x1
  replace hbb := keepB hbb hb3
  clear hb3
  go_wp2_with fail
  refine (XC6.out Z5 c5 _ Ia I5).mono ?_
  rintro e w9 ⟨v6, rfl, hv6⟩
  have hb3 := hv6.bb
  obtain ⟨Z6, c6, rfl, -⟩ := row_cap hv6.row
  have I6 := isS_row hv6.row rfl XfM.out XfML.out
  clear hv6
  replace Ia := Ia.keep hb3
  replace Ib := Ib.keep hb3
  replace I1 := I1.keep hb3
  replace I2 := I2.keep hb3
  replace I3 := I3.keep hb3
  replace I4 := I4.keep hb3
  replace I5 := I5.keep hb3
  replace x0 := keepC hb3 x0
  replace x1 := keepC hb3 x1
  replace hbb := keepB hbb hb3
  clear hb3
  have e0 : ((0 : Int) != 0) = false := rfl
  have e1 : ((0 : Int) == 0) = true := rfl
  go_wp2_with fail
  refine (XS1.out Z1 Z2 c1 c2 _ I1 I2).mono ?_
  rintro e w10 ⟨rfl, hb3⟩
  replace Ia := Ia.keep hb3
  replace Ib := Ib.keep hb3
  replace I1 := I1.keep hb3
  replace I2 := I2.keep hb3
  replace I3 := I3.keep hb3
  replace I4 := I4.keep hb3
  replace I5 := I5.keep hb3
  replace I6 := I6.keep hb3
  replace x0 := keepC hb3 x0
  replace x1 := keepC hb3 x1
  replace hbb := keepB hbb hb3
  clear hb3
  go_wp2_with fail
  refine (XS2.out Z3 Z4 c3 c4 _ I3 I4).mono ?_
  rintro e w11 ⟨rfl, hb3⟩
  replace Ia := Ia.keep hb3
  replace Ib := Ib.keep hb3
  replace I1 := I1.keep hb3
  replace I2 := I2.keep hb3
  replace I3 := I3.keep hb3
  replace I4 := I4.keep hb3
  replace I5 := I5.keep hb3
  replace I6 := I6.keep hb3
  replace x0 := keepC hb3 x0
  replace x1 := keepC hb3 x1
  replace hbb := keepB hbb hb3
  clear hb3
  go_wp2_with fail
  refine (XS2.out Z6 Z3 c6 c3 _ I6 I3).mono ?_
  rintro e w12 ⟨rfl, hb3⟩
  replace Ia := Ia.keep hb3
  replace Ib := Ib.keep hb3
  replace I1 := I1.keep hb3
  replace I2 := I2.keep hb3
  replace I3 := I3.keep hb3
  replace I4 := I4.keep hb3
  replace I5 := I5.keep hb3
  replace I6 := I6.keep hb3
  replace x0 := keepC hb3 x0
  replace x1 := keepC hb3 x1
  replace hbb := keepB hbb hb3
  clear hb3
  go_wp2_with fail
  refine (XK1.out Z1 c1 _ I1).mono ?_
  rintro e w13 ⟨rfl, hb3⟩
  replace Ia := Ia.keep hb3
  replace Ib := Ib.keep hb3
  replace I1 := I1.keep hb3
  replace I2 := I2.keep hb3
  replace I3 := I3.keep hb3
  replace I4 := I4.keep hb3
  replace I5 := I5.keep hb3
  replace I6 := I6.keep hb3
  replace x0 := keepC hb3 x0
  replace x1 := keepC hb3 x1
  replace hbb := keepB hbb hb3
  clear hb3
  go_wp2_with fail
  refine (XK2.out Z3 c3 _ I3).mono ?_
  rintro e w14 ⟨rfl, hb3⟩
  replace Ia := Ia.keep hb3
  replace Ib := Ib.keep hb3
  replace I1 := I1.keep hb3
  replace I2 := I2.keep hb3
  replace I3 := I3.keep hb3
  replace I4 := I4.keep hb3
  replace I5 := I5.keep hb3
  replace I6 := I6.keep hb3
  replace x0 := keepC hb3 x0
  replace x1 := keepC hb3 x1
  replace hbb := keepB hbb hb3
  clear hb3
  go_wp2_with fail
  refine (XK3.out Z5 c5 _ I5).mono ?_
  rintro e w15 ⟨rfl, hb3⟩
  replace Ia := Ia.keep hb3
  replace Ib := Ib.keep hb3
  replace I1 := I1.keep hb3
  replace I2 := I2.keep hb3
  replace I3 := I3.keep hb3
  replace I4 := I4.keep hb3
  replace I5 := I5.keep hb3
  replace I6 := I6.keep hb3
  replace x0 := keepC hb3 x0
  replace x1 := keepC hb3 x1
  replace hbb := keepB hbb hb3
  clear hb3
  clear I2 I4 I6
  go_wp2_with fail
  refine (XH1.out _ Ia).mono ?_
  rintro e w16 ⟨rfl, hb3⟩
  replace Ia := Ia.keep hb3
  replace Ib := Ib.keep hb3
  replace I1 := I1.keep hb3
  replace I3 := I3.keep hb3
  replace I5 := I5.keep hb3
  replace x0 := keepC hb3 x0
  replace x1 := keepC hb3 x1
  replace hbb := keepB hbb hb3
  clear hb3
  go_wp2_with fail
  refine (XH2.out _ Ib).mono ?_
  rintro e w17 ⟨rfl, hb3⟩
  replace Ia := Ia.keep hb3
  replace Ib := Ib.keep hb3
  replace I1 := I1.keep hb3
  replace I3 := I3.keep hb3
  replace I5 := I5.keep hb3
  replace x0 := keepC hb3 x0
  replace x1 := keepC hb3 x1
  replace hbb := keepB hbb hb3
  clear hb3
  go_wp2_with fail
  refine (XH3.out Z1 c1 _ I1).mono ?_
  rintro e w18 ⟨rfl, hb3⟩
  replace Ia := Ia.keep hb3
  replace Ib := Ib.keep hb3
  replace I1 := I1.keep hb3
  replace I3 := I3.keep hb3
  replace I5 := I5.keep hb3
  replace x0 := keepC hb3 x0
  replace x1 := keepC hb3 x1
  replace hbb := keepB hbb hb3
  clear hb3
  go_wp2_with fail
  refine (XH4.out Z3 c3 _ I3).mono ?_
  rintro e w19 ⟨rfl, hb3⟩
  replace Ia := Ia.keep hb3
  replace Ib := Ib.keep hb3
  replace I1 := I1.keep hb3
  replace I3 := I3.keep hb3
  replace I5 := I5.keep hb3
  replace x0 := keepC hb3 x0
  replace x1 := keepC hb3 x1
  replace hbb := keepB hbb hb3
  clear hb3
  go_wp2_with fail
  refine (XH5.out Z5 c5 _ I5).mono ?_
  rintro e w20 ⟨rfl, hb3⟩
  replace Ia := Ia.keep hb3
  replace Ib := Ib.keep hb3
  replace I1 := I1.keep hb3
  replace I3 := I3.keep hb3
  replace I5 := I5.keep hb3
  replace x0 := keepC hb3 x0
  replace x1 := keepC hb3 x1
  replace hbb := keepB hbb hb3
  clear hb3
  clear Ia Ib I1 I3 I5 x0 x1
  go_upto_region 16 with fail
  cases x <;> cases y
  all_goals as_aux_lemma =>
    go_wp2_with fail
    refine (palive_any _).mono ?_
    rintro e w21 ⟨rfl, hb3⟩
    replace hbb := keepB hbb hb3
    clear hb3
    go_wp2_with fail
    go_ret
    exact ⟨by first | rfl | simp, hbb⟩
end Go.Proofs.Ytomokdepndclpaa
