/- The walk of the law PieceCuts: it answers true. -/
import Derived.Test.YtomokdepndclpaaPlawm
namespace Go.Proofs.Ytomokdepndclpaa
open Go.RowKit
namespace Pc
theorem even_swp2 (f : Bool → Bool → Bool) (hf : ∀ y, f false y = false) {a b : List Rat} (ha : Inc a) (hb : Inc b) (ea : a.length % 2 = 0) : (swp f a b false false false).length % 2 = 0 := by
  obtain ⟨z, hz⟩ := top_of (a ++ b ++ swp f a b false false false)
  have h := par_swp f _ a b (Nat.le_refl _) ha hb false false z
  rw [hf] at h
  rw [par_fin a false z (fun r hr => hz r (by simp [hr])), par_fin _ false z (fun r hr => hz r (by simp [hr])), fin_len, fin_len, if_pos ea, hf] at h
  by_cases k : (swp f a b false false false).length % 2 = 0
  · exact k
  · rw [if_neg k] at h; cases h
theorem par_one (r p : Rat) : par [r] false p = decide (r ≤ p) := by
  unfold par
  by_cases h : r ≤ p
  · rw [if_pos h, decide_eq_true h]; rfl
  · rw [if_neg h, decide_eq_false h]
theorem cut_good {f : Bool → Bool → Bool} (hf : ∀ y, f false y = false) {L : List (Rat × Rat)} {r : Rat} (hL : Good L) (hr : Fit r) (hl : L.length ≤ 20) :
    Good (pairs (swp f (ends L) [r] false false false)) ∧ (pairs (swp f (ends L) [r] false false false)).length ≤ 20 ∧ ∀ p, inn (pairs (swp f (ends L) [r] false false false)) p = f (inn L p) (decide (r ≤ p)) := by
  have hs := cut_fit f hL hr
  have he := ends_pairs _ _ (Nat.le_refl _) (even_swp2 f hf hL.inc (inc_one r) (ends_even L))
  have hi : Inc (ends (pairs (swp f (ends L) [r] false false false))) := by rw [he]; exact inc_swp f hL.inc (inc_one r) _ _ _
  have hn : (pairs (swp f (ends L) [r] false false false)).length ≤ 20 := by
    rw [pairs_len _ _ (Nat.le_refl _)]
    have := swp_len (f := f) hL.inc (inc_one r) (x := false) (y := false) (k := false)
    rw [ends_len] at this
    simp at this
    omega
  refine ⟨⟨hi, fun q hq => hs.1 q (he ▸ hq), by omega⟩, hn, fun p => ?_⟩
  rw [inn_par _ hi, he, inn_par L hL.inc, ← par_one]
  have := par_swp f _ _ _ (Nat.le_refl _) hL.inc (inc_one r) false false p
  rw [hf] at this
  exact this
end Pc
set_option linter.unusedSimpArgs false in
set_option linter.unusedVariables false in
set_option maxHeartbeats 16000000 in
set_option maxRecDepth 100000 in
theorem cuts_walk (A : Option Addr) (ca : Nat) (xs : List Raw) (n d m c : Int) (w : World) (hlx : xs.length ≤ maxLen) (ha : IsS w A xs)
    (n0 : -9223372036854775808 ≤ n) (n1 : n ≤ 9223372036854775807) (d0 : -9223372036854775808 ≤ d) (d1 : d ≤ 9223372036854775807) (m0 : -9223372036854775808 ≤ m) (m1 : m ≤ 9223372036854775807) (c0 : -9223372036854775808 ≤ c) (c1 : c ≤ 9223372036854775807) :
    Calls Try.prog 12 #[.slice A xs.length ca, .agg #[.int .i64 n, .int .i64 d], .agg #[.int .i64 m, .int .i64 c]] w fun e w' => e = .returned (.bool true) ∧ Below w.heap.size w w' := by
  have va := fun v (hv : Below w.heap.size w v) => valid_any A ca xs v (ha.keep hv)
  have bo := fun v => rBoth_any n d m c v n0 n1 d0 d1 m0 m1 c0 c1
  by_cases h1 : Pc.validB xs = true
  case neg =>
    have h1 : Pc.validB xs = false := by simpa using h1
    rw [h1] at va
    have VA := Lib.hid va
    clear va bo ha h1 hlx n0 n1 d0 d1 m0 m1 c0 c1
    go_enter Try.func12, Try.ntmps12
    have hbb := below_al (below_al (Below.refl w.heap.size w) (.cells #[.int .i64 n, .int .i64 d] 30)) (.cells #[.int .i64 m, .int .i64 c] 30)
    have x0 := cell_alloc (n20 w (.int .i64 n) (.int .i64 d) 30) (.cells #[.int .i64 m, .int .i64 c] 30)
    have x1 := cell_alloc (n21 w (.int .i64 n) (.int .i64 d) 30) (.cells #[.int .i64 m, .int .i64 c] 30)
    have y0 := m20 w (.cells #[.int .i64 n, .int .i64 d] 30) (.int .i64 m) (.int .i64 c) 30
    have y1 := m21 w (.cells #[.int .i64 n, .int .i64 d] 30) (.int .i64 m) (.int .i64 c) 30
    go_wp2_with fail
    refine (VA.out _ hbb).mono ?_
    rintro e w1 ⟨rfl, hb3⟩
    replace x0 := keepC hb3 x0
    replace x1 := keepC hb3 x1
    replace y0 := keepC hb3 y0
    replace y1 := keepC hb3 y1
    replace hbb := keepB hbb hb3
    clear hb3
    go_wp2_with fail
    refine (palive_any _).mono ?_
    rintro e w2 ⟨rfl, hb3⟩
    replace x0 := keepC hb3 x0
    replace x1 := keepC hb3 x1
    replace y0 := keepC hb3 y0
    replace y1 := keepC hb3 y1
    replace hbb := keepB hbb hb3
    clear hb3
    go_wp2_with fail
    go_ret
    exact ⟨rfl, hbb⟩

  rw [h1] at va
  have VA := Lib.hid va
  rcases both_cases n d m c with ⟨e, ho, hp⟩ | e
  case inr =>
    rw [e] at bo
    have BO := Lib.hid bo
    clear va bo ha h1 hlx n0 n1 d0 d1 m0 m1 c0 c1 e
    go_enter Try.func12, Try.ntmps12
    have hbb := below_al (below_al (Below.refl w.heap.size w) (.cells #[.int .i64 n, .int .i64 d] 30)) (.cells #[.int .i64 m, .int .i64 c] 30)
    have x0 := cell_alloc (n20 w (.int .i64 n) (.int .i64 d) 30) (.cells #[.int .i64 m, .int .i64 c] 30)
    have x1 := cell_alloc (n21 w (.int .i64 n) (.int .i64 d) 30) (.cells #[.int .i64 m, .int .i64 c] 30)
    have y0 := m20 w (.cells #[.int .i64 n, .int .i64 d] 30) (.int .i64 m) (.int .i64 c) 30
    have y1 := m21 w (.cells #[.int .i64 n, .int .i64 d] 30) (.int .i64 m) (.int .i64 c) 30
    go_wp2_with fail
    refine (VA.out _ hbb).mono ?_
    rintro e w1 ⟨rfl, hb3⟩
    replace x0 := keepC hb3 x0
    replace x1 := keepC hb3 x1
    replace y0 := keepC hb3 y0
    replace y1 := keepC hb3 y1
    replace hbb := keepB hbb hb3
    clear hb3
    go_wp2_with fail
    refine (BO.out _).mono ?_
    rintro e w2 ⟨rfl, hb3⟩
    replace x0 := keepC hb3 x0
    replace x1 := keepC hb3 x1
    replace y0 := keepC hb3 y0
    replace y1 := keepC hb3 y1
    replace hbb := keepB hbb hb3
    clear hb3
    go_wp2_with fail
    refine (palive_any _).mono ?_
    rintro e w3 ⟨rfl, hb3⟩
    replace x0 := keepC hb3 x0
    replace x1 := keepC hb3 x1
    replace y0 := keepC hb3 y0
    replace y1 := keepC hb3 y1
    replace hbb := keepB hbb hb3
    clear hb3
    go_wp2_with fail
    go_ret
    exact ⟨rfl, hbb⟩

  rw [e] at bo
  have BO := Lib.hid bo
  obtain ⟨L, rfl, gL, lL⟩ := Pc.valid_good h1
  obtain ⟨r, hr⟩ : ∃ r, Rp.q n d = r := ⟨_, rfl⟩
  have hfr : Pc.Fit r := hr ▸ Pc.fit_q ho
  have ll := Pc.cut_good (f := (fun x y => x && !y)) (fun y => rfl) gL hfr lL
  have rr := Pc.cut_good (f := (fun x y => x && y)) (fun y => rfl) gL hfr lL
  have cS : Pc.cutS (L.map Pc.raw) n d = (Pc.pairs (Pc.leftE L r), Pc.pairs (Pc.rightE L r), 0) := by unfold Pc.cutS; rw [if_pos (Pc.chk_of_good gL), if_pos ho, Pc.map_toQ_raw, hr]
  have eL : Pc.pairs (Pc.swp (fun x y => x && !y) (Pc.ends L) [r] false false false) = Pc.pairs (Pc.leftE L r) := rfl
  have eR : Pc.pairs (Pc.swp (fun x y => x && y) (Pc.ends L) [r] false false false) = Pc.pairs (Pc.rightE L r) := rfl
  rw [eL] at ll
  rw [eR] at rr
  generalize Pc.pairs (Pc.leftE L r) = P at *
  generalize Pc.pairs (Pc.rightE L r) = Q at *
  have uu := Pc.opP_good (f := (fun x y => x || y)) rfl ll.1 rr.1 (by omega)
  have mm := Pc.opP_good (f := (fun x y => x && y)) rfl ll.1 rr.1 (by omega)
  have eU : Pc.opP (fun x y => x || y) P Q = L := Pc.good_ext uu.1 gL fun p => by
    rw [uu.2, ll.2.2, rr.2.2]
    generalize Pc.inn L p = x
    generalize decide (r ≤ p) = y
    cases x <;> cases y <;> rfl
  have gN : Pc.Good [] := ⟨trivial, fun x hx => by simp [Pc.ends] at hx, by simp⟩
  have eM : Pc.opP (fun x y => x && y) P Q = [] := Pc.good_ext mm.1 gN fun p => by
    rw [mm.2, ll.2.2, rr.2.2]
    show _ = false
    generalize Pc.inn L p = x
    generalize decide (r ≤ p) = y
    cases x <;> cases y <;> rfl
  have sU := Pc.setS_op (f := (fun x y => x || y)) ll.1 rr.1 (by omega)
  have sM := Pc.setS_op (f := (fun x y => x && y)) ll.1 rr.1 (by omega)
  rw [eU] at sU
  rw [eM] at sM
  have C1 := fun v (h : IsS v A (L.map Pc.raw)) => pCut_any A ca _ n d v ⟨n0, n1⟩ ⟨d0, d1⟩ h
  rw [cS] at C1
  have C2 := fun Z z c1 c2 v (h : IsS v Z (P.map Pc.raw)) (k : IsS v z (Q.map Pc.raw)) => pUnion_any Z z c1 c2 _ _ v h k
  have C3 := fun Z z c1 c2 v (h : IsS v Z (P.map Pc.raw)) (k : IsS v z (Q.map Pc.raw)) => pMeet_any Z z c1 c2 _ _ v h k
  rw [sU] at C2
  rw [sM] at C3
  have hL := Pc.hasS_good gL hp
  have hP := Pc.hasS_good ll.1 hp
  have hQ := Pc.hasS_good rr.1 hp
  rw [ll.2.2] at hP
  rw [rr.2.2] at hQ
  have H1 := fun v (h : IsS v A (L.map Pc.raw)) => pHas_any A ca _ m c v ⟨m0, m1⟩ ⟨c0, c1⟩ h
  have H2 := fun Z z v (h : IsS v Z (P.map Pc.raw)) => pHas_any Z z _ m c v ⟨m0, m1⟩ ⟨c0, c1⟩ h
  have H3 := fun Z z v (h : IsS v Z (Q.map Pc.raw)) => pHas_any Z z _ m c v ⟨m0, m1⟩ ⟨c0, c1⟩ h
  rw [hL] at H1
  rw [hP] at H2
  rw [hQ] at H3
  have LL := fun v => Less_any m c n d hp ho v
  have eq : decide (Rp.q m c < Rp.q n d) = !decide (r ≤ Rp.q m c) := by
    rw [hr]
    by_cases h : r ≤ Rp.q m c
    · rw [decide_eq_true h, decide_eq_false (by grind)]; rfl
    · rw [decide_eq_false h, decide_eq_true (by grind)]; rfl
  rw [eq] at LL
  have S1 := fun Z c1 v (h : IsS v Z (L.map Pc.raw)) (k : IsS v A (L.map Pc.raw)) => rpSame_any Z A c1 ca (L.map Pc.raw) v h k
  simp only [List.length_map] at C1 C2 C3 H1 H2 H3 S1 VA ⊢
  try dsimp only at C1 C2 C3 H1 H2 H3
  have fP := ll.1.fit
  have fQ := rr.1.fit
  have fL := gL.fit
  have fPL : P.length ≤ maxLen := by have := ll.2.1; unfold maxLen; omega
  have fQL : Q.length ≤ maxLen := by have := rr.2.1; unfold maxLen; omega
  have fLL : L.length ≤ maxLen := by unfold maxLen; omega
  clear va bo h1 hlx n0 n1 d0 d1 m0 m1 c0 c1 e ho hp gL lL hfr ll rr cS eL eR uu mm eU gN eM sU sM hL hP hQ eq
  generalize Pc.inn L (Rp.q m c) = x at *
  generalize decide (r ≤ Rp.q m c) = y at *
  clear hr
  have XC1 := Lib.hid C1
  clear C1
  have XC2 := Lib.hid C2
  clear C2
  have XC3 := Lib.hid C3
  clear C3
  have XH1 := Lib.hid H1
  clear H1
  have XH2 := Lib.hid H2
  clear H2
  have XH3 := Lib.hid H3
  clear H3
  have XLL := Lib.hid LL
  clear LL
  have XS1 := Lib.hid S1
  clear S1
  have XfP := Lib.hid fP
  clear fP
  have XfQ := Lib.hid fQ
  clear fQ
  have XfL := Lib.hid fL
  clear fL
  have XfPL := Lib.hid fPL
  clear fPL
  have XfQL := Lib.hid fQL
  clear fQL
  have XfLL := Lib.hid fLL
  clear fLL
  go_enter Try.func12, Try.ntmps12
  have hbb := below_al (below_al (Below.refl w.heap.size w) (.cells #[.int .i64 n, .int .i64 d] 30)) (.cells #[.int .i64 m, .int .i64 c] 30)
  have x0 := cell_alloc (n20 w (.int .i64 n) (.int .i64 d) 30) (.cells #[.int .i64 m, .int .i64 c] 30)
  have x1 := cell_alloc (n21 w (.int .i64 n) (.int .i64 d) 30) (.cells #[.int .i64 m, .int .i64 c] 30)
  have y0 := m20 w (.cells #[.int .i64 n, .int .i64 d] 30) (.int .i64 m) (.int .i64 c) 30
  have y1 := m21 w (.cells #[.int .i64 n, .int .i64 d] 30) (.int .i64 m) (.int .i64 c) 30
  have Ia := ha.keep (below_al (below_al (Below.refl w.heap.size w) (.cells #[.int .i64 n, .int .i64 d] 30)) (.cells #[.int .i64 m, .int .i64 c] 30))
  clear ha
  go_wp2_with fail
  refine (VA.out _ hbb).mono ?_
  rintro e w1 ⟨rfl, hb3⟩
  replace Ia := Ia.keep hb3
  replace x0 := keepC hb3 x0
  replace x1 := keepC hb3 x1
  replace y0 := keepC hb3 y0
  replace y1 := keepC hb3 y1
  replace hbb := keepB hbb hb3
  clear hb3
  go_wp2_with fail
  refine (BO.out _).mono ?_
  rintro e w2 ⟨rfl, hb3⟩
  replace Ia := Ia.keep hb3
  replace x0 := keepC hb3 x0
  replace x1 := keepC hb3 x1
  replace y0 := keepC hb3 y0
  replace y1 := keepC hb3 y1
  replace hbb := keepB hbb hb3
  clear hb3
  go_wp2_with fail
  refine (XC1.out _ Ia).mono ?_
  rintro e w3 ⟨v1, v2, rfl, r1, r2, hb3⟩
  obtain ⟨Z1, c1, rfl, -⟩ := row_cap r1
  obtain ⟨Z2, c2, rfl, -⟩ := row_cap r2
  have I1 := isS_row r1 rfl XfP.out XfPL.out
  have I2 := isS_row r2 rfl XfQ.out XfQL.out
  clear r1 r2
  replace Ia := Ia.keep hb3
  replace x0 := keepC hb3 x0
  replace x1 := keepC hb3 x1
  replace y0 := keepC hb3 y0
  replace y1 := keepC hb3 y1
  replace hbb := keepB hbb hb3
  clear hb3
  go_wp2_with fail
  refine (XC2.out Z1 Z2 c1 c2 _ I1 I2).mono ?_
  rintro e w4 ⟨v3, rfl, hv3⟩
  have hb3 := hv3.bb
  obtain ⟨Z3, c3, rfl, -⟩ := row_cap hv3.row
  have I3 := isS_row hv3.row rfl XfL.out XfLL.out
  clear hv3
  replace Ia := Ia.keep hb3
  replace I1 := I1.keep hb3
  replace I2 := I2.keep hb3
  replace x0 := keepC hb3 x0
  replace x1 := keepC hb3 x1
  replace y0 := keepC hb3 y0
  replace y1 := keepC hb3 y1
  replace hbb := keepB hbb hb3
  clear hb3
  go_wp2_with fail
  refine (XC3.out Z1 Z2 c1 c2 _ I1 I2).mono ?_
  rintro e w5 ⟨v4, rfl, hv4⟩
  have hb3 := hv4.bb
  obtain ⟨Z4, c4, rfl, -⟩ := row_cap hv4.row
  clear hv4
  replace Ia := Ia.keep hb3
  replace I1 := I1.keep hb3
  replace I2 := I2.keep hb3
  replace I3 := I3.keep hb3
  replace x0 := keepC hb3 x0
  replace x1 := keepC hb3 x1
  replace y0 := keepC hb3 y0
  replace y1 := keepC hb3 y1
  replace hbb := keepB hbb hb3
  clear hb3
  go_wp2_with fail
  refine (XH1.out _ Ia).mono ?_
  rintro e w6 ⟨rfl, hb3⟩
  replace Ia := Ia.keep hb3
  replace I1 := I1.keep hb3
  replace I2 := I2.keep hb3
  replace I3 := I3.keep hb3
  replace x0 := keepC hb3 x0
  replace x1 := keepC hb3 x1
  replace y0 := keepC hb3 y0
  replace y1 := keepC hb3 y1
  replace hbb := keepB hbb hb3
  clear hb3
  go_wp2_with fail
  refine (XH2.out Z1 c1 _ I1).mono ?_
  rintro e w7 ⟨rfl, hb3⟩
  replace Ia := Ia.keep hb3
  replace I1 := I1.keep hb3
  replace I2 := I2.keep hb3
  replace I3 := I3.keep hb3
  replace x0 := keepC hb3 x0
  replace x1 := keepC hb3 x1
  replace y0 := keepC hb3 y0
  replace y1 := keepC hb3 y1
  replace hbb := keepB hbb hb3
  clear hb3
  go_wp2_with fail
  refine (XH3.out Z2 c2 _ I2).mono ?_
  rintro e w8 ⟨rfl, hb3⟩
  replace Ia := Ia.keep hb3
  replace I1 := I1.keep hb3
  replace I2 := I2.keep hb3
  replace I3 := I3.keep hb3
  replace x0 := keepC hb3 x0
  replace x1 := keepC hb3 x1
  replace y0 := keepC hb3 y0
  replace y1 := keepC hb3 y1
  replace hbb := keepB hbb hb3
  clear hb3
  go_wp2_with fail
  refine (XLL.out _).mono ?_
  rintro e w9 ⟨rfl, hb3⟩
  replace Ia := Ia.keep hb3
  replace I1 := I1.keep hb3
  replace I2 := I2.keep hb3
  replace I3 := I3.keep hb3
  replace x0 := keepC hb3 x0
  replace x1 := keepC hb3 x1
  replace y0 := keepC hb3 y0
  replace y1 := keepC hb3 y1
  replace hbb := keepB hbb hb3
  clear hb3
  have e1 : ((0 : Int) == 0) = true := rfl
  clear I1 I2 x0 x1 y0 y1
  go_wp2_with fail
  refine (XS1.out Z3 c3 _ I3 Ia).mono ?_
  rintro e w10 ⟨rfl, hb3⟩
  replace Ia := Ia.keep hb3
  replace I3 := I3.keep hb3
  replace hbb := keepB hbb hb3
  clear hb3
  clear Ia I3
  cases x <;> cases y
  all_goals as_aux_lemma =>
    go_wp2_with fail
    refine (palive_any _).mono ?_
    rintro e w11 ⟨rfl, hb3⟩
    replace hbb := keepB hbb hb3
    clear hb3
    go_wp2_with fail
    go_ret
    exact ⟨by first | rfl | simp, hbb⟩
end Go.Proofs.Ytomokdepndclpaa
