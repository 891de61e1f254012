/- The walk of the law PieceCanonical: it answers true. -/
import Derived.Test.YtomokdepndclpaaPcanm
namespace Go.Proofs.Ytomokdepndclpaa
open Go.RowKit
set_option linter.unusedSimpArgs false in
set_option linter.unusedVariables false in
set_option maxHeartbeats 32000000 in
set_option maxRecDepth 100000 in
theorem canon_walk (A : Option Addr) (ca : Nat) (xs : List Raw) (n d : Int) (B : Option Addr) (cb : Nat) (ys : List Raw) (C : Option Addr) (cc : Nat) (zs : List Raw) (w : World) (hlx : xs.length ≤ maxLen) (hl : IsS w A xs) (hca : xs.length ≤ ca)
    (n0 : -9223372036854775808 ≤ n) (n1 : n ≤ 9223372036854775807) (d0 : -9223372036854775808 ≤ d) (d1 : d ≤ 9223372036854775807) (hly : ys.length ≤ maxLen) (ha : IsS w B ys) (hlz : zs.length ≤ maxLen) (hb : IsS w C zs) :
    Calls Try.prog 9 #[.slice A xs.length ca, .agg #[.int .i64 n, .int .i64 d], .slice B ys.length cb, .slice C zs.length cc] w fun e w' => e = .returned (.bool true) ∧ Below w.heap.size w w' := by
  have gx := fun v => rpGreat_any A xs.length ca v
  have va := fun v (hv : Below w.heap.size w v) => valid_any B cb ys v (ha.keep hv)
  have vb := fun v (hv : Below w.heap.size w v) => valid_any C cc zs v (hb.keep hv)
  obtain ⟨i0, hi0, hz0, hz1, hz2⟩ := info_parts spanInfo
  have HI := Lib.hid hi0
  have HI2 := Lib.hid hz0
  have HI3 := Lib.hid hz1
  have HI4 := Lib.hid hz2
  clear hi0 hz0 hz1 hz2
  by_cases h0 : Pc.greatB xs.length = true
  case pos =>
    rw [h0] at gx
    have GX := Lib.hid gx
    clear gx va vb hl ha hb h0 hlx hly hlz n0 n1 d0 d1 hca
    go_enter Try.func9, Try.ntmps9
    have hbb := below_al (Below.refl w.heap.size w) (.cells #[.int .i64 n, .int .i64 d] 30)
    have x0 := n20 w (.int .i64 n) (.int .i64 d) 30
    have x1 := n21 w (.int .i64 n) (.int .i64 d) 30
    go_wp2_with fail
    refine (GX.out _).mono ?_
    rintro e w1 ⟨rfl, hb3⟩
    replace x0 := keepC hb3 x0
    replace x1 := keepC hb3 x1
    replace hbb := keepB hbb hb3
    clear hb3
    go_wp2_with fail
    refine (palive_any _).mono ?_
    rintro e w2 ⟨rfl, hb3⟩
    replace x0 := keepC hb3 x0
    replace x1 := keepC hb3 x1
    replace hbb := keepB hbb hb3
    clear hb3
    go_wp2_with fail
    go_ret
    exact ⟨rfl, hbb⟩

  have h0 : Pc.greatB xs.length = false := by simpa using h0
  rw [h0] at gx
  have GX := Lib.hid gx
  by_cases h1 : Pc.validB ys = true
  case neg =>
    have h1 : Pc.validB ys = false := by simpa using h1
    rw [h1] at va
    have VA := Lib.hid va
    clear gx va vb hl ha hb h0 h1 hlx hly hlz n0 n1 d0 d1 hca
    go_enter Try.func9, Try.ntmps9
    have hbb := below_al (Below.refl w.heap.size w) (.cells #[.int .i64 n, .int .i64 d] 30)
    have x0 := n20 w (.int .i64 n) (.int .i64 d) 30
    have x1 := n21 w (.int .i64 n) (.int .i64 d) 30
    go_wp2_with fail
    refine (GX.out _).mono ?_
    rintro e w1 ⟨rfl, hb3⟩
    replace x0 := keepC hb3 x0
    replace x1 := keepC hb3 x1
    replace hbb := keepB hbb hb3
    clear hb3
    go_wp2_with fail
    refine (VA.out _ hbb).mono ?_
    rintro e w2 ⟨rfl, hb3⟩
    replace x0 := keepC hb3 x0
    replace x1 := keepC hb3 x1
    replace hbb := keepB hbb hb3
    clear hb3
    go_wp2_with fail
    refine (palive_any _).mono ?_
    rintro e w3 ⟨rfl, hb3⟩
    replace x0 := keepC hb3 x0
    replace x1 := keepC hb3 x1
    replace hbb := keepB hbb hb3
    clear hb3
    go_wp2_with fail
    go_ret
    exact ⟨rfl, hbb⟩

  rw [h1] at va
  have VA := Lib.hid va
  by_cases h2 : Pc.validB zs = true
  case neg =>
    have h2 : Pc.validB zs = false := by simpa using h2
    rw [h2] at vb
    have VB := Lib.hid vb
    clear gx va vb hl ha hb h0 h1 h2 hlx hly hlz n0 n1 d0 d1 hca
    go_enter Try.func9, Try.ntmps9
    have hbb := below_al (Below.refl w.heap.size w) (.cells #[.int .i64 n, .int .i64 d] 30)
    have x0 := n20 w (.int .i64 n) (.int .i64 d) 30
    have x1 := n21 w (.int .i64 n) (.int .i64 d) 30
    go_wp2_with fail
    refine (GX.out _).mono ?_
    rintro e w1 ⟨rfl, hb3⟩
    replace x0 := keepC hb3 x0
    replace x1 := keepC hb3 x1
    replace hbb := keepB hbb hb3
    clear hb3
    go_wp2_with fail
    refine (VA.out _ hbb).mono ?_
    rintro e w2 ⟨rfl, hb3⟩
    replace x0 := keepC hb3 x0
    replace x1 := keepC hb3 x1
    replace hbb := keepB hbb hb3
    clear hb3
    go_wp2_with fail
    refine (VB.out _ hbb).mono ?_
    rintro e w3 ⟨rfl, hb3⟩
    replace x0 := keepC hb3 x0
    replace x1 := keepC hb3 x1
    replace hbb := keepB hbb hb3
    clear hb3
    go_wp2_with fail
    refine (palive_any _).mono ?_
    rintro e w4 ⟨rfl, hb3⟩
    replace x0 := keepC hb3 x0
    replace x1 := keepC hb3 x1
    replace hbb := keepB hbb hb3
    clear hb3
    go_wp2_with fail
    go_ret
    exact ⟨rfl, hbb⟩

  rw [h2] at vb
  have VB := Lib.hid vb
  obtain ⟨La, rfl, gA, lA⟩ := Pc.valid_good h1
  obtain ⟨Lb, rfl, gB, lB⟩ := Pc.valid_good h2
  have sK := Pc.setS_op (f := (fun x y => x && !y)) gA gB (by omega)
  have sJ := Pc.setS_op (f := (fun x y => x && !y)) gB gA (by omega)
  have hdn := Pc.diff_nil gA gB (by omega)
  have hraw : (La.map Pc.raw = Lb.map Pc.raw) ↔ La = Lb := ⟨fun e => by rw [← Pc.map_toQ_raw La, ← Pc.map_toQ_raw Lb, e], fun e => by rw [e]⟩
  have C5 := fun v (h : IsS v B (La.map Pc.raw)) (k : IsS v C (Lb.map Pc.raw)) => pMinus_any B C cb cc _ _ v h k
  have C6 := fun v (h : IsS v B (La.map Pc.raw)) (k : IsS v C (Lb.map Pc.raw)) => pMinus_any C B cc cb _ _ v k h
  rw [sK] at C5
  rw [sJ] at C6
  have SG := fun v (h : IsS v B (La.map Pc.raw)) (k : IsS v C (Lb.map Pc.raw)) => rpSameG_any B C cb cc _ _ v h k
  have hd0 : ∀ (c e : List (Rat × Rat)), (((((c.length : Nat) : Int) == 0) = true) ∧ ((((e.length : Nat) : Int) == 0) = true) ∧ (c = [] ∧ e = [])) ∨ (((((c.length : Nat) : Int) == 0) = false) ∧ ¬ (c = [] ∧ e = [])) ∨ (((((c.length : Nat) : Int) == 0) = true) ∧ ((((e.length : Nat) : Int) == 0) = false) ∧ ¬ (c = [] ∧ e = [])) := by
    intro c e
    rcases c with _ | ⟨x, c⟩
    · rcases e with _ | ⟨y, e⟩
      · exact .inl ⟨rfl, rfl, rfl, rfl⟩
      · exact .inr (.inr ⟨rfl, by rw [beq_eq_false_iff_ne, List.length_cons]; omega, fun h => by cases h.2⟩)
    · exact .inr (.inl ⟨by rw [beq_eq_false_iff_ne, List.length_cons]; omega, fun h => by cases h.1⟩)
  have hd := hd0 (Pc.opP (fun x y => x && !y) La Lb) (Pc.opP (fun x y => x && !y) Lb La)
  rw [hdn, ← hraw] at hd
  simp only [List.length_map] at C5 C6 SG VA VB ⊢
  try dsimp only at C5 C6
  clear sK sJ hdn hraw hd0 gA gB lA lB h1 h2 va vb gx hly hlz
  generalize Pc.opP (fun x y => x && !y) La Lb = Dc at *
  generalize Pc.opP (fun x y => x && !y) Lb La = De at *
  have XC5 := Lib.hid C5
  have XC6 := Lib.hid C6
  have XSG := Lib.hid SG
  have HD := Lib.hid hd
  clear C5 C6 SG hd
  have mk := fun v (h : IsS v A xs) => pMake_any A ca xs v hca h
  rcases Pc.mkS_cases xs with hm | hm | ⟨Q, rfl, hq1, hq2, hq3, hm⟩
  case inl =>
    rw [hm] at mk
    have XMK := Lib.hid mk
    clear mk hm h0 hlx n0 n1 d0 d1 hca
    go_enter Try.func9, Try.ntmps9
    have hbb := below_al (Below.refl w.heap.size w) (.cells #[.int .i64 n, .int .i64 d] 30)
    have x0 := n20 w (.int .i64 n) (.int .i64 d) 30
    have x1 := n21 w (.int .i64 n) (.int .i64 d) 30
    have Ia := ha.keep (below_al (Below.refl w.heap.size w) (.cells #[.int .i64 n, .int .i64 d] 30))
    have Ib := hb.keep (below_al (Below.refl w.heap.size w) (.cells #[.int .i64 n, .int .i64 d] 30))
    have Il := hl.keep (below_al (Below.refl w.heap.size w) (.cells #[.int .i64 n, .int .i64 d] 30))
    clear ha hb hl
    go_wp2_with fail
    refine (GX.out _).mono ?_
    rintro e w1 ⟨rfl, hb3⟩
    replace Ia := Ia.keep hb3
    replace Ib := Ib.keep hb3
    replace Il := Il.keep hb3
    replace x0 := keepC hb3 x0
    replace x1 := keepC hb3 x1
    replace hbb := keepB hbb hb3
    clear hb3
    go_wp2_with fail
    refine (VA.out _ hbb).mono ?_
    rintro e w2 ⟨rfl, hb3⟩
    replace Ia := Ia.keep hb3
    replace Ib := Ib.keep hb3
    replace Il := Il.keep hb3
    replace x0 := keepC hb3 x0
    replace x1 := keepC hb3 x1
    replace hbb := keepB hbb hb3
    clear hb3
    go_wp2_with fail
    refine (VB.out _ hbb).mono ?_
    rintro e w3 ⟨rfl, hb3⟩
    replace Ia := Ia.keep hb3
    replace Ib := Ib.keep hb3
    replace Il := Il.keep hb3
    replace x0 := keepC hb3 x0
    replace x1 := keepC hb3 x1
    replace hbb := keepB hbb hb3
    clear hb3
    have m0 : ((4 : Int) == 0) = false := rfl
    have m4 : ((4 : Int) != 4) = false := rfl
    have m8 : ((4 : Int) != 8) = true := rfl
    go_wp2_with fail
    refine (XMK.out _ Il).mono ?_
    rintro e w4 ⟨v1, rfl, hv1⟩
    have hb3 := hv1.bb
    clear hv1
    replace Ia := Ia.keep hb3
    replace Ib := Ib.keep hb3
    replace Il := Il.keep hb3
    replace x0 := keepC hb3 x0
    replace x1 := keepC hb3 x1
    replace hbb := keepB hbb hb3
    clear hb3
    clear Il x0 x1
    have f0 : ((0 : Int) != 0) = false := rfl
    have f1 : ((0 : Int) == 0) = true := rfl
    go_wp2_with fail
    refine (XC5.out _ Ia Ib).mono ?_
    rintro e w5 ⟨va, rfl, hva⟩
    have hb3 := hva.bb
    obtain ⟨Za, ka, rfl, -⟩ := row_cap hva.row
    clear hva
    replace Ia := Ia.keep hb3
    replace Ib := Ib.keep hb3
    replace hbb := keepB hbb hb3
    clear hb3
    go_wp2_with fail
    refine (XC6.out _ Ia Ib).mono ?_
    rintro e w6 ⟨vb, rfl, hvb⟩
    have hb3 := hvb.bb
    obtain ⟨Zb, kb, rfl, -⟩ := row_cap hvb.row
    clear hvb
    replace Ia := Ia.keep hb3
    replace Ib := Ib.keep hb3
    replace hbb := keepB hbb hb3
    clear hb3
    go_upto_region 23 with fail
    rcases HD.out with ⟨g1, g2, g3⟩ | ⟨g1, g3⟩ | ⟨g1, g2, g3⟩
    · as_aux_lemma =>
        go_wp2_with fail
        refine (XSG.out _ Ia Ib).mono ?_
        rintro e w7 ⟨z, rfl, hz, hb3⟩
        replace Ia := Ia.keep hb3
        replace Ib := Ib.keep hb3
        replace hbb := keepB hbb hb3
        clear hb3
        clear Ia Ib
        obtain rfl : z = true := hz.2 g3
        clear hz g3
        go_wp2_with fail
        refine (palive_any _).mono ?_
        rintro e w8 ⟨rfl, hb3⟩
        replace hbb := keepB hbb hb3
        clear hb3
        go_wp2_with fail
        go_ret
        exact ⟨by first | rfl | simp, hbb⟩
    · as_aux_lemma =>
        go_wp2_with fail
        refine (XSG.out _ Ia Ib).mono ?_
        rintro e w9 ⟨z, rfl, hz, hb3⟩
        replace Ia := Ia.keep hb3
        replace Ib := Ib.keep hb3
        replace hbb := keepB hbb hb3
        clear hb3
        clear Ia Ib
        obtain rfl : z = false := by
          cases z
          · rfl
          · exact absurd (hz.1 rfl) g3
        clear hz g3
        go_wp2_with fail
        refine (palive_any _).mono ?_
        rintro e w10 ⟨rfl, hb3⟩
        replace hbb := keepB hbb hb3
        clear hb3
        go_wp2_with fail
        go_ret
        exact ⟨by first | rfl | simp, hbb⟩
    · as_aux_lemma =>
        go_wp2_with fail
        refine (XSG.out _ Ia Ib).mono ?_
        rintro e w11 ⟨z, rfl, hz, hb3⟩
        replace Ia := Ia.keep hb3
        replace Ib := Ib.keep hb3
        replace hbb := keepB hbb hb3
        clear hb3
        clear Ia Ib
        obtain rfl : z = false := by
          cases z
          · rfl
          · exact absurd (hz.1 rfl) g3
        clear hz g3
        go_wp2_with fail
        refine (palive_any _).mono ?_
        rintro e w12 ⟨rfl, hb3⟩
        replace hbb := keepB hbb hb3
        clear hb3
        go_wp2_with fail
        go_ret
        exact ⟨by first | rfl | simp, hbb⟩
  case inr.inl =>
    rw [hm] at mk
    have XMK := Lib.hid mk
    clear mk hm h0 hlx n0 n1 d0 d1 hca
    go_enter Try.func9, Try.ntmps9
    have hbb := below_al (Below.refl w.heap.size w) (.cells #[.int .i64 n, .int .i64 d] 30)
    have x0 := n20 w (.int .i64 n) (.int .i64 d) 30
    have x1 := n21 w (.int .i64 n) (.int .i64 d) 30
    have Ia := ha.keep (below_al (Below.refl w.heap.size w) (.cells #[.int .i64 n, .int .i64 d] 30))
    have Ib := hb.keep (below_al (Below.refl w.heap.size w) (.cells #[.int .i64 n, .int .i64 d] 30))
    have Il := hl.keep (below_al (Below.refl w.heap.size w) (.cells #[.int .i64 n, .int .i64 d] 30))
    clear ha hb hl
    go_wp2_with fail
    refine (GX.out _).mono ?_
    rintro e w1 ⟨rfl, hb3⟩
    replace Ia := Ia.keep hb3
    replace Ib := Ib.keep hb3
    replace Il := Il.keep hb3
    replace x0 := keepC hb3 x0
    replace x1 := keepC hb3 x1
    replace hbb := keepB hbb hb3
    clear hb3
    go_wp2_with fail
    refine (VA.out _ hbb).mono ?_
    rintro e w2 ⟨rfl, hb3⟩
    replace Ia := Ia.keep hb3
    replace Ib := Ib.keep hb3
    replace Il := Il.keep hb3
    replace x0 := keepC hb3 x0
    replace x1 := keepC hb3 x1
    replace hbb := keepB hbb hb3
    clear hb3
    go_wp2_with fail
    refine (VB.out _ hbb).mono ?_
    rintro e w3 ⟨rfl, hb3⟩
    replace Ia := Ia.keep hb3
    replace Ib := Ib.keep hb3
    replace Il := Il.keep hb3
    replace x0 := keepC hb3 x0
    replace x1 := keepC hb3 x1
    replace hbb := keepB hbb hb3
    clear hb3
    have m0 : ((8 : Int) == 0) = false := rfl
    have m4 : ((8 : Int) != 4) = true := rfl
    have m8 : ((8 : Int) != 8) = false := rfl
    go_wp2_with fail
    refine (XMK.out _ Il).mono ?_
    rintro e w4 ⟨v1, rfl, hv1⟩
    have hb3 := hv1.bb
    clear hv1
    replace Ia := Ia.keep hb3
    replace Ib := Ib.keep hb3
    replace Il := Il.keep hb3
    replace x0 := keepC hb3 x0
    replace x1 := keepC hb3 x1
    replace hbb := keepB hbb hb3
    clear hb3
    clear Il x0 x1
    have f0 : ((0 : Int) != 0) = false := rfl
    have f1 : ((0 : Int) == 0) = true := rfl
    go_wp2_with fail
    refine (XC5.out _ Ia Ib).mono ?_
    rintro e w5 ⟨va, rfl, hva⟩
    have hb3 := hva.bb
    obtain ⟨Za, ka, rfl, -⟩ := row_cap hva.row
    clear hva
    replace Ia := Ia.keep hb3
    replace Ib := Ib.keep hb3
    replace hbb := keepB hbb hb3
    clear hb3
    go_wp2_with fail
    refine (XC6.out _ Ia Ib).mono ?_
    rintro e w6 ⟨vb, rfl, hvb⟩
    have hb3 := hvb.bb
    obtain ⟨Zb, kb, rfl, -⟩ := row_cap hvb.row
    clear hvb
    replace Ia := Ia.keep hb3
    replace Ib := Ib.keep hb3
    replace hbb := keepB hbb hb3
    clear hb3
    go_upto_region 23 with fail
    rcases HD.out with ⟨g1, g2, g3⟩ | ⟨g1, g3⟩ | ⟨g1, g2, g3⟩
    · as_aux_lemma =>
        go_wp2_with fail
        refine (XSG.out _ Ia Ib).mono ?_
        rintro e w7 ⟨z, rfl, hz, hb3⟩
        replace Ia := Ia.keep hb3
        replace Ib := Ib.keep hb3
        replace hbb := keepB hbb hb3
        clear hb3
        clear Ia Ib
        obtain rfl : z = true := hz.2 g3
        clear hz g3
        go_wp2_with fail
        refine (palive_any _).mono ?_
        rintro e w8 ⟨rfl, hb3⟩
        replace hbb := keepB hbb hb3
        clear hb3
        go_wp2_with fail
        go_ret
        exact ⟨by first | rfl | simp, hbb⟩
    · as_aux_lemma =>
        go_wp2_with fail
        refine (XSG.out _ Ia Ib).mono ?_
        rintro e w9 ⟨z, rfl, hz, hb3⟩
        replace Ia := Ia.keep hb3
        replace Ib := Ib.keep hb3
        replace hbb := keepB hbb hb3
        clear hb3
        clear Ia Ib
        obtain rfl : z = false := by
          cases z
          · rfl
          · exact absurd (hz.1 rfl) g3
        clear hz g3
        go_wp2_with fail
        refine (palive_any _).mono ?_
        rintro e w10 ⟨rfl, hb3⟩
        replace hbb := keepB hbb hb3
        clear hb3
        go_wp2_with fail
        go_ret
        exact ⟨by first | rfl | simp, hbb⟩
    · as_aux_lemma =>
        go_wp2_with fail
        refine (XSG.out _ Ia Ib).mono ?_
        rintro e w11 ⟨z, rfl, hz, hb3⟩
        replace Ia := Ia.keep hb3
        replace Ib := Ib.keep hb3
        replace hbb := keepB hbb hb3
        clear hb3
        clear Ia Ib
        obtain rfl : z = false := by
          cases z
          · rfl
          · exact absurd (hz.1 rfl) g3
        clear hz g3
        go_wp2_with fail
        refine (palive_any _).mono ?_
        rintro e w12 ⟨rfl, hb3⟩
        replace hbb := keepB hbb hb3
        clear hb3
        go_wp2_with fail
        go_ret
        exact ⟨by first | rfl | simp, hbb⟩
  case inr.inr =>
    have hQ20 : Q.length ≤ 20 := by
      rw [List.length_map] at h0
      unfold Pc.greatB at h0
      simp at h0
      omega
    rw [hm] at mk
    have mg := Pc.mk_good hq1 hq2 hq3
    have r1 : ∀ s ∈ Q.reverse, s.1 < s.2 := fun s hs => hq1 s (List.mem_reverse.1 hs)
    have r2 : ∀ r ∈ Pc.ends Q.reverse, Pc.Fit r := fun r hr => hq2 r (Pc.ends_rev hr)
    have rl : Q.reverse.length ≤ 60 := by rw [List.length_reverse]; omega
    have rg := Pc.mk_good r1 r2 rl
    have eR : Pc.pairs (Pc.jn Q.reverse) = Pc.pairs (Pc.jn Q) := Pc.good_ext rg.1 mg.1 fun p => by rw [rg.2.2, mg.2.2, Pc.inn_rev]
    have gg := Pc.mk_good (Pc.good_spans mg.1) mg.1.fit (by have := mg.1.len; omega)
    have eM : Pc.pairs (Pc.jn (Pc.pairs (Pc.jn Q))) = Pc.pairs (Pc.jn Q) := Pc.good_ext gg.1 mg.1 fun p => by rw [gg.2.2]
    have kR := Pc.mkS_val r1 r2 rl
    have kM := Pc.mkS_val (Pc.good_spans mg.1) mg.1.fit (by have := mg.1.len; omega)
    rw [eR] at kR
    rw [eM] at kM
    have MR := fun Z k v (hk : Q.reverse.length ≤ k) (h : IsS v Z (Q.reverse.map Pc.raw)) => pMake_any Z k _ v (by rw [List.length_map]; exact hk) h
    rw [kR] at MR
    have MM := fun Z k v (hk : (Pc.pairs (Pc.jn Q)).length ≤ k) (h : IsS v Z ((Pc.pairs (Pc.jn Q)).map Pc.raw)) => pMake_any Z k _ v (by rw [List.length_map]; exact hk) h
    rw [kM] at MM
    have KM := fun Z k v (h : IsS v Z ((Pc.pairs (Pc.jn Q)).map Pc.raw)) => rChk_any Z k _ v h
    rw [Pc.chk_of_good mg.1] at KM
    have SM := fun Z Z' k k' v h h' => rpSame_any Z Z' k k' ((Pc.pairs (Pc.jn Q)).map Pc.raw) v h h'
    have HM := fun Z k v (h : IsS v Z ((Pc.pairs (Pc.jn Q)).map Pc.raw)) => pHas_any Z k _ n d v ⟨n0, n1⟩ ⟨d0, d1⟩ h
    have cr := fun v => rCheck_any n d v n0 n1 d0 d1
    have fM := mg.1.fit
    have fML : (Pc.pairs (Pc.jn Q)).length ≤ maxLen := by have := mg.1.len; unfold maxLen; omega
    have fRL : Q.length ≤ maxLen := by unfold maxLen; omega
    have hfs : ∀ i, i < Q.length → Pc.Fit (Pc.sat Q i).1 ∧ Pc.Fit (Pc.sat Q i).2 := fun i hi => ⟨hq2 _ (Pc.mem_ends1 hi).1, hq2 _ (Pc.mem_ends1 hi).2⟩
    have hv : Pc.hasS ((Pc.pairs (Pc.jn Q)).map Pc.raw) n d = if Rp.Ok n d then (Pc.inn Q (Rp.q n d), 0) else (false, 2) := by
      unfold Pc.hasS
      rw [if_pos (Pc.chk_of_good mg.1), Pc.map_toQ_raw, mg.2.2]
    obtain ⟨qq, hqq⟩ : ∃ q, Rp.q n d = q := ⟨_, rfl⟩
    rw [hqq] at hv
    simp only [List.length_map, List.length_reverse] at mk MR MM KM SM HM GX ⊢
    try dsimp only at mk MR MM
    clear mg rg eR eM gg kR kM rl r1 hq1 hm h0 hlx hq2
    rcases chk_cases n d with ⟨e, ho⟩ | ⟨e, ho⟩
    · rw [e] at cr
      rw [hv, if_pos ho] at HM
      try dsimp only at HM
      have HO := Lib.hid ho
      have HQ := Lib.hid hqq
      have XCR := Lib.hid cr
      have hca' : Q.length ≤ ca := by simpa using hca
      clear cr hv e ho hqq n0 n1 d0 d1 hca
      generalize Pc.pairs (Pc.jn Q) = Mm at *
      have XMK := Lib.hid mk
      clear mk
      have XMR := Lib.hid MR
      clear MR
      have XMM := Lib.hid MM
      clear MM
      have XKM := Lib.hid KM
      clear KM
      have XSM := Lib.hid SM
      clear SM
      have XHM := Lib.hid HM
      clear HM
      have XfM := Lib.hid fM
      clear fM
      have XfML := Lib.hid fML
      clear fML
      have XfRL := Lib.hid fRL
      clear fRL
      have XfR := Lib.hid r2
      have HFS := Lib.hid hfs
      clear r2 hfs
      go_enter Try.func9, Try.ntmps9
      have hbb := below_al (Below.refl w.heap.size w) (.cells #[.int .i64 n, .int .i64 d] 30)
      have x0 := n20 w (.int .i64 n) (.int .i64 d) 30
      have x1 := n21 w (.int .i64 n) (.int .i64 d) 30
      have Ia := ha.keep (below_al (Below.refl w.heap.size w) (.cells #[.int .i64 n, .int .i64 d] 30))
      have Ib := hb.keep (below_al (Below.refl w.heap.size w) (.cells #[.int .i64 n, .int .i64 d] 30))
      have Il := hl.keep (below_al (Below.refl w.heap.size w) (.cells #[.int .i64 n, .int .i64 d] 30))
      clear ha hb hl
      go_wp2_with fail
      refine (GX.out _).mono ?_
      rintro e w1 ⟨rfl, hb3⟩
      replace Ia := Ia.keep hb3
      replace Ib := Ib.keep hb3
      replace Il := Il.keep hb3
      replace x0 := keepC hb3 x0
      replace x1 := keepC hb3 x1
      replace hbb := keepB hbb hb3
      clear hb3
      go_wp2_with fail
      refine (VA.out _ hbb).mono ?_
      rintro e w2 ⟨rfl, hb3⟩
      replace Ia := Ia.keep hb3
      replace Ib := Ib.keep hb3
      replace Il := Il.keep hb3
      replace x0 := keepC hb3 x0
      replace x1 := keepC hb3 x1
      replace hbb := keepB hbb hb3
      clear hb3
      go_wp2_with fail
      refine (VB.out _ hbb).mono ?_
      rintro e w3 ⟨rfl, hb3⟩
      replace Ia := Ia.keep hb3
      replace Ib := Ib.keep hb3
      replace Il := Il.keep hb3
      replace x0 := keepC hb3 x0
      replace x1 := keepC hb3 x1
      replace hbb := keepB hbb hb3
      clear hb3
      have m0 : ((0 : Int) == 0) = true := rfl
      go_wp2_with fail
      refine (XMK.out _ Il).mono ?_
      rintro e w4 ⟨v1, rfl, hv1⟩
      have hb3 := hv1.bb
      obtain ⟨Z1, k1, rfl, hk1⟩ := row_cap hv1.row
      have I1 := isS_row hv1.row rfl XfM.out XfML.out
      clear hv1
      replace Ia := Ia.keep hb3
      replace Ib := Ib.keep hb3
      replace Il := Il.keep hb3
      replace x0 := keepC hb3 x0
      replace x1 := keepC hb3 x1
      replace hbb := keepB hbb hb3
      clear hb3
      go_wp2_with fail
      have hVb := hbb
      have HX := Lib.hid (And.intro x0 x1)
      obtain ⟨bq, oq, hAq, hcq⟩ := Il.cell
      have HC := Lib.hid hcq
      have HA := Lib.hid hAq
      clear hcq hAq
      go_loopw [11, 12, 13] (fun v z t W => ∃ (j : Nat) (zb : Bool) (tt : Int), j ≤ Q.length ∧ t = .int .i64 tt ∧ tt = (j : Int) - 1 ∧ z = .bool zb ∧ zb = (true && Pc.inn (Q.drop j) qq) ∧ Acc w4 w4.heap.size 51 4 v (Q.drop j).length (Pc.cells4 (Q.drop j).reverse) W) (fun _ _ t _ => (intOf t + 1).toNat)
      case atStart =>
        refine ⟨Q.length, false, (Q.length : Int) - 1, Nat.le_refl _, by go_num, rfl, rfl, ?_, ?_⟩
        · first
            | rfl
            | (rw [List.drop_length]; rfl)
        · rw [List.drop_length]; exact ⟨Below.refl _ _, Nat.le_refl _, World.ownsRow_nil _ _ _ _⟩
      case round =>
        obtain ⟨j, zb, tt, hj, rfl, htt, rfl, hz, hR⟩ := hrel
        rcases j with _ | i
        case succ =>
          obtain rfl : tt = (i : Int) := by omega
          clear htt Il Ia Ib I1 x0 x1 hbb
          as_aux_lemma =>
            obtain ⟨s, hs⟩ : ∃ s, Pc.sat Q i = s := ⟨_, rfl⟩
            have hA' := HA.out (by omega)
            subst hA'
            have hdr : Q.drop i = s :: Q.drop (i + 1) := by rw [List.drop_eq_getElem_cons (by omega), ← Pc.sat_lt (by omega), hs]
            have C0 := (HC.out i (by omega)).1
            have C1 := (HC.out i (by omega)).2.1
            have C2 := (HC.out i (by omega)).2.2.1
            have C3 := (HC.out i (by omega)).2.2.2
            have hfs := HFS.out i (by omega)
            rw [hs] at C0 C1 C2 C3 hfs
            have hin : Pc.inn (Q.drop i) qq = (Pc.hitS s qq || Pc.inn (Q.drop (i + 1)) qq) := by rw [hdr]; rfl
            have HDL := Lib.hid (show (Q.drop i).length = (Q.drop (i + 1)).length + 1 by rw [hdr]; rfl)
            have HDR := Lib.hid (show Pc.cells4 (Q.drop i).reverse = Pc.cells4 (Q.drop (i + 1)).reverse ++ [.int .i64 s.1.num, .int .i64 (s.1.den : Int), .int .i64 s.2.num, .int .i64 (s.2.den : Int)] by rw [hdr, List.reverse_cons, Pc.cells4_app]; rfl)
            have hnD : (Q.drop (i + 1)).length ≤ 60 := by rw [List.length_drop]; omega
            generalize (Q.drop (i + 1)).length = nD at *
            generalize Pc.cells4 (Q.drop (i + 1)).reverse = CD at *
            generalize Pc.inn (Q.drop (i + 1)) qq = iD at *
            have HIN := Lib.hid hin
            clear hs hdr hin
            have c0 := keepC hR.bb C0
            have c1 := keepC hR.bb C1
            have c2 := keepC hR.bb C2
            have c3 := keepC hR.bb C3
            have i1 : (0 : Int) ≤ (i : Int) := by omega
            have i2 : (i : Int) < (Q.length : Int) := by omega
            have i3 : decide ((0 : Int) ≤ (i : Int)) = true := decide_eq_true i1
            have hBV := hR.hB
            have hO := hR.row
            go_upto_region 11 with (at_builtin; go_loud (refine wpList_append_lies _ rfl _ _ _ rfl w4.heap.size 51 i0 _ 4 32 Try.underlying53 HI.out HI2.out HI3.out HI4.out rfl (by omega) _ nD CD (by rfl) (World.ownsRow.alloc hR.row _) ⟨wr.heap.size, 0, none⟩ 1 1 [.int .i64 s.1.num, .int .i64 (s.1.den : Int), .int .i64 s.2.num, .int .i64 (s.2.den : Int)] (by rfl) (by rfl) (World.news_of_block (cs := #[.int .i64 s.1.num, .int .i64 (s.1.den : Int), .int .i64 s.2.num, .int .i64 (s.2.den : Int)]) (t := 51) (fr := (0, 0)) (heap_alloc_new wr _)) (by simp [Value.oneCell']) (by omega) (by unfold maxLen; omega) (by omega) (by simp; omega) (wr.heap.size + 1) (by simp) ?_); intro gg cap3 w4 hown1 hgrow hat hlt4)
            have hR2 := hR.app ((Below.refl _ wr).alloc (Nat.le_refl _) _) hown1 hgrow
            have e1 : nD + 1 = (Q.drop i).length := HDL.out.symm
            rw [← HDR.out] at hR2
            clear hO hown1 hgrow hat hlt4 hR hBV c0 c1 c2 c3
            have c0 := keepC hR2.bb C0
            have c1 := keepC hR2.bb C1
            have c2 := keepC hR2.bb C2
            have c3 := keepC hR2.bb C3
            have x0 := keepC hR2.bb HX.out.1
            have x1 := keepC hR2.bb HX.out.2
            clear C0 C1 C2 C3
            have HE1 := Lib.hid e1
            clear e1
            rw [Bool.true_and] at hz
            obtain rfl := hz
            have la := fun v => Less_any n d s.1.num (s.1.den : Int) HO.out hfs.1 v
            have lb := fun v => Less_any n d s.2.num (s.2.den : Int) HO.out hfs.2 v
            rw [Rp.q_self, HQ.out] at la
            rw [Rp.q_self, HQ.out] at lb
            cases zb
            case true =>
              have EZ := Lib.hid (show true = (true && Pc.inn (Q.drop i) qq) by rw [HIN.out]; simp)
              clear la lb
              go_upto_region 11 with fail
              refine wp_region_noPanic ?_
              refine wp_region_held_drew (S := (Below w4.heap.size w4)) (by kernel_rfl) ((Below.refl _ _).drew) (fun hHeld => ?_)
              refine at_anyH (Below w4.heap.size w4) hHeld (fun wt0 hNew => ?_)
              clear hHeld
              have hHeld := hNew
              clear hNew
              refine wpAnyH_take (i := 0) (oi := _) (v := ?vt1) rfl (by kernel_rfl) (by kernel_rfl) (by kernel_rfl) (fun _ _ _ h => h) (Or.inl ⟨by kernel_rfl, ?hyt1⟩) hHeld ?restt1
              case hyt1 => (intro w hSw; go_simp; first | done | (with_reducible rfl))
              try simp only [Act.put, List.getElem_toArray, List.getElem_cons_succ, List.getElem_cons_zero, List.setIfInBounds_toArray, List.set_cons_zero, List.set_cons_succ]
              refine wpAnyH_take (i := 1) (oi := _) (v := ?vt2) rfl (by kernel_rfl) (by kernel_rfl) (by kernel_rfl) (fun _ _ _ h => h) (Or.inl ⟨by kernel_rfl, ?hyt2⟩) hHeld ?restt2
              case hyt2 => (intro w hSw; go_simp; first | done | (with_reducible rfl))
              try simp only [Act.put, List.getElem_toArray, List.getElem_cons_succ, List.getElem_cons_zero, List.setIfInBounds_toArray, List.set_cons_zero, List.set_cons_succ]
              refine wpAnyH_take (i := 2) (oi := _) (v := undef) rfl (by kernel_rfl) (by kernel_rfl) (by kernel_rfl) (fun _ _ _ h => h) (Or.inr ⟨by kernel_rfl, rfl⟩) hHeld ?_
              try simp only [Act.put, List.getElem_toArray, List.getElem_cons_succ, List.getElem_cons_zero, List.setIfInBounds_toArray, List.set_cons_zero, List.set_cons_succ]
              refine wpAnyH_take (i := 3) (oi := _) (v := undef) rfl (by kernel_rfl) (by kernel_rfl) (by kernel_rfl) (fun _ _ _ h => h) (Or.inr ⟨by kernel_rfl, rfl⟩) hHeld ?_
              try simp only [Act.put, List.getElem_toArray, List.getElem_cons_succ, List.getElem_cons_zero, List.setIfInBounds_toArray, List.set_cons_zero, List.set_cons_succ]
              refine wpAnyH_take (i := 4) (oi := _) (v := undef) rfl (by kernel_rfl) (by kernel_rfl) (by kernel_rfl) (fun _ _ _ h => h) (Or.inr ⟨by kernel_rfl, rfl⟩) hHeld ?_
              try simp only [Act.put, List.getElem_toArray, List.getElem_cons_succ, List.getElem_cons_zero, List.setIfInBounds_toArray, List.set_cons_zero, List.set_cons_succ]
              refine wpAnyH_take (i := 5) (oi := _) (v := undef) rfl (by kernel_rfl) (by kernel_rfl) (by kernel_rfl) (fun _ _ _ h => h) (Or.inr ⟨by kernel_rfl, rfl⟩) hHeld ?_
              try simp only [Act.put, List.getElem_toArray, List.getElem_cons_succ, List.getElem_cons_zero, List.setIfInBounds_toArray, List.set_cons_zero, List.set_cons_succ]
              refine wpAnyH_take (i := 6) (oi := _) (v := undef) rfl (by kernel_rfl) (by kernel_rfl) (by kernel_rfl) (fun _ _ _ h => h) (Or.inr ⟨by kernel_rfl, rfl⟩) hHeld ?_
              try simp only [Act.put, List.getElem_toArray, List.getElem_cons_succ, List.getElem_cons_zero, List.setIfInBounds_toArray, List.set_cons_zero, List.set_cons_succ]
              refine wpAnyH_take (i := 7) (oi := _) (v := undef) rfl (by kernel_rfl) (by kernel_rfl) (by kernel_rfl) (fun _ _ _ h => h) (Or.inr ⟨by kernel_rfl, rfl⟩) hHeld ?_
              try simp only [Act.put, List.getElem_toArray, List.getElem_cons_succ, List.getElem_cons_zero, List.setIfInBounds_toArray, List.set_cons_zero, List.set_cons_succ]
              refine wpAnyH_take (i := 8) (oi := _) (v := undef) rfl (by kernel_rfl) (by kernel_rfl) (by kernel_rfl) (fun _ _ _ h => h) (Or.inr ⟨by kernel_rfl, rfl⟩) hHeld ?_
              try simp only [Act.put, List.getElem_toArray, List.getElem_cons_succ, List.getElem_cons_zero, List.setIfInBounds_toArray, List.set_cons_zero, List.set_cons_succ]
              refine wpAnyH_take (i := 9) (oi := _) (v := undef) rfl (by kernel_rfl) (by kernel_rfl) (by kernel_rfl) (fun _ _ _ h => h) (Or.inr ⟨by kernel_rfl, rfl⟩) hHeld ?_
              try simp only [Act.put, List.getElem_toArray, List.getElem_cons_succ, List.getElem_cons_zero, List.setIfInBounds_toArray, List.set_cons_zero, List.set_cons_succ]
              refine wpAnyH_take (i := 10) (oi := _) (v := undef) rfl (by kernel_rfl) (by kernel_rfl) (by kernel_rfl) (fun _ _ _ h => h) (Or.inr ⟨by kernel_rfl, rfl⟩) hHeld ?_
              try simp only [Act.put, List.getElem_toArray, List.getElem_cons_succ, List.getElem_cons_zero, List.setIfInBounds_toArray, List.set_cons_zero, List.set_cons_succ]
              refine wpAnyH_take (i := 11) (oi := _) (v := undef) rfl (by kernel_rfl) (by kernel_rfl) (by kernel_rfl) (fun _ _ _ h => h) (Or.inr ⟨by kernel_rfl, rfl⟩) hHeld ?_
              try simp only [Act.put, List.getElem_toArray, List.getElem_cons_succ, List.getElem_cons_zero, List.setIfInBounds_toArray, List.set_cons_zero, List.set_cons_succ]
              refine wpAnyH_take (i := 12) (oi := _) (v := undef) rfl (by kernel_rfl) (by kernel_rfl) (by kernel_rfl) (fun _ _ _ h => h) (Or.inr ⟨by kernel_rfl, rfl⟩) hHeld ?_
              try simp only [Act.put, List.getElem_toArray, List.getElem_cons_succ, List.getElem_cons_zero, List.setIfInBounds_toArray, List.set_cons_zero, List.set_cons_succ]
              refine wpAnyH_take (i := 13) (oi := _) (v := undef) rfl (by kernel_rfl) (by kernel_rfl) (by kernel_rfl) (fun _ _ _ h => h) (Or.inr ⟨by kernel_rfl, rfl⟩) hHeld ?_
              try simp only [Act.put, List.getElem_toArray, List.getElem_cons_succ, List.getElem_cons_zero, List.setIfInBounds_toArray, List.set_cons_zero, List.set_cons_succ]
              refine wpAnyH_take (i := 14) (oi := _) (v := undef) rfl (by kernel_rfl) (by kernel_rfl) (by kernel_rfl) (fun _ _ _ h => h) (Or.inr ⟨by kernel_rfl, rfl⟩) hHeld ?_
              try simp only [Act.put, List.getElem_toArray, List.getElem_cons_succ, List.getElem_cons_zero, List.setIfInBounds_toArray, List.set_cons_zero, List.set_cons_succ]
              refine wpAnyH_take (i := 15) (oi := _) (v := undef) rfl (by kernel_rfl) (by kernel_rfl) (by kernel_rfl) (fun _ _ _ h => h) (Or.inr ⟨by kernel_rfl, rfl⟩) hHeld ?_
              try simp only [Act.put, List.getElem_toArray, List.getElem_cons_succ, List.getElem_cons_zero, List.setIfInBounds_toArray, List.set_cons_zero, List.set_cons_succ]
              refine wpAnyH_take (i := 16) (oi := _) (v := undef) rfl (by kernel_rfl) (by kernel_rfl) (by kernel_rfl) (fun _ _ _ h => h) (Or.inr ⟨by kernel_rfl, rfl⟩) hHeld ?_
              try simp only [Act.put, List.getElem_toArray, List.getElem_cons_succ, List.getElem_cons_zero, List.setIfInBounds_toArray, List.set_cons_zero, List.set_cons_succ]
              refine wpAnyH_take (i := 17) (oi := _) (v := undef) rfl (by kernel_rfl) (by kernel_rfl) (by kernel_rfl) (fun _ _ _ h => h) (Or.inr ⟨by kernel_rfl, rfl⟩) hHeld ?_
              try simp only [Act.put, List.getElem_toArray, List.getElem_cons_succ, List.getElem_cons_zero, List.setIfInBounds_toArray, List.set_cons_zero, List.set_cons_succ]
              refine wpAnyH_take (i := 18) (oi := _) (v := undef) rfl (by kernel_rfl) (by kernel_rfl) (by kernel_rfl) (fun _ _ _ h => h) (Or.inr ⟨by kernel_rfl, rfl⟩) hHeld ?_
              try simp only [Act.put, List.getElem_toArray, List.getElem_cons_succ, List.getElem_cons_zero, List.setIfInBounds_toArray, List.set_cons_zero, List.set_cons_succ]
              refine wpAnyH_take (i := 19) (oi := _) (v := undef) rfl (by kernel_rfl) (by kernel_rfl) (by kernel_rfl) (fun _ _ _ h => h) (Or.inr ⟨by kernel_rfl, rfl⟩) hHeld ?_
              try simp only [Act.put, List.getElem_toArray, List.getElem_cons_succ, List.getElem_cons_zero, List.setIfInBounds_toArray, List.set_cons_zero, List.set_cons_succ]
              refine wpAnyH_take (i := 20) (oi := _) (v := undef) rfl (by kernel_rfl) (by kernel_rfl) (by kernel_rfl) (fun _ _ _ h => h) (Or.inr ⟨by kernel_rfl, rfl⟩) hHeld ?_
              try simp only [Act.put, List.getElem_toArray, List.getElem_cons_succ, List.getElem_cons_zero, List.setIfInBounds_toArray, List.set_cons_zero, List.set_cons_succ]
              refine wpAnyH_take (i := 21) (oi := _) (v := undef) rfl (by kernel_rfl) (by kernel_rfl) (by kernel_rfl) (fun _ _ _ h => h) (Or.inr ⟨by kernel_rfl, rfl⟩) hHeld ?_
              try simp only [Act.put, List.getElem_toArray, List.getElem_cons_succ, List.getElem_cons_zero, List.setIfInBounds_toArray, List.set_cons_zero, List.set_cons_succ]
              refine wpAnyH_take (i := 22) (oi := _) (v := undef) rfl (by kernel_rfl) (by kernel_rfl) (by kernel_rfl) (fun _ _ _ h => h) (Or.inr ⟨by kernel_rfl, rfl⟩) hHeld ?_
              try simp only [Act.put, List.getElem_toArray, List.getElem_cons_succ, List.getElem_cons_zero, List.setIfInBounds_toArray, List.set_cons_zero, List.set_cons_succ]
              refine wpAnyH_take (i := 23) (oi := _) (v := undef) rfl (by kernel_rfl) (by kernel_rfl) (by kernel_rfl) (fun _ _ _ h => h) (Or.inr ⟨by kernel_rfl, rfl⟩) hHeld ?_
              try simp only [Act.put, List.getElem_toArray, List.getElem_cons_succ, List.getElem_cons_zero, List.setIfInBounds_toArray, List.set_cons_zero, List.set_cons_succ]
              refine wpAnyH_take (i := 24) (oi := _) (v := ?vt25) rfl (by kernel_rfl) (by kernel_rfl) (by kernel_rfl) (fun _ _ _ h => h) (Or.inl ⟨by kernel_rfl, ?hyt25⟩) hHeld ?restt25
              case hyt25 => (intro w hSw; go_simp; first | done | (with_reducible rfl))
              try simp only [Act.put, List.getElem_toArray, List.getElem_cons_succ, List.getElem_cons_zero, List.setIfInBounds_toArray, List.set_cons_zero, List.set_cons_succ]
              refine wpAnyH_take (i := 25) (oi := _) (v := ?vt26) rfl (by kernel_rfl) (by kernel_rfl) (by kernel_rfl) (fun _ _ _ h => h) (Or.inl ⟨by kernel_rfl, ?hyt26⟩) hHeld ?restt26
              case hyt26 => (intro w hSw; go_simp; first | done | (with_reducible rfl))
              try simp only [Act.put, List.getElem_toArray, List.getElem_cons_succ, List.getElem_cons_zero, List.setIfInBounds_toArray, List.set_cons_zero, List.set_cons_succ]
              refine wpAnyH_done (by kernel_rfl) ?_ _
              refine NoPanic.normal ?_
              replace hR2 := hR2.keep hHeld
              clear hHeld
              go_wp2_with fail
              go_roundw
              case rel => exact ⟨i, _, (i : Int) - 1, by omega, by go_num, rfl, rfl, EZ.out, HE1.out ▸ hR2⟩
              case measure => (simp [intOf] <;> omega)
            case false =>
              by_cases h1 : qq < s.1
              · rw [decide_eq_true h1] at la
                have LA := Lib.hid la
                have EZ := Lib.hid (show false = (true && Pc.inn (Q.drop i) qq) by rw [HIN.out]; unfold Pc.hitS; rw [decide_eq_true h1]; rfl)
                clear la lb h1
                go_upto_region 11 with fail
                refine wp_region_noPanic ?_
                refine wp_region_held_drew (S := (Below w4.heap.size w4)) (by kernel_rfl) ((Below.refl _ _).drew) (fun hHeld => ?_)
                refine at_anyH (Below w4.heap.size w4) hHeld (fun wu0 hNew => ?_)
                clear hHeld
                have hHeld := hNew
                clear hNew
                refine wpAnyH_take (i := 0) (oi := _) (v := ?vu1) rfl (by kernel_rfl) (by kernel_rfl) (by kernel_rfl) (fun _ _ _ h => h) (Or.inl ⟨by kernel_rfl, ?hyu1⟩) hHeld ?restu1
                case hyu1 => (intro w hSw; go_simp; first | done | (with_reducible rfl))
                try simp only [Act.put, List.getElem_toArray, List.getElem_cons_succ, List.getElem_cons_zero, List.setIfInBounds_toArray, List.set_cons_zero, List.set_cons_succ]
                refine wpAnyH_take (i := 1) (oi := _) (v := ?vu2) rfl (by kernel_rfl) (by kernel_rfl) (by kernel_rfl) (fun _ _ _ h => h) (Or.inl ⟨by kernel_rfl, ?hyu2⟩) hHeld ?restu2
                case hyu2 => (intro w hSw; go_simp; first | done | (with_reducible rfl))
                try simp only [Act.put, List.getElem_toArray, List.getElem_cons_succ, List.getElem_cons_zero, List.setIfInBounds_toArray, List.set_cons_zero, List.set_cons_succ]
                refine wpAnyH_take (i := 2) (oi := _) (v := ?vu3) rfl (by kernel_rfl) (by kernel_rfl) (by kernel_rfl) (fun _ _ _ h => h) (Or.inl ⟨by kernel_rfl, ?hyu3⟩) hHeld ?restu3
                case hyu3 => (intro w hSw; have kx0 := keepC hSw x0; have kx1 := keepC hSw x1; have kc0 := keepC hSw c0; have kc1 := keepC hSw c1; have kc2 := keepC hSw c2; have kc3 := keepC hSw c3; go_simp; first | done | (with_reducible rfl))
                try simp only [Act.put, List.getElem_toArray, List.getElem_cons_succ, List.getElem_cons_zero, List.setIfInBounds_toArray, List.set_cons_zero, List.set_cons_succ]
                refine wpAnyH_ready (rs := [3]) (by kernel_rfl) (by simp) (AllReadyH.cons (o := _) rfl (fun K hK => ?_) AllReadyH.nil)
                go_simp
                refine (XCR.out _).mono ?_
                rintro e wu4 ⟨rfl, hb3⟩
                go_wp2_with fail
                refine hK.out _ _ (keepB hHeld hb3) (fun hNew => ?_)
                clear hb3
                clear hHeld hK K
                have hHeld := hNew
                clear hNew
                try simp only [Act.put, List.getElem_toArray, List.getElem_cons_succ, List.getElem_cons_zero, List.setIfInBounds_toArray, List.set_cons_zero, List.set_cons_succ]
                refine wpAnyH_take (i := 4) (oi := _) (v := ?vu5) rfl (by kernel_rfl) (by kernel_rfl) (by kernel_rfl) (fun _ _ _ h => h) (Or.inl ⟨by kernel_rfl, ?hyu5⟩) hHeld ?restu5
                case hyu5 => (intro w hSw; go_simp; first | done | (with_reducible rfl))
                try simp only [Act.put, List.getElem_toArray, List.getElem_cons_succ, List.getElem_cons_zero, List.setIfInBounds_toArray, List.set_cons_zero, List.set_cons_succ]
                refine wpAnyH_take (i := 5) (oi := _) (v := ?vu6) rfl (by kernel_rfl) (by kernel_rfl) (by kernel_rfl) (fun _ _ _ h => h) (Or.inl ⟨by kernel_rfl, ?hyu6⟩) hHeld ?restu6
                case hyu6 => (intro w hSw; go_simp; first | done | (with_reducible rfl))
                try simp only [Act.put, List.getElem_toArray, List.getElem_cons_succ, List.getElem_cons_zero, List.setIfInBounds_toArray, List.set_cons_zero, List.set_cons_succ]
                refine wpAnyH_take (i := 6) (oi := _) (v := ?vu7) rfl (by kernel_rfl) (by kernel_rfl) (by kernel_rfl) (fun _ _ _ h => h) (Or.inl ⟨by kernel_rfl, ?hyu7⟩) hHeld ?restu7
                case hyu7 => (intro w hSw; have kx0 := keepC hSw x0; have kx1 := keepC hSw x1; have kc0 := keepC hSw c0; have kc1 := keepC hSw c1; have kc2 := keepC hSw c2; have kc3 := keepC hSw c3; go_simp; first | done | (with_reducible rfl))
                try simp only [Act.put, List.getElem_toArray, List.getElem_cons_succ, List.getElem_cons_zero, List.setIfInBounds_toArray, List.set_cons_zero, List.set_cons_succ]
                refine wpAnyH_take (i := 7) (oi := _) (v := ?vu8) rfl (by kernel_rfl) (by kernel_rfl) (by kernel_rfl) (fun _ _ _ h => h) (Or.inl ⟨by kernel_rfl, ?hyu8⟩) hHeld ?restu8
                case hyu8 => (intro w hSw; go_simp; first | done | (with_reducible rfl))
                try simp only [Act.put, List.getElem_toArray, List.getElem_cons_succ, List.getElem_cons_zero, List.setIfInBounds_toArray, List.set_cons_zero, List.set_cons_succ]
                refine wpAnyH_take (i := 8) (oi := _) (v := ?vu9) rfl (by kernel_rfl) (by kernel_rfl) (by kernel_rfl) (fun _ _ _ h => h) (Or.inl ⟨by kernel_rfl, ?hyu9⟩) hHeld ?restu9
                case hyu9 => (intro w hSw; go_simp; first | done | (with_reducible rfl))
                try simp only [Act.put, List.getElem_toArray, List.getElem_cons_succ, List.getElem_cons_zero, List.setIfInBounds_toArray, List.set_cons_zero, List.set_cons_succ]
                refine wpAnyH_take (i := 9) (oi := _) (v := ?vu10) rfl (by kernel_rfl) (by kernel_rfl) (by kernel_rfl) (fun _ _ _ h => h) (Or.inl ⟨by kernel_rfl, ?hyu10⟩) hHeld ?restu10
                case hyu10 => (intro w hSw; go_simp; first | done | (with_reducible rfl))
                try simp only [Act.put, List.getElem_toArray, List.getElem_cons_succ, List.getElem_cons_zero, List.setIfInBounds_toArray, List.set_cons_zero, List.set_cons_succ]
                refine wpAnyH_take (i := 10) (oi := _) (v := ?vu11) rfl (by kernel_rfl) (by kernel_rfl) (by kernel_rfl) (fun _ _ _ h => h) (Or.inl ⟨by kernel_rfl, ?hyu11⟩) hHeld ?restu11
                case hyu11 => (intro w hSw; go_simp; first | done | (with_reducible rfl))
                try simp only [Act.put, List.getElem_toArray, List.getElem_cons_succ, List.getElem_cons_zero, List.setIfInBounds_toArray, List.set_cons_zero, List.set_cons_succ]
                refine wpAnyH_take (i := 11) (oi := _) (v := ?vu12) rfl (by kernel_rfl) (by kernel_rfl) (by kernel_rfl) (fun _ _ _ h => h) (Or.inl ⟨by kernel_rfl, ?hyu12⟩) hHeld ?restu12
                case hyu12 => (intro w hSw; have kx0 := keepC hSw x0; have kx1 := keepC hSw x1; have kc0 := keepC hSw c0; have kc1 := keepC hSw c1; have kc2 := keepC hSw c2; have kc3 := keepC hSw c3; go_simp; first | done | (with_reducible rfl))
                try simp only [Act.put, List.getElem_toArray, List.getElem_cons_succ, List.getElem_cons_zero, List.setIfInBounds_toArray, List.set_cons_zero, List.set_cons_succ]
                refine wpAnyH_ready (rs := [12]) (by kernel_rfl) (by simp) (AllReadyH.cons (o := _) rfl (fun K hK => ?_) AllReadyH.nil)
                go_simp
                refine (LA.out _).mono ?_
                rintro e wu13 ⟨rfl, hb3⟩
                go_wp2_with fail
                refine hK.out _ _ (keepB hHeld hb3) (fun hNew => ?_)
                clear hb3
                clear hHeld hK K
                have hHeld := hNew
                clear hNew
                try simp only [Act.put, List.getElem_toArray, List.getElem_cons_succ, List.getElem_cons_zero, List.setIfInBounds_toArray, List.set_cons_zero, List.set_cons_succ]
                refine wpAnyH_take (i := 13) (oi := _) (v := ?vu14) rfl (by kernel_rfl) (by kernel_rfl) (by kernel_rfl) (fun _ _ _ h => h) (Or.inl ⟨by kernel_rfl, ?hyu14⟩) hHeld ?restu14
                case hyu14 => (intro w hSw; go_simp; first | done | (with_reducible rfl))
                try simp only [Act.put, List.getElem_toArray, List.getElem_cons_succ, List.getElem_cons_zero, List.setIfInBounds_toArray, List.set_cons_zero, List.set_cons_succ]
                refine wpAnyH_take (i := 14) (oi := _) (v := ?vu15) rfl (by kernel_rfl) (by kernel_rfl) (by kernel_rfl) (fun _ _ _ h => h) (Or.inl ⟨by kernel_rfl, ?hyu15⟩) hHeld ?restu15
                case hyu15 => (intro w hSw; go_simp; first | done | (with_reducible rfl))
                try simp only [Act.put, List.getElem_toArray, List.getElem_cons_succ, List.getElem_cons_zero, List.setIfInBounds_toArray, List.set_cons_zero, List.set_cons_succ]
                refine wpAnyH_take (i := 15) (oi := _) (v := ?vu16) rfl (by kernel_rfl) (by kernel_rfl) (by kernel_rfl) (fun _ _ _ h => h) (Or.inl ⟨by kernel_rfl, ?hyu16⟩) hHeld ?restu16
                case hyu16 => (intro w hSw; go_simp; first | done | (with_reducible rfl))
                try simp only [Act.put, List.getElem_toArray, List.getElem_cons_succ, List.getElem_cons_zero, List.setIfInBounds_toArray, List.set_cons_zero, List.set_cons_succ]
                refine wpAnyH_take (i := 16) (oi := _) (v := undef) rfl (by kernel_rfl) (by kernel_rfl) (by kernel_rfl) (fun _ _ _ h => h) (Or.inr ⟨by kernel_rfl, rfl⟩) hHeld ?_
                try simp only [Act.put, List.getElem_toArray, List.getElem_cons_succ, List.getElem_cons_zero, List.setIfInBounds_toArray, List.set_cons_zero, List.set_cons_succ]
                refine wpAnyH_take (i := 17) (oi := _) (v := undef) rfl (by kernel_rfl) (by kernel_rfl) (by kernel_rfl) (fun _ _ _ h => h) (Or.inr ⟨by kernel_rfl, rfl⟩) hHeld ?_
                try simp only [Act.put, List.getElem_toArray, List.getElem_cons_succ, List.getElem_cons_zero, List.setIfInBounds_toArray, List.set_cons_zero, List.set_cons_succ]
                refine wpAnyH_take (i := 18) (oi := _) (v := undef) rfl (by kernel_rfl) (by kernel_rfl) (by kernel_rfl) (fun _ _ _ h => h) (Or.inr ⟨by kernel_rfl, rfl⟩) hHeld ?_
                try simp only [Act.put, List.getElem_toArray, List.getElem_cons_succ, List.getElem_cons_zero, List.setIfInBounds_toArray, List.set_cons_zero, List.set_cons_succ]
                refine wpAnyH_take (i := 19) (oi := _) (v := undef) rfl (by kernel_rfl) (by kernel_rfl) (by kernel_rfl) (fun _ _ _ h => h) (Or.inr ⟨by kernel_rfl, rfl⟩) hHeld ?_
                try simp only [Act.put, List.getElem_toArray, List.getElem_cons_succ, List.getElem_cons_zero, List.setIfInBounds_toArray, List.set_cons_zero, List.set_cons_succ]
                refine wpAnyH_take (i := 20) (oi := _) (v := undef) rfl (by kernel_rfl) (by kernel_rfl) (by kernel_rfl) (fun _ _ _ h => h) (Or.inr ⟨by kernel_rfl, rfl⟩) hHeld ?_
                try simp only [Act.put, List.getElem_toArray, List.getElem_cons_succ, List.getElem_cons_zero, List.setIfInBounds_toArray, List.set_cons_zero, List.set_cons_succ]
                refine wpAnyH_take (i := 21) (oi := _) (v := undef) rfl (by kernel_rfl) (by kernel_rfl) (by kernel_rfl) (fun _ _ _ h => h) (Or.inr ⟨by kernel_rfl, rfl⟩) hHeld ?_
                try simp only [Act.put, List.getElem_toArray, List.getElem_cons_succ, List.getElem_cons_zero, List.setIfInBounds_toArray, List.set_cons_zero, List.set_cons_succ]
                refine wpAnyH_take (i := 22) (oi := _) (v := undef) rfl (by kernel_rfl) (by kernel_rfl) (by kernel_rfl) (fun _ _ _ h => h) (Or.inr ⟨by kernel_rfl, rfl⟩) hHeld ?_
                try simp only [Act.put, List.getElem_toArray, List.getElem_cons_succ, List.getElem_cons_zero, List.setIfInBounds_toArray, List.set_cons_zero, List.set_cons_succ]
                refine wpAnyH_take (i := 23) (oi := _) (v := ?vu24) rfl (by kernel_rfl) (by kernel_rfl) (by kernel_rfl) (fun _ _ _ h => h) (Or.inl ⟨by kernel_rfl, ?hyu24⟩) hHeld ?restu24
                case hyu24 => (intro w hSw; go_simp; first | done | (with_reducible rfl))
                try simp only [Act.put, List.getElem_toArray, List.getElem_cons_succ, List.getElem_cons_zero, List.setIfInBounds_toArray, List.set_cons_zero, List.set_cons_succ]
                refine wpAnyH_take (i := 24) (oi := _) (v := ?vu25) rfl (by kernel_rfl) (by kernel_rfl) (by kernel_rfl) (fun _ _ _ h => h) (Or.inl ⟨by kernel_rfl, ?hyu25⟩) hHeld ?restu25
                case hyu25 => (intro w hSw; go_simp; first | done | (with_reducible rfl))
                try simp only [Act.put, List.getElem_toArray, List.getElem_cons_succ, List.getElem_cons_zero, List.setIfInBounds_toArray, List.set_cons_zero, List.set_cons_succ]
                refine wpAnyH_take (i := 25) (oi := _) (v := ?vu26) rfl (by kernel_rfl) (by kernel_rfl) (by kernel_rfl) (fun _ _ _ h => h) (Or.inl ⟨by kernel_rfl, ?hyu26⟩) hHeld ?restu26
                case hyu26 => (intro w hSw; go_simp; first | done | (with_reducible rfl))
                try simp only [Act.put, List.getElem_toArray, List.getElem_cons_succ, List.getElem_cons_zero, List.setIfInBounds_toArray, List.set_cons_zero, List.set_cons_succ]
                refine wpAnyH_done (by kernel_rfl) ?_ _
                refine NoPanic.normal ?_
                replace hR2 := hR2.keep hHeld
                clear hHeld
                go_wp2_with fail
                go_roundw
                case rel => exact ⟨i, _, (i : Int) - 1, by omega, by go_num, rfl, rfl, EZ.out, HE1.out ▸ hR2⟩
                case measure => (simp [intOf] <;> omega)
              · rw [decide_eq_false h1] at la
                have LA := Lib.hid la
                by_cases h2 : qq < s.2
                · rw [decide_eq_true h2] at lb
                  have LB := Lib.hid lb
                  have EZ := Lib.hid (show true = (true && Pc.inn (Q.drop i) qq) by rw [HIN.out]; unfold Pc.hitS; rw [decide_eq_false h1, decide_eq_true h2]; rfl)
                  clear la lb h1 h2
                  go_upto_region 11 with fail
                  refine wp_region_noPanic ?_
                  refine wp_region_held_drew (S := (Below w4.heap.size w4)) (by kernel_rfl) ((Below.refl _ _).drew) (fun hHeld => ?_)
                  refine at_anyH (Below w4.heap.size w4) hHeld (fun wv0 hNew => ?_)
                  clear hHeld
                  have hHeld := hNew
                  clear hNew
                  refine wpAnyH_take (i := 0) (oi := _) (v := ?vv1) rfl (by kernel_rfl) (by kernel_rfl) (by kernel_rfl) (fun _ _ _ h => h) (Or.inl ⟨by kernel_rfl, ?hyv1⟩) hHeld ?restv1
                  case hyv1 => (intro w hSw; go_simp; first | done | (with_reducible rfl))
                  try simp only [Act.put, List.getElem_toArray, List.getElem_cons_succ, List.getElem_cons_zero, List.setIfInBounds_toArray, List.set_cons_zero, List.set_cons_succ]
                  refine wpAnyH_take (i := 1) (oi := _) (v := ?vv2) rfl (by kernel_rfl) (by kernel_rfl) (by kernel_rfl) (fun _ _ _ h => h) (Or.inl ⟨by kernel_rfl, ?hyv2⟩) hHeld ?restv2
                  case hyv2 => (intro w hSw; go_simp; first | done | (with_reducible rfl))
                  try simp only [Act.put, List.getElem_toArray, List.getElem_cons_succ, List.getElem_cons_zero, List.setIfInBounds_toArray, List.set_cons_zero, List.set_cons_succ]
                  refine wpAnyH_take (i := 2) (oi := _) (v := ?vv3) rfl (by kernel_rfl) (by kernel_rfl) (by kernel_rfl) (fun _ _ _ h => h) (Or.inl ⟨by kernel_rfl, ?hyv3⟩) hHeld ?restv3
                  case hyv3 => (intro w hSw; have kx0 := keepC hSw x0; have kx1 := keepC hSw x1; have kc0 := keepC hSw c0; have kc1 := keepC hSw c1; have kc2 := keepC hSw c2; have kc3 := keepC hSw c3; go_simp; first | done | (with_reducible rfl))
                  try simp only [Act.put, List.getElem_toArray, List.getElem_cons_succ, List.getElem_cons_zero, List.setIfInBounds_toArray, List.set_cons_zero, List.set_cons_succ]
                  refine wpAnyH_ready (rs := [3]) (by kernel_rfl) (by simp) (AllReadyH.cons (o := _) rfl (fun K hK => ?_) AllReadyH.nil)
                  go_simp
                  refine (XCR.out _).mono ?_
                  rintro e wv4 ⟨rfl, hb3⟩
                  go_wp2_with fail
                  refine hK.out _ _ (keepB hHeld hb3) (fun hNew => ?_)
                  clear hb3
                  clear hHeld hK K
                  have hHeld := hNew
                  clear hNew
                  try simp only [Act.put, List.getElem_toArray, List.getElem_cons_succ, List.getElem_cons_zero, List.setIfInBounds_toArray, List.set_cons_zero, List.set_cons_succ]
                  refine wpAnyH_take (i := 4) (oi := _) (v := ?vv5) rfl (by kernel_rfl) (by kernel_rfl) (by kernel_rfl) (fun _ _ _ h => h) (Or.inl ⟨by kernel_rfl, ?hyv5⟩) hHeld ?restv5
                  case hyv5 => (intro w hSw; go_simp; first | done | (with_reducible rfl))
                  try simp only [Act.put, List.getElem_toArray, List.getElem_cons_succ, List.getElem_cons_zero, List.setIfInBounds_toArray, List.set_cons_zero, List.set_cons_succ]
                  refine wpAnyH_take (i := 5) (oi := _) (v := ?vv6) rfl (by kernel_rfl) (by kernel_rfl) (by kernel_rfl) (fun _ _ _ h => h) (Or.inl ⟨by kernel_rfl, ?hyv6⟩) hHeld ?restv6
                  case hyv6 => (intro w hSw; go_simp; first | done | (with_reducible rfl))
                  try simp only [Act.put, List.getElem_toArray, List.getElem_cons_succ, List.getElem_cons_zero, List.setIfInBounds_toArray, List.set_cons_zero, List.set_cons_succ]
                  refine wpAnyH_take (i := 6) (oi := _) (v := ?vv7) rfl (by kernel_rfl) (by kernel_rfl) (by kernel_rfl) (fun _ _ _ h => h) (Or.inl ⟨by kernel_rfl, ?hyv7⟩) hHeld ?restv7
                  case hyv7 => (intro w hSw; have kx0 := keepC hSw x0; have kx1 := keepC hSw x1; have kc0 := keepC hSw c0; have kc1 := keepC hSw c1; have kc2 := keepC hSw c2; have kc3 := keepC hSw c3; go_simp; first | done | (with_reducible rfl))
                  try simp only [Act.put, List.getElem_toArray, List.getElem_cons_succ, List.getElem_cons_zero, List.setIfInBounds_toArray, List.set_cons_zero, List.set_cons_succ]
                  refine wpAnyH_take (i := 7) (oi := _) (v := ?vv8) rfl (by kernel_rfl) (by kernel_rfl) (by kernel_rfl) (fun _ _ _ h => h) (Or.inl ⟨by kernel_rfl, ?hyv8⟩) hHeld ?restv8
                  case hyv8 => (intro w hSw; go_simp; first | done | (with_reducible rfl))
                  try simp only [Act.put, List.getElem_toArray, List.getElem_cons_succ, List.getElem_cons_zero, List.setIfInBounds_toArray, List.set_cons_zero, List.set_cons_succ]
                  refine wpAnyH_take (i := 8) (oi := _) (v := ?vv9) rfl (by kernel_rfl) (by kernel_rfl) (by kernel_rfl) (fun _ _ _ h => h) (Or.inl ⟨by kernel_rfl, ?hyv9⟩) hHeld ?restv9
                  case hyv9 => (intro w hSw; go_simp; first | done | (with_reducible rfl))
                  try simp only [Act.put, List.getElem_toArray, List.getElem_cons_succ, List.getElem_cons_zero, List.setIfInBounds_toArray, List.set_cons_zero, List.set_cons_succ]
                  refine wpAnyH_take (i := 9) (oi := _) (v := ?vv10) rfl (by kernel_rfl) (by kernel_rfl) (by kernel_rfl) (fun _ _ _ h => h) (Or.inl ⟨by kernel_rfl, ?hyv10⟩) hHeld ?restv10
                  case hyv10 => (intro w hSw; go_simp; first | done | (with_reducible rfl))
                  try simp only [Act.put, List.getElem_toArray, List.getElem_cons_succ, List.getElem_cons_zero, List.setIfInBounds_toArray, List.set_cons_zero, List.set_cons_succ]
                  refine wpAnyH_take (i := 10) (oi := _) (v := ?vv11) rfl (by kernel_rfl) (by kernel_rfl) (by kernel_rfl) (fun _ _ _ h => h) (Or.inl ⟨by kernel_rfl, ?hyv11⟩) hHeld ?restv11
                  case hyv11 => (intro w hSw; go_simp; first | done | (with_reducible rfl))
                  try simp only [Act.put, List.getElem_toArray, List.getElem_cons_succ, List.getElem_cons_zero, List.setIfInBounds_toArray, List.set_cons_zero, List.set_cons_succ]
                  refine wpAnyH_take (i := 11) (oi := _) (v := ?vv12) rfl (by kernel_rfl) (by kernel_rfl) (by kernel_rfl) (fun _ _ _ h => h) (Or.inl ⟨by kernel_rfl, ?hyv12⟩) hHeld ?restv12
                  case hyv12 => (intro w hSw; have kx0 := keepC hSw x0; have kx1 := keepC hSw x1; have kc0 := keepC hSw c0; have kc1 := keepC hSw c1; have kc2 := keepC hSw c2; have kc3 := keepC hSw c3; go_simp; first | done | (with_reducible rfl))
                  try simp only [Act.put, List.getElem_toArray, List.getElem_cons_succ, List.getElem_cons_zero, List.setIfInBounds_toArray, List.set_cons_zero, List.set_cons_succ]
                  refine wpAnyH_ready (rs := [12]) (by kernel_rfl) (by simp) (AllReadyH.cons (o := _) rfl (fun K hK => ?_) AllReadyH.nil)
                  go_simp
                  refine (LA.out _).mono ?_
                  rintro e wv13 ⟨rfl, hb3⟩
                  go_wp2_with fail
                  refine hK.out _ _ (keepB hHeld hb3) (fun hNew => ?_)
                  clear hb3
                  clear hHeld hK K
                  have hHeld := hNew
                  clear hNew
                  try simp only [Act.put, List.getElem_toArray, List.getElem_cons_succ, List.getElem_cons_zero, List.setIfInBounds_toArray, List.set_cons_zero, List.set_cons_succ]
                  refine wpAnyH_take (i := 13) (oi := _) (v := ?vv14) rfl (by kernel_rfl) (by kernel_rfl) (by kernel_rfl) (fun _ _ _ h => h) (Or.inl ⟨by kernel_rfl, ?hyv14⟩) hHeld ?restv14
                  case hyv14 => (intro w hSw; go_simp; first | done | (with_reducible rfl))
                  try simp only [Act.put, List.getElem_toArray, List.getElem_cons_succ, List.getElem_cons_zero, List.setIfInBounds_toArray, List.set_cons_zero, List.set_cons_succ]
                  refine wpAnyH_take (i := 14) (oi := _) (v := ?vv15) rfl (by kernel_rfl) (by kernel_rfl) (by kernel_rfl) (fun _ _ _ h => h) (Or.inl ⟨by kernel_rfl, ?hyv15⟩) hHeld ?restv15
                  case hyv15 => (intro w hSw; go_simp; first | done | (with_reducible rfl))
                  try simp only [Act.put, List.getElem_toArray, List.getElem_cons_succ, List.getElem_cons_zero, List.setIfInBounds_toArray, List.set_cons_zero, List.set_cons_succ]
                  refine wpAnyH_take (i := 15) (oi := _) (v := ?vv16) rfl (by kernel_rfl) (by kernel_rfl) (by kernel_rfl) (fun _ _ _ h => h) (Or.inl ⟨by kernel_rfl, ?hyv16⟩) hHeld ?restv16
                  case hyv16 => (intro w hSw; go_simp; first | done | (with_reducible rfl))
                  try simp only [Act.put, List.getElem_toArray, List.getElem_cons_succ, List.getElem_cons_zero, List.setIfInBounds_toArray, List.set_cons_zero, List.set_cons_succ]
                  refine wpAnyH_take (i := 16) (oi := _) (v := ?vv17) rfl (by kernel_rfl) (by kernel_rfl) (by kernel_rfl) (fun _ _ _ h => h) (Or.inl ⟨by kernel_rfl, ?hyv17⟩) hHeld ?restv17
                  case hyv17 => (intro w hSw; have kx0 := keepC hSw x0; have kx1 := keepC hSw x1; have kc0 := keepC hSw c0; have kc1 := keepC hSw c1; have kc2 := keepC hSw c2; have kc3 := keepC hSw c3; go_simp; first | done | (with_reducible rfl))
                  try simp only [Act.put, List.getElem_toArray, List.getElem_cons_succ, List.getElem_cons_zero, List.setIfInBounds_toArray, List.set_cons_zero, List.set_cons_succ]
                  refine wpAnyH_take (i := 17) (oi := _) (v := ?vv18) rfl (by kernel_rfl) (by kernel_rfl) (by kernel_rfl) (fun _ _ _ h => h) (Or.inl ⟨by kernel_rfl, ?hyv18⟩) hHeld ?restv18
                  case hyv18 => (intro w hSw; go_simp; first | done | (with_reducible rfl))
                  try simp only [Act.put, List.getElem_toArray, List.getElem_cons_succ, List.getElem_cons_zero, List.setIfInBounds_toArray, List.set_cons_zero, List.set_cons_succ]
                  refine wpAnyH_take (i := 18) (oi := _) (v := ?vv19) rfl (by kernel_rfl) (by kernel_rfl) (by kernel_rfl) (fun _ _ _ h => h) (Or.inl ⟨by kernel_rfl, ?hyv19⟩) hHeld ?restv19
                  case hyv19 => (intro w hSw; go_simp; first | done | (with_reducible rfl))
                  try simp only [Act.put, List.getElem_toArray, List.getElem_cons_succ, List.getElem_cons_zero, List.setIfInBounds_toArray, List.set_cons_zero, List.set_cons_succ]
                  refine wpAnyH_take (i := 19) (oi := _) (v := ?vv20) rfl (by kernel_rfl) (by kernel_rfl) (by kernel_rfl) (fun _ _ _ h => h) (Or.inl ⟨by kernel_rfl, ?hyv20⟩) hHeld ?restv20
                  case hyv20 => (intro w hSw; go_simp; first | done | (with_reducible rfl))
                  try simp only [Act.put, List.getElem_toArray, List.getElem_cons_succ, List.getElem_cons_zero, List.setIfInBounds_toArray, List.set_cons_zero, List.set_cons_succ]
                  refine wpAnyH_take (i := 20) (oi := _) (v := ?vv21) rfl (by kernel_rfl) (by kernel_rfl) (by kernel_rfl) (fun _ _ _ h => h) (Or.inl ⟨by kernel_rfl, ?hyv21⟩) hHeld ?restv21
                  case hyv21 => (intro w hSw; go_simp; first | done | (with_reducible rfl))
                  try simp only [Act.put, List.getElem_toArray, List.getElem_cons_succ, List.getElem_cons_zero, List.setIfInBounds_toArray, List.set_cons_zero, List.set_cons_succ]
                  refine wpAnyH_take (i := 21) (oi := _) (v := ?vv22) rfl (by kernel_rfl) (by kernel_rfl) (by kernel_rfl) (fun _ _ _ h => h) (Or.inl ⟨by kernel_rfl, ?hyv22⟩) hHeld ?restv22
                  case hyv22 => (intro w hSw; have kx0 := keepC hSw x0; have kx1 := keepC hSw x1; have kc0 := keepC hSw c0; have kc1 := keepC hSw c1; have kc2 := keepC hSw c2; have kc3 := keepC hSw c3; go_simp; first | done | (with_reducible rfl))
                  try simp only [Act.put, List.getElem_toArray, List.getElem_cons_succ, List.getElem_cons_zero, List.setIfInBounds_toArray, List.set_cons_zero, List.set_cons_succ]
                  refine wpAnyH_ready (rs := [22]) (by kernel_rfl) (by simp) (AllReadyH.cons (o := _) rfl (fun K hK => ?_) AllReadyH.nil)
                  go_simp
                  refine (LB.out _).mono ?_
                  rintro e wv23 ⟨rfl, hb3⟩
                  go_wp2_with fail
                  refine hK.out _ _ (keepB hHeld hb3) (fun hNew => ?_)
                  clear hb3
                  clear hHeld hK K
                  have hHeld := hNew
                  clear hNew
                  try simp only [Act.put, List.getElem_toArray, List.getElem_cons_succ, List.getElem_cons_zero, List.setIfInBounds_toArray, List.set_cons_zero, List.set_cons_succ]
                  refine wpAnyH_take (i := 23) (oi := _) (v := ?vv24) rfl (by kernel_rfl) (by kernel_rfl) (by kernel_rfl) (fun _ _ _ h => h) (Or.inl ⟨by kernel_rfl, ?hyv24⟩) hHeld ?restv24
                  case hyv24 => (intro w hSw; go_simp; first | done | (with_reducible rfl))
                  try simp only [Act.put, List.getElem_toArray, List.getElem_cons_succ, List.getElem_cons_zero, List.setIfInBounds_toArray, List.set_cons_zero, List.set_cons_succ]
                  refine wpAnyH_take (i := 24) (oi := _) (v := ?vv25) rfl (by kernel_rfl) (by kernel_rfl) (by kernel_rfl) (fun _ _ _ h => h) (Or.inl ⟨by kernel_rfl, ?hyv25⟩) hHeld ?restv25
                  case hyv25 => (intro w hSw; go_simp; first | done | (with_reducible rfl))
                  try simp only [Act.put, List.getElem_toArray, List.getElem_cons_succ, List.getElem_cons_zero, List.setIfInBounds_toArray, List.set_cons_zero, List.set_cons_succ]
                  refine wpAnyH_take (i := 25) (oi := _) (v := ?vv26) rfl (by kernel_rfl) (by kernel_rfl) (by kernel_rfl) (fun _ _ _ h => h) (Or.inl ⟨by kernel_rfl, ?hyv26⟩) hHeld ?restv26
                  case hyv26 => (intro w hSw; go_simp; first | done | (with_reducible rfl))
                  try simp only [Act.put, List.getElem_toArray, List.getElem_cons_succ, List.getElem_cons_zero, List.setIfInBounds_toArray, List.set_cons_zero, List.set_cons_succ]
                  refine wpAnyH_done (by kernel_rfl) ?_ _
                  refine NoPanic.normal ?_
                  replace hR2 := hR2.keep hHeld
                  clear hHeld
                  go_wp2_with fail
                  go_roundw
                  case rel => exact ⟨i, _, (i : Int) - 1, by omega, by go_num, rfl, rfl, EZ.out, HE1.out ▸ hR2⟩
                  case measure => (simp [intOf] <;> omega)
                · rw [decide_eq_false h2] at lb
                  have LB := Lib.hid lb
                  have EZ := Lib.hid (show false = (true && Pc.inn (Q.drop i) qq) by rw [HIN.out]; unfold Pc.hitS; rw [decide_eq_false h2]; simp)
                  clear la lb h1 h2
                  go_upto_region 11 with fail
                  refine wp_region_noPanic ?_
                  refine wp_region_held_drew (S := (Below w4.heap.size w4)) (by kernel_rfl) ((Below.refl _ _).drew) (fun hHeld => ?_)
                  refine at_anyH (Below w4.heap.size w4) hHeld (fun wx0 hNew => ?_)
                  clear hHeld
                  have hHeld := hNew
                  clear hNew
                  refine wpAnyH_take (i := 0) (oi := _) (v := ?vx1) rfl (by kernel_rfl) (by kernel_rfl) (by kernel_rfl) (fun _ _ _ h => h) (Or.inl ⟨by kernel_rfl, ?hyx1⟩) hHeld ?restx1
                  case hyx1 => (intro w hSw; go_simp; first | done | (with_reducible rfl))
                  try simp only [Act.put, List.getElem_toArray, List.getElem_cons_succ, List.getElem_cons_zero, List.setIfInBounds_toArray, List.set_cons_zero, List.set_cons_succ]
                  refine wpAnyH_take (i := 1) (oi := _) (v := ?vx2) rfl (by kernel_rfl) (by kernel_rfl) (by kernel_rfl) (fun _ _ _ h => h) (Or.inl ⟨by kernel_rfl, ?hyx2⟩) hHeld ?restx2
                  case hyx2 => (intro w hSw; go_simp; first | done | (with_reducible rfl))
                  try simp only [Act.put, List.getElem_toArray, List.getElem_cons_succ, List.getElem_cons_zero, List.setIfInBounds_toArray, List.set_cons_zero, List.set_cons_succ]
                  refine wpAnyH_take (i := 2) (oi := _) (v := ?vx3) rfl (by kernel_rfl) (by kernel_rfl) (by kernel_rfl) (fun _ _ _ h => h) (Or.inl ⟨by kernel_rfl, ?hyx3⟩) hHeld ?restx3
                  case hyx3 => (intro w hSw; have kx0 := keepC hSw x0; have kx1 := keepC hSw x1; have kc0 := keepC hSw c0; have kc1 := keepC hSw c1; have kc2 := keepC hSw c2; have kc3 := keepC hSw c3; go_simp; first | done | (with_reducible rfl))
                  try simp only [Act.put, List.getElem_toArray, List.getElem_cons_succ, List.getElem_cons_zero, List.setIfInBounds_toArray, List.set_cons_zero, List.set_cons_succ]
                  refine wpAnyH_ready (rs := [3]) (by kernel_rfl) (by simp) (AllReadyH.cons (o := _) rfl (fun K hK => ?_) AllReadyH.nil)
                  go_simp
                  refine (XCR.out _).mono ?_
                  rintro e wx4 ⟨rfl, hb3⟩
                  go_wp2_with fail
                  refine hK.out _ _ (keepB hHeld hb3) (fun hNew => ?_)
                  clear hb3
                  clear hHeld hK K
                  have hHeld := hNew
                  clear hNew
                  try simp only [Act.put, List.getElem_toArray, List.getElem_cons_succ, List.getElem_cons_zero, List.setIfInBounds_toArray, List.set_cons_zero, List.set_cons_succ]
                  refine wpAnyH_take (i := 4) (oi := _) (v := ?vx5) rfl (by kernel_rfl) (by kernel_rfl) (by kernel_rfl) (fun _ _ _ h => h) (Or.inl ⟨by kernel_rfl, ?hyx5⟩) hHeld ?restx5
                  case hyx5 => (intro w hSw; go_simp; first | done | (with_reducible rfl))
                  try simp only [Act.put, List.getElem_toArray, List.getElem_cons_succ, List.getElem_cons_zero, List.setIfInBounds_toArray, List.set_cons_zero, List.set_cons_succ]
                  refine wpAnyH_take (i := 5) (oi := _) (v := ?vx6) rfl (by kernel_rfl) (by kernel_rfl) (by kernel_rfl) (fun _ _ _ h => h) (Or.inl ⟨by kernel_rfl, ?hyx6⟩) hHeld ?restx6
                  case hyx6 => (intro w hSw; go_simp; first | done | (with_reducible rfl))
                  try simp only [Act.put, List.getElem_toArray, List.getElem_cons_succ, List.getElem_cons_zero, List.setIfInBounds_toArray, List.set_cons_zero, List.set_cons_succ]
                  refine wpAnyH_take (i := 6) (oi := _) (v := ?vx7) rfl (by kernel_rfl) (by kernel_rfl) (by kernel_rfl) (fun _ _ _ h => h) (Or.inl ⟨by kernel_rfl, ?hyx7⟩) hHeld ?restx7
                  case hyx7 => (intro w hSw; have kx0 := keepC hSw x0; have kx1 := keepC hSw x1; have kc0 := keepC hSw c0; have kc1 := keepC hSw c1; have kc2 := keepC hSw c2; have kc3 := keepC hSw c3; go_simp; first | done | (with_reducible rfl))
                  try simp only [Act.put, List.getElem_toArray, List.getElem_cons_succ, List.getElem_cons_zero, List.setIfInBounds_toArray, List.set_cons_zero, List.set_cons_succ]
                  refine wpAnyH_take (i := 7) (oi := _) (v := ?vx8) rfl (by kernel_rfl) (by kernel_rfl) (by kernel_rfl) (fun _ _ _ h => h) (Or.inl ⟨by kernel_rfl, ?hyx8⟩) hHeld ?restx8
                  case hyx8 => (intro w hSw; go_simp; first | done | (with_reducible rfl))
                  try simp only [Act.put, List.getElem_toArray, List.getElem_cons_succ, List.getElem_cons_zero, List.setIfInBounds_toArray, List.set_cons_zero, List.set_cons_succ]
                  refine wpAnyH_take (i := 8) (oi := _) (v := ?vx9) rfl (by kernel_rfl) (by kernel_rfl) (by kernel_rfl) (fun _ _ _ h => h) (Or.inl ⟨by kernel_rfl, ?hyx9⟩) hHeld ?restx9
                  case hyx9 => (intro w hSw; go_simp; first | done | (with_reducible rfl))
                  try simp only [Act.put, List.getElem_toArray, List.getElem_cons_succ, List.getElem_cons_zero, List.setIfInBounds_toArray, List.set_cons_zero, List.set_cons_succ]
                  refine wpAnyH_take (i := 9) (oi := _) (v := ?vx10) rfl (by kernel_rfl) (by kernel_rfl) (by kernel_rfl) (fun _ _ _ h => h) (Or.inl ⟨by kernel_rfl, ?hyx10⟩) hHeld ?restx10
                  case hyx10 => (intro w hSw; go_simp; first | done | (with_reducible rfl))
                  try simp only [Act.put, List.getElem_toArray, List.getElem_cons_succ, List.getElem_cons_zero, List.setIfInBounds_toArray, List.set_cons_zero, List.set_cons_succ]
                  refine wpAnyH_take (i := 10) (oi := _) (v := ?vx11) rfl (by kernel_rfl) (by kernel_rfl) (by kernel_rfl) (fun _ _ _ h => h) (Or.inl ⟨by kernel_rfl, ?hyx11⟩) hHeld ?restx11
                  case hyx11 => (intro w hSw; go_simp; first | done | (with_reducible rfl))
                  try simp only [Act.put, List.getElem_toArray, List.getElem_cons_succ, List.getElem_cons_zero, List.setIfInBounds_toArray, List.set_cons_zero, List.set_cons_succ]
                  refine wpAnyH_take (i := 11) (oi := _) (v := ?vx12) rfl (by kernel_rfl) (by kernel_rfl) (by kernel_rfl) (fun _ _ _ h => h) (Or.inl ⟨by kernel_rfl, ?hyx12⟩) hHeld ?restx12
                  case hyx12 => (intro w hSw; have kx0 := keepC hSw x0; have kx1 := keepC hSw x1; have kc0 := keepC hSw c0; have kc1 := keepC hSw c1; have kc2 := keepC hSw c2; have kc3 := keepC hSw c3; go_simp; first | done | (with_reducible rfl))
                  try simp only [Act.put, List.getElem_toArray, List.getElem_cons_succ, List.getElem_cons_zero, List.setIfInBounds_toArray, List.set_cons_zero, List.set_cons_succ]
                  refine wpAnyH_ready (rs := [12]) (by kernel_rfl) (by simp) (AllReadyH.cons (o := _) rfl (fun K hK => ?_) AllReadyH.nil)
                  go_simp
                  refine (LA.out _).mono ?_
                  rintro e wx13 ⟨rfl, hb3⟩
                  go_wp2_with fail
                  refine hK.out _ _ (keepB hHeld hb3) (fun hNew => ?_)
                  clear hb3
                  clear hHeld hK K
                  have hHeld := hNew
                  clear hNew
                  try simp only [Act.put, List.getElem_toArray, List.getElem_cons_succ, List.getElem_cons_zero, List.setIfInBounds_toArray, List.set_cons_zero, List.set_cons_succ]
                  refine wpAnyH_take (i := 13) (oi := _) (v := ?vx14) rfl (by kernel_rfl) (by kernel_rfl) (by kernel_rfl) (fun _ _ _ h => h) (Or.inl ⟨by kernel_rfl, ?hyx14⟩) hHeld ?restx14
                  case hyx14 => (intro w hSw; go_simp; first | done | (with_reducible rfl))
                  try simp only [Act.put, List.getElem_toArray, List.getElem_cons_succ, List.getElem_cons_zero, List.setIfInBounds_toArray, List.set_cons_zero, List.set_cons_succ]
                  refine wpAnyH_take (i := 14) (oi := _) (v := ?vx15) rfl (by kernel_rfl) (by kernel_rfl) (by kernel_rfl) (fun _ _ _ h => h) (Or.inl ⟨by kernel_rfl, ?hyx15⟩) hHeld ?restx15
                  case hyx15 => (intro w hSw; go_simp; first | done | (with_reducible rfl))
                  try simp only [Act.put, List.getElem_toArray, List.getElem_cons_succ, List.getElem_cons_zero, List.setIfInBounds_toArray, List.set_cons_zero, List.set_cons_succ]
                  refine wpAnyH_take (i := 15) (oi := _) (v := ?vx16) rfl (by kernel_rfl) (by kernel_rfl) (by kernel_rfl) (fun _ _ _ h => h) (Or.inl ⟨by kernel_rfl, ?hyx16⟩) hHeld ?restx16
                  case hyx16 => (intro w hSw; go_simp; first | done | (with_reducible rfl))
                  try simp only [Act.put, List.getElem_toArray, List.getElem_cons_succ, List.getElem_cons_zero, List.setIfInBounds_toArray, List.set_cons_zero, List.set_cons_succ]
                  refine wpAnyH_take (i := 16) (oi := _) (v := ?vx17) rfl (by kernel_rfl) (by kernel_rfl) (by kernel_rfl) (fun _ _ _ h => h) (Or.inl ⟨by kernel_rfl, ?hyx17⟩) hHeld ?restx17
                  case hyx17 => (intro w hSw; have kx0 := keepC hSw x0; have kx1 := keepC hSw x1; have kc0 := keepC hSw c0; have kc1 := keepC hSw c1; have kc2 := keepC hSw c2; have kc3 := keepC hSw c3; go_simp; first | done | (with_reducible rfl))
                  try simp only [Act.put, List.getElem_toArray, List.getElem_cons_succ, List.getElem_cons_zero, List.setIfInBounds_toArray, List.set_cons_zero, List.set_cons_succ]
                  refine wpAnyH_take (i := 17) (oi := _) (v := ?vx18) rfl (by kernel_rfl) (by kernel_rfl) (by kernel_rfl) (fun _ _ _ h => h) (Or.inl ⟨by kernel_rfl, ?hyx18⟩) hHeld ?restx18
                  case hyx18 => (intro w hSw; go_simp; first | done | (with_reducible rfl))
                  try simp only [Act.put, List.getElem_toArray, List.getElem_cons_succ, List.getElem_cons_zero, List.setIfInBounds_toArray, List.set_cons_zero, List.set_cons_succ]
                  refine wpAnyH_take (i := 18) (oi := _) (v := ?vx19) rfl (by kernel_rfl) (by kernel_rfl) (by kernel_rfl) (fun _ _ _ h => h) (Or.inl ⟨by kernel_rfl, ?hyx19⟩) hHeld ?restx19
                  case hyx19 => (intro w hSw; go_simp; first | done | (with_reducible rfl))
                  try simp only [Act.put, List.getElem_toArray, List.getElem_cons_succ, List.getElem_cons_zero, List.setIfInBounds_toArray, List.set_cons_zero, List.set_cons_succ]
                  refine wpAnyH_take (i := 19) (oi := _) (v := ?vx20) rfl (by kernel_rfl) (by kernel_rfl) (by kernel_rfl) (fun _ _ _ h => h) (Or.inl ⟨by kernel_rfl, ?hyx20⟩) hHeld ?restx20
                  case hyx20 => (intro w hSw; go_simp; first | done | (with_reducible rfl))
                  try simp only [Act.put, List.getElem_toArray, List.getElem_cons_succ, List.getElem_cons_zero, List.setIfInBounds_toArray, List.set_cons_zero, List.set_cons_succ]
                  refine wpAnyH_take (i := 20) (oi := _) (v := ?vx21) rfl (by kernel_rfl) (by kernel_rfl) (by kernel_rfl) (fun _ _ _ h => h) (Or.inl ⟨by kernel_rfl, ?hyx21⟩) hHeld ?restx21
                  case hyx21 => (intro w hSw; go_simp; first | done | (with_reducible rfl))
                  try simp only [Act.put, List.getElem_toArray, List.getElem_cons_succ, List.getElem_cons_zero, List.setIfInBounds_toArray, List.set_cons_zero, List.set_cons_succ]
                  refine wpAnyH_take (i := 21) (oi := _) (v := ?vx22) rfl (by kernel_rfl) (by kernel_rfl) (by kernel_rfl) (fun _ _ _ h => h) (Or.inl ⟨by kernel_rfl, ?hyx22⟩) hHeld ?restx22
                  case hyx22 => (intro w hSw; have kx0 := keepC hSw x0; have kx1 := keepC hSw x1; have kc0 := keepC hSw c0; have kc1 := keepC hSw c1; have kc2 := keepC hSw c2; have kc3 := keepC hSw c3; go_simp; first | done | (with_reducible rfl))
                  try simp only [Act.put, List.getElem_toArray, List.getElem_cons_succ, List.getElem_cons_zero, List.setIfInBounds_toArray, List.set_cons_zero, List.set_cons_succ]
                  refine wpAnyH_ready (rs := [22]) (by kernel_rfl) (by simp) (AllReadyH.cons (o := _) rfl (fun K hK => ?_) AllReadyH.nil)
                  go_simp
                  refine (LB.out _).mono ?_
                  rintro e wx23 ⟨rfl, hb3⟩
                  go_wp2_with fail
                  refine hK.out _ _ (keepB hHeld hb3) (fun hNew => ?_)
                  clear hb3
                  clear hHeld hK K
                  have hHeld := hNew
                  clear hNew
                  try simp only [Act.put, List.getElem_toArray, List.getElem_cons_succ, List.getElem_cons_zero, List.setIfInBounds_toArray, List.set_cons_zero, List.set_cons_succ]
                  refine wpAnyH_take (i := 23) (oi := _) (v := ?vx24) rfl (by kernel_rfl) (by kernel_rfl) (by kernel_rfl) (fun _ _ _ h => h) (Or.inl ⟨by kernel_rfl, ?hyx24⟩) hHeld ?restx24
                  case hyx24 => (intro w hSw; go_simp; first | done | (with_reducible rfl))
                  try simp only [Act.put, List.getElem_toArray, List.getElem_cons_succ, List.getElem_cons_zero, List.setIfInBounds_toArray, List.set_cons_zero, List.set_cons_succ]
                  refine wpAnyH_take (i := 24) (oi := _) (v := ?vx25) rfl (by kernel_rfl) (by kernel_rfl) (by kernel_rfl) (fun _ _ _ h => h) (Or.inl ⟨by kernel_rfl, ?hyx25⟩) hHeld ?restx25
                  case hyx25 => (intro w hSw; go_simp; first | done | (with_reducible rfl))
                  try simp only [Act.put, List.getElem_toArray, List.getElem_cons_succ, List.getElem_cons_zero, List.setIfInBounds_toArray, List.set_cons_zero, List.set_cons_succ]
                  refine wpAnyH_take (i := 25) (oi := _) (v := ?vx26) rfl (by kernel_rfl) (by kernel_rfl) (by kernel_rfl) (fun _ _ _ h => h) (Or.inl ⟨by kernel_rfl, ?hyx26⟩) hHeld ?restx26
                  case hyx26 => (intro w hSw; go_simp; first | done | (with_reducible rfl))
                  try simp only [Act.put, List.getElem_toArray, List.getElem_cons_succ, List.getElem_cons_zero, List.setIfInBounds_toArray, List.set_cons_zero, List.set_cons_succ]
                  refine wpAnyH_done (by kernel_rfl) ?_ _
                  refine NoPanic.normal ?_
                  replace hR2 := hR2.keep hHeld
                  clear hHeld
                  go_wp2_with fail
                  go_roundw
                  case rel => exact ⟨i, _, (i : Int) - 1, by omega, by go_num, rfl, rfl, EZ.out, HE1.out ▸ hR2⟩
                  case measure => (simp [intOf] <;> omega)
        case zero =>
          obtain rfl : tt = -1 := by omega
          have i3 : decide ((0 : Int) ≤ -1) = false := rfl
          clear htt hj
          rw [List.drop_zero] at hR hz
          subst hz
          have hb3 := hR.bb
          replace Il := Il.keep hb3
          replace Ia := Ia.keep hb3
          replace Ib := Ib.keep hb3
          replace I1 := I1.keep hb3
          replace x0 := keepC hb3 x0
          replace x1 := keepC hb3 x1
          replace hbb := keepB hbb hb3
          clear hb3 Il HC HA HX hVb
          obtain ⟨Zr, kr, rfl, hkr⟩ := row_cap hR.row
          have Ir := isS_acc (xs := Q.reverse.map Pc.raw) (L := Q.reverse) (by rw [List.length_reverse]; exact hR.row) (by rw [List.length_reverse]) rfl XfR.out (by rw [List.length_reverse]; exact XfRL.out)
          clear hR
          go_wp2_with fail
          refine (XMR.out Zr kr _ hkr Ir).mono ?_
          rintro e w1 ⟨v5, rfl, hv5⟩
          have hb3 := hv5.bb
          obtain ⟨Z5, k5, rfl, -⟩ := row_cap hv5.row
          have I5 := isS_row hv5.row rfl XfM.out XfML.out
          clear hv5
          replace Ia := Ia.keep hb3
          replace Ib := Ib.keep hb3
          replace I1 := I1.keep hb3
          replace Ir := Ir.keep hb3
          replace x0 := keepC hb3 x0
          replace x1 := keepC hb3 x1
          replace hbb := keepB hbb hb3
          clear hb3
          clear Ir
          go_wp2_with fail
          refine (XMM.out Z1 k1 _ hk1 I1).mono ?_
          rintro e w2 ⟨v6, rfl, hv6⟩
          have hb3 := hv6.bb
          obtain ⟨Z6, k6, rfl, -⟩ := row_cap hv6.row
          have I6 := isS_row hv6.row rfl XfM.out XfML.out
          clear hv6
          replace Ia := Ia.keep hb3
          replace Ib := Ib.keep hb3
          replace I1 := I1.keep hb3
          replace I5 := I5.keep hb3
          replace x0 := keepC hb3 x0
          replace x1 := keepC hb3 x1
          replace hbb := keepB hbb hb3
          clear hb3
          go_wp2_with fail
          refine (XHM.out Z1 k1 _ I1).mono ?_
          rintro e w3 ⟨rfl, hb3⟩
          replace Ia := Ia.keep hb3
          replace Ib := Ib.keep hb3
          replace I1 := I1.keep hb3
          replace I5 := I5.keep hb3
          replace I6 := I6.keep hb3
          replace x0 := keepC hb3 x0
          replace x1 := keepC hb3 x1
          replace hbb := keepB hbb hb3
          clear hb3
          clear x0 x1
          have f0 : ((0 : Int) != 0) = false := rfl
          have f1 : ((0 : Int) == 0) = true := rfl
          have f2 : ((2 : Int) == 0) = false := rfl
          have f3 : ((2 : Int) != 0) = true := rfl
          have f4 : ((2 : Int) != 2) = false := rfl
          cases Pc.inn Q qq
          all_goals as_aux_lemma =>
            go_wp2_with fail
            refine (XKM.out Z1 k1 _ I1).mono ?_
            rintro e w4 ⟨rfl, hb3⟩
            replace Ia := Ia.keep hb3
            replace Ib := Ib.keep hb3
            replace I1 := I1.keep hb3
            replace I5 := I5.keep hb3
            replace I6 := I6.keep hb3
            replace hbb := keepB hbb hb3
            clear hb3
            go_wp2_with fail
            refine (XSM.out Z1 Z5 k1 k5 _ I1 I5).mono ?_
            rintro e w5 ⟨rfl, hb3⟩
            replace Ia := Ia.keep hb3
            replace Ib := Ib.keep hb3
            replace I1 := I1.keep hb3
            replace I5 := I5.keep hb3
            replace I6 := I6.keep hb3
            replace hbb := keepB hbb hb3
            clear hb3
            go_wp2_with fail
            refine (XSM.out Z1 Z6 k1 k6 _ I1 I6).mono ?_
            rintro e w6 ⟨rfl, hb3⟩
            replace Ia := Ia.keep hb3
            replace Ib := Ib.keep hb3
            replace I1 := I1.keep hb3
            replace I5 := I5.keep hb3
            replace I6 := I6.keep hb3
            replace hbb := keepB hbb hb3
            clear hb3
            clear I1 I5 I6 f0 f1
            have f0 : ((0 : Int) != 0) = false := rfl
            have f1 : ((0 : Int) == 0) = true := rfl
            go_wp2_with fail
            refine (XC5.out _ Ia Ib).mono ?_
            rintro e w7 ⟨va, rfl, hva⟩
            have hb3 := hva.bb
            obtain ⟨Za, ka, rfl, -⟩ := row_cap hva.row
            clear hva
            replace Ia := Ia.keep hb3
            replace Ib := Ib.keep hb3
            replace hbb := keepB hbb hb3
            clear hb3
            go_wp2_with fail
            refine (XC6.out _ Ia Ib).mono ?_
            rintro e w8 ⟨vb, rfl, hvb⟩
            have hb3 := hvb.bb
            obtain ⟨Zb, kb, rfl, -⟩ := row_cap hvb.row
            clear hvb
            replace Ia := Ia.keep hb3
            replace Ib := Ib.keep hb3
            replace hbb := keepB hbb hb3
            clear hb3
            go_upto_region 23 with fail
            rcases HD.out with ⟨g1, g2, g3⟩ | ⟨g1, g3⟩ | ⟨g1, g2, g3⟩
            · as_aux_lemma =>
                go_wp2_with fail
                refine (XSG.out _ Ia Ib).mono ?_
                rintro e w9 ⟨z, rfl, hz, hb3⟩
                replace Ia := Ia.keep hb3
                replace Ib := Ib.keep hb3
                replace hbb := keepB hbb hb3
                clear hb3
                clear Ia Ib
                obtain rfl : z = true := hz.2 g3
                clear hz g3
                go_wp2_with fail
                refine (palive_any _).mono ?_
                rintro e w10 ⟨rfl, hb3⟩
                replace hbb := keepB hbb hb3
                clear hb3
                go_wp2_with fail
                go_ret
                exact ⟨by first | rfl | simp, hbb⟩
            · as_aux_lemma =>
                go_wp2_with fail
                refine (XSG.out _ Ia Ib).mono ?_
                rintro e w11 ⟨z, rfl, hz, hb3⟩
                replace Ia := Ia.keep hb3
                replace Ib := Ib.keep hb3
                replace hbb := keepB hbb hb3
                clear hb3
                clear Ia Ib
                obtain rfl : z = false := by
                  cases z
                  · rfl
                  · exact absurd (hz.1 rfl) g3
                clear hz g3
                go_wp2_with fail
                refine (palive_any _).mono ?_
                rintro e w12 ⟨rfl, hb3⟩
                replace hbb := keepB hbb hb3
                clear hb3
                go_wp2_with fail
                go_ret
                exact ⟨by first | rfl | simp, hbb⟩
            · as_aux_lemma =>
                go_wp2_with fail
                refine (XSG.out _ Ia Ib).mono ?_
                rintro e w13 ⟨z, rfl, hz, hb3⟩
                replace Ia := Ia.keep hb3
                replace Ib := Ib.keep hb3
                replace hbb := keepB hbb hb3
                clear hb3
                clear Ia Ib
                obtain rfl : z = false := by
                  cases z
                  · rfl
                  · exact absurd (hz.1 rfl) g3
                clear hz g3
                go_wp2_with fail
                refine (palive_any _).mono ?_
                rintro e w14 ⟨rfl, hb3⟩
                replace hbb := keepB hbb hb3
                clear hb3
                go_wp2_with fail
                go_ret
                exact ⟨by first | rfl | simp, hbb⟩
    · rw [e] at cr
      rw [hv, if_neg ho] at HM
      try dsimp only at HM
      have HO := Lib.hid ho
      have HQ := Lib.hid hqq
      have XCR := Lib.hid cr
      have hca' : Q.length ≤ ca := by simpa using hca
      clear cr hv e ho hqq n0 n1 d0 d1 hca
      generalize Pc.pairs (Pc.jn Q) = Mm at *
      have XMK := Lib.hid mk
      clear mk
      have XMR := Lib.hid MR
      clear MR
      have XMM := Lib.hid MM
      clear MM
      have XKM := Lib.hid KM
      clear KM
      have XSM := Lib.hid SM
      clear SM
      have XHM := Lib.hid HM
      clear HM
      have XfM := Lib.hid fM
      clear fM
      have XfML := Lib.hid fML
      clear fML
      have XfRL := Lib.hid fRL
      clear fRL
      have XfR := Lib.hid r2
      have HFS := Lib.hid hfs
      clear r2 hfs
      go_enter Try.func9, Try.ntmps9
      have hbb := below_al (Below.refl w.heap.size w) (.cells #[.int .i64 n, .int .i64 d] 30)
      have x0 := n20 w (.int .i64 n) (.int .i64 d) 30
      have x1 := n21 w (.int .i64 n) (.int .i64 d) 30
      have Ia := ha.keep (below_al (Below.refl w.heap.size w) (.cells #[.int .i64 n, .int .i64 d] 30))
      have Ib := hb.keep (below_al (Below.refl w.heap.size w) (.cells #[.int .i64 n, .int .i64 d] 30))
      have Il := hl.keep (below_al (Below.refl w.heap.size w) (.cells #[.int .i64 n, .int .i64 d] 30))
      clear ha hb hl
      go_wp2_with fail
      refine (GX.out _).mono ?_
      rintro e w1 ⟨rfl, hb3⟩
      replace Ia := Ia.keep hb3
      replace Ib := Ib.keep hb3
      replace Il := Il.keep hb3
      replace x0 := keepC hb3 x0
      replace x1 := keepC hb3 x1
      replace hbb := keepB hbb hb3
      clear hb3
      go_wp2_with fail
      refine (VA.out _ hbb).mono ?_
      rintro e w2 ⟨rfl, hb3⟩
      replace Ia := Ia.keep hb3
      replace Ib := Ib.keep hb3
      replace Il := Il.keep hb3
      replace x0 := keepC hb3 x0
      replace x1 := keepC hb3 x1
      replace hbb := keepB hbb hb3
      clear hb3
      go_wp2_with fail
      refine (VB.out _ hbb).mono ?_
      rintro e w3 ⟨rfl, hb3⟩
      replace Ia := Ia.keep hb3
      replace Ib := Ib.keep hb3
      replace Il := Il.keep hb3
      replace x0 := keepC hb3 x0
      replace x1 := keepC hb3 x1
      replace hbb := keepB hbb hb3
      clear hb3
      have m0 : ((0 : Int) == 0) = true := rfl
      go_wp2_with fail
      refine (XMK.out _ Il).mono ?_
      rintro e w4 ⟨v1, rfl, hv1⟩
      have hb3 := hv1.bb
      obtain ⟨Z1, k1, rfl, hk1⟩ := row_cap hv1.row
      have I1 := isS_row hv1.row rfl XfM.out XfML.out
      clear hv1
      replace Ia := Ia.keep hb3
      replace Ib := Ib.keep hb3
      replace Il := Il.keep hb3
      replace x0 := keepC hb3 x0
      replace x1 := keepC hb3 x1
      replace hbb := keepB hbb hb3
      clear hb3
      go_wp2_with fail
      have hVb := hbb
      have HX := Lib.hid (And.intro x0 x1)
      obtain ⟨bq, oq, hAq, hcq⟩ := Il.cell
      have HC := Lib.hid hcq
      have HA := Lib.hid hAq
      clear hcq hAq
      go_loopw [11, 12, 13] (fun v z t W => ∃ (j : Nat) (zb : Bool) (tt : Int), j ≤ Q.length ∧ t = .int .i64 tt ∧ tt = (j : Int) - 1 ∧ z = .bool zb ∧ zb = (false && Pc.inn (Q.drop j) qq) ∧ Acc w4 w4.heap.size 51 4 v (Q.drop j).length (Pc.cells4 (Q.drop j).reverse) W) (fun _ _ t _ => (intOf t + 1).toNat)
      case atStart =>
        refine ⟨Q.length, false, (Q.length : Int) - 1, Nat.le_refl _, by go_num, rfl, rfl, ?_, ?_⟩
        · first
            | rfl
            | (rw [List.drop_length]; rfl)
        · rw [List.drop_length]; exact ⟨Below.refl _ _, Nat.le_refl _, World.ownsRow_nil _ _ _ _⟩
      case round =>
        obtain ⟨j, zb, tt, hj, rfl, htt, rfl, hz, hR⟩ := hrel
        rcases j with _ | i
        case succ =>
          obtain rfl : tt = (i : Int) := by omega
          clear htt Il Ia Ib I1 x0 x1 hbb
          as_aux_lemma =>
            obtain ⟨s, hs⟩ : ∃ s, Pc.sat Q i = s := ⟨_, rfl⟩
            have hA' := HA.out (by omega)
            subst hA'
            have hdr : Q.drop i = s :: Q.drop (i + 1) := by rw [List.drop_eq_getElem_cons (by omega), ← Pc.sat_lt (by omega), hs]
            have C0 := (HC.out i (by omega)).1
            have C1 := (HC.out i (by omega)).2.1
            have C2 := (HC.out i (by omega)).2.2.1
            have C3 := (HC.out i (by omega)).2.2.2
            have hfs := HFS.out i (by omega)
            rw [hs] at C0 C1 C2 C3 hfs
            have hin : Pc.inn (Q.drop i) qq = (Pc.hitS s qq || Pc.inn (Q.drop (i + 1)) qq) := by rw [hdr]; rfl
            have HDL := Lib.hid (show (Q.drop i).length = (Q.drop (i + 1)).length + 1 by rw [hdr]; rfl)
            have HDR := Lib.hid (show Pc.cells4 (Q.drop i).reverse = Pc.cells4 (Q.drop (i + 1)).reverse ++ [.int .i64 s.1.num, .int .i64 (s.1.den : Int), .int .i64 s.2.num, .int .i64 (s.2.den : Int)] by rw [hdr, List.reverse_cons, Pc.cells4_app]; rfl)
            have hnD : (Q.drop (i + 1)).length ≤ 60 := by rw [List.length_drop]; omega
            generalize (Q.drop (i + 1)).length = nD at *
            generalize Pc.cells4 (Q.drop (i + 1)).reverse = CD at *
            generalize Pc.inn (Q.drop (i + 1)) qq = iD at *
            have HIN := Lib.hid hin
            clear hs hdr hin
            have c0 := keepC hR.bb C0
            have c1 := keepC hR.bb C1
            have c2 := keepC hR.bb C2
            have c3 := keepC hR.bb C3
            have i1 : (0 : Int) ≤ (i : Int) := by omega
            have i2 : (i : Int) < (Q.length : Int) := by omega
            have i3 : decide ((0 : Int) ≤ (i : Int)) = true := decide_eq_true i1
            have hBV := hR.hB
            have hO := hR.row
            go_upto_region 11 with (at_builtin; go_loud (refine wpList_append_lies _ rfl _ _ _ rfl w4.heap.size 51 i0 _ 4 32 Try.underlying53 HI.out HI2.out HI3.out HI4.out rfl (by omega) _ nD CD (by rfl) (World.ownsRow.alloc hR.row _) ⟨wr.heap.size, 0, none⟩ 1 1 [.int .i64 s.1.num, .int .i64 (s.1.den : Int), .int .i64 s.2.num, .int .i64 (s.2.den : Int)] (by rfl) (by rfl) (World.news_of_block (cs := #[.int .i64 s.1.num, .int .i64 (s.1.den : Int), .int .i64 s.2.num, .int .i64 (s.2.den : Int)]) (t := 51) (fr := (0, 0)) (heap_alloc_new wr _)) (by simp [Value.oneCell']) (by omega) (by unfold maxLen; omega) (by omega) (by simp; omega) (wr.heap.size + 1) (by simp) ?_); intro gg cap3 w4 hown1 hgrow hat hlt4)
            have hR2 := hR.app ((Below.refl _ wr).alloc (Nat.le_refl _) _) hown1 hgrow
            have e1 : nD + 1 = (Q.drop i).length := HDL.out.symm
            rw [← HDR.out] at hR2
            clear hO hown1 hgrow hat hlt4 hR hBV c0 c1 c2 c3
            have c0 := keepC hR2.bb C0
            have c1 := keepC hR2.bb C1
            have c2 := keepC hR2.bb C2
            have c3 := keepC hR2.bb C3
            have x0 := keepC hR2.bb HX.out.1
            have x1 := keepC hR2.bb HX.out.2
            clear C0 C1 C2 C3
            have HE1 := Lib.hid e1
            clear e1
            obtain rfl : zb = false := hz
            have EZ := Lib.hid (show false = (false && Pc.inn (Q.drop i) qq) from rfl)
            go_upto_region 11 with fail
            refine wp_region_noPanic ?_
            refine wp_region_held_drew (S := (Below w4.heap.size w4)) (by kernel_rfl) ((Below.refl _ _).drew) (fun hHeld => ?_)
            refine at_anyH (Below w4.heap.size w4) hHeld (fun wn0 hNew => ?_)
            clear hHeld
            have hHeld := hNew
            clear hNew
            refine wpAnyH_take (i := 0) (oi := _) (v := ?vn1) rfl (by kernel_rfl) (by kernel_rfl) (by kernel_rfl) (fun _ _ _ h => h) (Or.inl ⟨by kernel_rfl, ?hyn1⟩) hHeld ?restn1
            case hyn1 => (intro w hSw; go_simp; first | done | (with_reducible rfl))
            try simp only [Act.put, List.getElem_toArray, List.getElem_cons_succ, List.getElem_cons_zero, List.setIfInBounds_toArray, List.set_cons_zero, List.set_cons_succ]
            refine wpAnyH_take (i := 1) (oi := _) (v := ?vn2) rfl (by kernel_rfl) (by kernel_rfl) (by kernel_rfl) (fun _ _ _ h => h) (Or.inl ⟨by kernel_rfl, ?hyn2⟩) hHeld ?restn2
            case hyn2 => (intro w hSw; go_simp; first | done | (with_reducible rfl))
            try simp only [Act.put, List.getElem_toArray, List.getElem_cons_succ, List.getElem_cons_zero, List.setIfInBounds_toArray, List.set_cons_zero, List.set_cons_succ]
            refine wpAnyH_take (i := 2) (oi := _) (v := ?vn3) rfl (by kernel_rfl) (by kernel_rfl) (by kernel_rfl) (fun _ _ _ h => h) (Or.inl ⟨by kernel_rfl, ?hyn3⟩) hHeld ?restn3
            case hyn3 => (intro w hSw; have kx0 := keepC hSw x0; have kx1 := keepC hSw x1; have kc0 := keepC hSw c0; have kc1 := keepC hSw c1; have kc2 := keepC hSw c2; have kc3 := keepC hSw c3; go_simp; first | done | (with_reducible rfl))
            try simp only [Act.put, List.getElem_toArray, List.getElem_cons_succ, List.getElem_cons_zero, List.setIfInBounds_toArray, List.set_cons_zero, List.set_cons_succ]
            refine wpAnyH_ready (rs := [3]) (by kernel_rfl) (by simp) (AllReadyH.cons (o := _) rfl (fun K hK => ?_) AllReadyH.nil)
            go_simp
            refine (XCR.out _).mono ?_
            rintro e wn4 ⟨rfl, hb3⟩
            go_wp2_with fail
            refine hK.out _ _ (keepB hHeld hb3) (fun hNew => ?_)
            clear hb3
            clear hHeld hK K
            have hHeld := hNew
            clear hNew
            try simp only [Act.put, List.getElem_toArray, List.getElem_cons_succ, List.getElem_cons_zero, List.setIfInBounds_toArray, List.set_cons_zero, List.set_cons_succ]
            refine wpAnyH_take (i := 4) (oi := _) (v := ?vn5) rfl (by kernel_rfl) (by kernel_rfl) (by kernel_rfl) (fun _ _ _ h => h) (Or.inl ⟨by kernel_rfl, ?hyn5⟩) hHeld ?restn5
            case hyn5 => (intro w hSw; go_simp; first | done | (with_reducible rfl))
            try simp only [Act.put, List.getElem_toArray, List.getElem_cons_succ, List.getElem_cons_zero, List.setIfInBounds_toArray, List.set_cons_zero, List.set_cons_succ]
            refine wpAnyH_take (i := 5) (oi := _) (v := ?vn6) rfl (by kernel_rfl) (by kernel_rfl) (by kernel_rfl) (fun _ _ _ h => h) (Or.inl ⟨by kernel_rfl, ?hyn6⟩) hHeld ?restn6
            case hyn6 => (intro w hSw; go_simp; first | done | (with_reducible rfl))
            try simp only [Act.put, List.getElem_toArray, List.getElem_cons_succ, List.getElem_cons_zero, List.setIfInBounds_toArray, List.set_cons_zero, List.set_cons_succ]
            refine wpAnyH_take (i := 6) (oi := _) (v := undef) rfl (by kernel_rfl) (by kernel_rfl) (by kernel_rfl) (fun _ _ _ h => h) (Or.inr ⟨by kernel_rfl, rfl⟩) hHeld ?_
            try simp only [Act.put, List.getElem_toArray, List.getElem_cons_succ, List.getElem_cons_zero, List.setIfInBounds_toArray, List.set_cons_zero, List.set_cons_succ]
            refine wpAnyH_take (i := 7) (oi := _) (v := undef) rfl (by kernel_rfl) (by kernel_rfl) (by kernel_rfl) (fun _ _ _ h => h) (Or.inr ⟨by kernel_rfl, rfl⟩) hHeld ?_
            try simp only [Act.put, List.getElem_toArray, List.getElem_cons_succ, List.getElem_cons_zero, List.setIfInBounds_toArray, List.set_cons_zero, List.set_cons_succ]
            refine wpAnyH_take (i := 8) (oi := _) (v := undef) rfl (by kernel_rfl) (by kernel_rfl) (by kernel_rfl) (fun _ _ _ h => h) (Or.inr ⟨by kernel_rfl, rfl⟩) hHeld ?_
            try simp only [Act.put, List.getElem_toArray, List.getElem_cons_succ, List.getElem_cons_zero, List.setIfInBounds_toArray, List.set_cons_zero, List.set_cons_succ]
            refine wpAnyH_take (i := 9) (oi := _) (v := undef) rfl (by kernel_rfl) (by kernel_rfl) (by kernel_rfl) (fun _ _ _ h => h) (Or.inr ⟨by kernel_rfl, rfl⟩) hHeld ?_
            try simp only [Act.put, List.getElem_toArray, List.getElem_cons_succ, List.getElem_cons_zero, List.setIfInBounds_toArray, List.set_cons_zero, List.set_cons_succ]
            refine wpAnyH_take (i := 10) (oi := _) (v := undef) rfl (by kernel_rfl) (by kernel_rfl) (by kernel_rfl) (fun _ _ _ h => h) (Or.inr ⟨by kernel_rfl, rfl⟩) hHeld ?_
            try simp only [Act.put, List.getElem_toArray, List.getElem_cons_succ, List.getElem_cons_zero, List.setIfInBounds_toArray, List.set_cons_zero, List.set_cons_succ]
            refine wpAnyH_take (i := 11) (oi := _) (v := undef) rfl (by kernel_rfl) (by kernel_rfl) (by kernel_rfl) (fun _ _ _ h => h) (Or.inr ⟨by kernel_rfl, rfl⟩) hHeld ?_
            try simp only [Act.put, List.getElem_toArray, List.getElem_cons_succ, List.getElem_cons_zero, List.setIfInBounds_toArray, List.set_cons_zero, List.set_cons_succ]
            refine wpAnyH_take (i := 12) (oi := _) (v := undef) rfl (by kernel_rfl) (by kernel_rfl) (by kernel_rfl) (fun _ _ _ h => h) (Or.inr ⟨by kernel_rfl, rfl⟩) hHeld ?_
            try simp only [Act.put, List.getElem_toArray, List.getElem_cons_succ, List.getElem_cons_zero, List.setIfInBounds_toArray, List.set_cons_zero, List.set_cons_succ]
            refine wpAnyH_take (i := 13) (oi := _) (v := undef) rfl (by kernel_rfl) (by kernel_rfl) (by kernel_rfl) (fun _ _ _ h => h) (Or.inr ⟨by kernel_rfl, rfl⟩) hHeld ?_
            try simp only [Act.put, List.getElem_toArray, List.getElem_cons_succ, List.getElem_cons_zero, List.setIfInBounds_toArray, List.set_cons_zero, List.set_cons_succ]
            refine wpAnyH_take (i := 14) (oi := _) (v := ?vn15) rfl (by kernel_rfl) (by kernel_rfl) (by kernel_rfl) (fun _ _ _ h => h) (Or.inl ⟨by kernel_rfl, ?hyn15⟩) hHeld ?restn15
            case hyn15 => (intro w hSw; go_simp; first | done | (with_reducible rfl))
            try simp only [Act.put, List.getElem_toArray, List.getElem_cons_succ, List.getElem_cons_zero, List.setIfInBounds_toArray, List.set_cons_zero, List.set_cons_succ]
            refine wpAnyH_take (i := 15) (oi := _) (v := ?vn16) rfl (by kernel_rfl) (by kernel_rfl) (by kernel_rfl) (fun _ _ _ h => h) (Or.inl ⟨by kernel_rfl, ?hyn16⟩) hHeld ?restn16
            case hyn16 => (intro w hSw; go_simp; first | done | (with_reducible rfl))
            try simp only [Act.put, List.getElem_toArray, List.getElem_cons_succ, List.getElem_cons_zero, List.setIfInBounds_toArray, List.set_cons_zero, List.set_cons_succ]
            refine wpAnyH_take (i := 16) (oi := _) (v := undef) rfl (by kernel_rfl) (by kernel_rfl) (by kernel_rfl) (fun _ _ _ h => h) (Or.inr ⟨by kernel_rfl, rfl⟩) hHeld ?_
            try simp only [Act.put, List.getElem_toArray, List.getElem_cons_succ, List.getElem_cons_zero, List.setIfInBounds_toArray, List.set_cons_zero, List.set_cons_succ]
            refine wpAnyH_take (i := 17) (oi := _) (v := undef) rfl (by kernel_rfl) (by kernel_rfl) (by kernel_rfl) (fun _ _ _ h => h) (Or.inr ⟨by kernel_rfl, rfl⟩) hHeld ?_
            try simp only [Act.put, List.getElem_toArray, List.getElem_cons_succ, List.getElem_cons_zero, List.setIfInBounds_toArray, List.set_cons_zero, List.set_cons_succ]
            refine wpAnyH_take (i := 18) (oi := _) (v := undef) rfl (by kernel_rfl) (by kernel_rfl) (by kernel_rfl) (fun _ _ _ h => h) (Or.inr ⟨by kernel_rfl, rfl⟩) hHeld ?_
            try simp only [Act.put, List.getElem_toArray, List.getElem_cons_succ, List.getElem_cons_zero, List.setIfInBounds_toArray, List.set_cons_zero, List.set_cons_succ]
            refine wpAnyH_take (i := 19) (oi := _) (v := undef) rfl (by kernel_rfl) (by kernel_rfl) (by kernel_rfl) (fun _ _ _ h => h) (Or.inr ⟨by kernel_rfl, rfl⟩) hHeld ?_
            try simp only [Act.put, List.getElem_toArray, List.getElem_cons_succ, List.getElem_cons_zero, List.setIfInBounds_toArray, List.set_cons_zero, List.set_cons_succ]
            refine wpAnyH_take (i := 20) (oi := _) (v := undef) rfl (by kernel_rfl) (by kernel_rfl) (by kernel_rfl) (fun _ _ _ h => h) (Or.inr ⟨by kernel_rfl, rfl⟩) hHeld ?_
            try simp only [Act.put, List.getElem_toArray, List.getElem_cons_succ, List.getElem_cons_zero, List.setIfInBounds_toArray, List.set_cons_zero, List.set_cons_succ]
            refine wpAnyH_take (i := 21) (oi := _) (v := undef) rfl (by kernel_rfl) (by kernel_rfl) (by kernel_rfl) (fun _ _ _ h => h) (Or.inr ⟨by kernel_rfl, rfl⟩) hHeld ?_
            try simp only [Act.put, List.getElem_toArray, List.getElem_cons_succ, List.getElem_cons_zero, List.setIfInBounds_toArray, List.set_cons_zero, List.set_cons_succ]
            refine wpAnyH_take (i := 22) (oi := _) (v := undef) rfl (by kernel_rfl) (by kernel_rfl) (by kernel_rfl) (fun _ _ _ h => h) (Or.inr ⟨by kernel_rfl, rfl⟩) hHeld ?_
            try simp only [Act.put, List.getElem_toArray, List.getElem_cons_succ, List.getElem_cons_zero, List.setIfInBounds_toArray, List.set_cons_zero, List.set_cons_succ]
            refine wpAnyH_take (i := 23) (oi := _) (v := ?vn24) rfl (by kernel_rfl) (by kernel_rfl) (by kernel_rfl) (fun _ _ _ h => h) (Or.inl ⟨by kernel_rfl, ?hyn24⟩) hHeld ?restn24
            case hyn24 => (intro w hSw; go_simp; first | done | (with_reducible rfl))
            try simp only [Act.put, List.getElem_toArray, List.getElem_cons_succ, List.getElem_cons_zero, List.setIfInBounds_toArray, List.set_cons_zero, List.set_cons_succ]
            refine wpAnyH_take (i := 24) (oi := _) (v := ?vn25) rfl (by kernel_rfl) (by kernel_rfl) (by kernel_rfl) (fun _ _ _ h => h) (Or.inl ⟨by kernel_rfl, ?hyn25⟩) hHeld ?restn25
            case hyn25 => (intro w hSw; go_simp; first | done | (with_reducible rfl))
            try simp only [Act.put, List.getElem_toArray, List.getElem_cons_succ, List.getElem_cons_zero, List.setIfInBounds_toArray, List.set_cons_zero, List.set_cons_succ]
            refine wpAnyH_take (i := 25) (oi := _) (v := ?vn26) rfl (by kernel_rfl) (by kernel_rfl) (by kernel_rfl) (fun _ _ _ h => h) (Or.inl ⟨by kernel_rfl, ?hyn26⟩) hHeld ?restn26
            case hyn26 => (intro w hSw; go_simp; first | done | (with_reducible rfl))
            try simp only [Act.put, List.getElem_toArray, List.getElem_cons_succ, List.getElem_cons_zero, List.setIfInBounds_toArray, List.set_cons_zero, List.set_cons_succ]
            refine wpAnyH_done (by kernel_rfl) ?_ _
            refine NoPanic.normal ?_
            replace hR2 := hR2.keep hHeld
            clear hHeld
            go_wp2_with fail
            go_roundw
            case rel => exact ⟨i, _, (i : Int) - 1, by omega, by go_num, rfl, rfl, EZ.out, HE1.out ▸ hR2⟩
            case measure => (simp [intOf] <;> omega)
        case zero =>
          obtain rfl : tt = -1 := by omega
          have i3 : decide ((0 : Int) ≤ -1) = false := rfl
          clear htt hj
          rw [List.drop_zero] at hR hz
          subst hz
          have hb3 := hR.bb
          replace Il := Il.keep hb3
          replace Ia := Ia.keep hb3
          replace Ib := Ib.keep hb3
          replace I1 := I1.keep hb3
          replace x0 := keepC hb3 x0
          replace x1 := keepC hb3 x1
          replace hbb := keepB hbb hb3
          clear hb3 Il HC HA HX hVb
          obtain ⟨Zr, kr, rfl, hkr⟩ := row_cap hR.row
          have Ir := isS_acc (xs := Q.reverse.map Pc.raw) (L := Q.reverse) (by rw [List.length_reverse]; exact hR.row) (by rw [List.length_reverse]) rfl XfR.out (by rw [List.length_reverse]; exact XfRL.out)
          clear hR
          go_wp2_with fail
          refine (XMR.out Zr kr _ hkr Ir).mono ?_
          rintro e w1 ⟨v5, rfl, hv5⟩
          have hb3 := hv5.bb
          obtain ⟨Z5, k5, rfl, -⟩ := row_cap hv5.row
          have I5 := isS_row hv5.row rfl XfM.out XfML.out
          clear hv5
          replace Ia := Ia.keep hb3
          replace Ib := Ib.keep hb3
          replace I1 := I1.keep hb3
          replace Ir := Ir.keep hb3
          replace x0 := keepC hb3 x0
          replace x1 := keepC hb3 x1
          replace hbb := keepB hbb hb3
          clear hb3
          clear Ir
          go_wp2_with fail
          refine (XMM.out Z1 k1 _ hk1 I1).mono ?_
          rintro e w2 ⟨v6, rfl, hv6⟩
          have hb3 := hv6.bb
          obtain ⟨Z6, k6, rfl, -⟩ := row_cap hv6.row
          have I6 := isS_row hv6.row rfl XfM.out XfML.out
          clear hv6
          replace Ia := Ia.keep hb3
          replace Ib := Ib.keep hb3
          replace I1 := I1.keep hb3
          replace I5 := I5.keep hb3
          replace x0 := keepC hb3 x0
          replace x1 := keepC hb3 x1
          replace hbb := keepB hbb hb3
          clear hb3
          go_wp2_with fail
          refine (XHM.out Z1 k1 _ I1).mono ?_
          rintro e w3 ⟨rfl, hb3⟩
          replace Ia := Ia.keep hb3
          replace Ib := Ib.keep hb3
          replace I1 := I1.keep hb3
          replace I5 := I5.keep hb3
          replace I6 := I6.keep hb3
          replace x0 := keepC hb3 x0
          replace x1 := keepC hb3 x1
          replace hbb := keepB hbb hb3
          clear hb3
          clear x0 x1
          have f0 : ((0 : Int) != 0) = false := rfl
          have f1 : ((0 : Int) == 0) = true := rfl
          have f2 : ((2 : Int) == 0) = false := rfl
          have f3 : ((2 : Int) != 0) = true := rfl
          have f4 : ((2 : Int) != 2) = false := rfl
          go_wp2_with fail
          refine (XKM.out Z1 k1 _ I1).mono ?_
          rintro e w4 ⟨rfl, hb3⟩
          replace Ia := Ia.keep hb3
          replace Ib := Ib.keep hb3
          replace I1 := I1.keep hb3
          replace I5 := I5.keep hb3
          replace I6 := I6.keep hb3
          replace hbb := keepB hbb hb3
          clear hb3
          go_wp2_with fail
          refine (XSM.out Z1 Z5 k1 k5 _ I1 I5).mono ?_
          rintro e w5 ⟨rfl, hb3⟩
          replace Ia := Ia.keep hb3
          replace Ib := Ib.keep hb3
          replace I1 := I1.keep hb3
          replace I5 := I5.keep hb3
          replace I6 := I6.keep hb3
          replace hbb := keepB hbb hb3
          clear hb3
          go_wp2_with fail
          refine (XSM.out Z1 Z6 k1 k6 _ I1 I6).mono ?_
          rintro e w6 ⟨rfl, hb3⟩
          replace Ia := Ia.keep hb3
          replace Ib := Ib.keep hb3
          replace I1 := I1.keep hb3
          replace I5 := I5.keep hb3
          replace I6 := I6.keep hb3
          replace hbb := keepB hbb hb3
          clear hb3
          clear I1 I5 I6 f0 f1
          have f0 : ((0 : Int) != 0) = false := rfl
          have f1 : ((0 : Int) == 0) = true := rfl
          go_wp2_with fail
          refine (XC5.out _ Ia Ib).mono ?_
          rintro e w7 ⟨va, rfl, hva⟩
          have hb3 := hva.bb
          obtain ⟨Za, ka, rfl, -⟩ := row_cap hva.row
          clear hva
          replace Ia := Ia.keep hb3
          replace Ib := Ib.keep hb3
          replace hbb := keepB hbb hb3
          clear hb3
          go_wp2_with fail
          refine (XC6.out _ Ia Ib).mono ?_
          rintro e w8 ⟨vb, rfl, hvb⟩
          have hb3 := hvb.bb
          obtain ⟨Zb, kb, rfl, -⟩ := row_cap hvb.row
          clear hvb
          replace Ia := Ia.keep hb3
          replace Ib := Ib.keep hb3
          replace hbb := keepB hbb hb3
          clear hb3
          go_upto_region 23 with fail
          rcases HD.out with ⟨g1, g2, g3⟩ | ⟨g1, g3⟩ | ⟨g1, g2, g3⟩
          · as_aux_lemma =>
              go_wp2_with fail
              refine (XSG.out _ Ia Ib).mono ?_
              rintro e w9 ⟨z, rfl, hz, hb3⟩
              replace Ia := Ia.keep hb3
              replace Ib := Ib.keep hb3
              replace hbb := keepB hbb hb3
              clear hb3
              clear Ia Ib
              obtain rfl : z = true := hz.2 g3
              clear hz g3
              go_wp2_with fail
              refine (palive_any _).mono ?_
              rintro e w10 ⟨rfl, hb3⟩
              replace hbb := keepB hbb hb3
              clear hb3
              go_wp2_with fail
              go_ret
              exact ⟨by first | rfl | simp, hbb⟩
          · as_aux_lemma =>
              go_wp2_with fail
              refine (XSG.out _ Ia Ib).mono ?_
              rintro e w11 ⟨z, rfl, hz, hb3⟩
              replace Ia := Ia.keep hb3
              replace Ib := Ib.keep hb3
              replace hbb := keepB hbb hb3
              clear hb3
              clear Ia Ib
              obtain rfl : z = false := by
                cases z
                · rfl
                · exact absurd (hz.1 rfl) g3
              clear hz g3
              go_wp2_with fail
              refine (palive_any _).mono ?_
              rintro e w12 ⟨rfl, hb3⟩
              replace hbb := keepB hbb hb3
              clear hb3
              go_wp2_with fail
              go_ret
              exact ⟨by first | rfl | simp, hbb⟩
          · as_aux_lemma =>
              go_wp2_with fail
              refine (XSG.out _ Ia Ib).mono ?_
              rintro e w13 ⟨z, rfl, hz, hb3⟩
              replace Ia := Ia.keep hb3
              replace Ib := Ib.keep hb3
              replace hbb := keepB hbb hb3
              clear hb3
              clear Ia Ib
              obtain rfl : z = false := by
                cases z
                · rfl
                · exact absurd (hz.1 rfl) g3
              clear hz g3
              go_wp2_with fail
              refine (palive_any _).mono ?_
              rintro e w14 ⟨rfl, hb3⟩
              replace hbb := keepB hbb hb3
              clear hb3
              go_wp2_with fail
              go_ret
              exact ⟨by first | rfl | simp, hbb⟩
end Go.Proofs.Ytomokdepndclpaa
