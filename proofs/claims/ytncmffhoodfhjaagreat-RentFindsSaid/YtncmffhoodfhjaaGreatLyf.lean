/- RentFinds' walk. -/
import Derived.Test.YtncmffhoodfhjaaGreatLyc2
import Derived.Test.YtncmffhoodfhjaaGreatLyd
import Derived.Test.YtncmffhoodfhjaaGreatLye
import Derived.Test.YtncmffhoodfhjaaGreatYm
import Derived.Test.YtncmffhoodfhjaaGreatYf
import Derived.Test.YtncmffhoodfhjaaGreatYi
namespace Go.Proofs.YtncmffhoodfhjaaGreat
open Go.RowKit
namespace As
theorem evA_le15 (V : List (List Int)) (R : Int) : (evA V R).length ≤ maxLen := by
  unfold evA
  by_cases h : rchk V R = 0
  · rw [if_pos h]
    rcases rchk_two V R with ⟨_, hc, _⟩ | ⟨_, h2⟩
    · rw [(bst_top (chk_ok hc)).len]
      have := (chk_ok hc).n6
      unfold maxLen; omega
    · exact absurd h h2
  · rw [if_neg h]; exact Nat.zero_le _
theorem frP_le15 (V : List (List Int)) (R : Int) : (frP V R).length ≤ maxLen := by
  unfold frP
  by_cases h : rchk V R = 0
  · rw [if_pos h, rdp_len]
    rcases rchk_two V R with ⟨_, hc, _⟩ | ⟨_, h2⟩
    · have := (chk_ok hc).n6
      unfold maxLen; omega
    · exact absurd h h2
  · rw [if_neg h]; exact Nat.zero_le _
theorem clP_le15 (V : List (List Int)) (R : Int) : (clP V R).length ≤ maxLen := by
  unfold clP
  by_cases h : rchk V R = 0
  · rw [if_pos h, rdp_len]
    rcases rchk_two V R with ⟨_, hc, _⟩ | ⟨_, h2⟩
    · have := (chk_ok hc).n6
      unfold maxLen; omega
    · exact absurd h h2
  · rw [if_neg h]; exact Nat.zero_le _
end As
set_option maxRecDepth 100000 in
set_option maxHeartbeats 16000000 in
theorem rentfinds_walk (A : Option Addr) (cv : Nat) (V : List (List Int)) (R : Int) (B : Option Addr) (ca : Nat) (xs : List Int) (C : Option Addr) (cp : Nat) (ps : List Int) (D j : Int) (w : World) (hl : V.length ≤ maxLen) (h : IsM w A V) (_hR : I64 R) (hx : xs.length ≤ maxLen) (hB : IsI w B xs) (hpm : ps.length ≤ maxLen) (hC : IsI w C ps) (_hD : I64 D) (_j0 : -9223372036854775808 ≤ j) (_j1 : j ≤ 9223372036854775807) :
    Calls Tryz.prog 3 #[.agg #[.slice A V.length cv, .int .i64 R], .agg #[.slice B xs.length ca, .slice C ps.length cp, .int .i64 D], .int .i64 j] w fun e w' => e = .returned (.bool true) ∧ Below w.heap.size w w' := by
  have HA := Lib.hid h
  have HIB := Lib.hid hB
  have HIC := Lib.hid hC
  obtain ⟨ra, rb, rc, rd, re, hrg⟩ : ∃ ra rb rc rd re, wsV V R xs ps D = .tuple #[.agg #[.int .i64 ra, .int .i64 rb], .agg #[.int .i64 rc, .int .i64 rd], .int .i64 re] := ⟨_, _, _, _, _, rfl⟩
  obtain ⟨sa, sb, sc, sd, se, hsg⟩ : ∃ sa sb sc sd se, skV V R j = .tuple #[.agg #[.int .i64 sa, .int .i64 sb], .agg #[.int .i64 sc, .int .i64 sd], .int .i64 se] := ⟨_, _, _, _, _, rfl⟩
  have CG := Lib.hid (fun v (hv : IsM v A V) => r14Great_any A cv V R B ca xs.length C cp ps.length D v hl hv hx hpm)
  have CT := Lib.hid (fun v (hv : IsM v A V) h20 hr => rTwinF_any A cv V v h20 hr hv)
  have c1 := fun v E c (hv : IsM v E V) => rtFair_any E c V R v hl hv
  have c2 := fun v (hv : IsM v A V) => r15Fair_any A cv V R v hl hv
  have c3 := fun v E c (hv : IsM v E V) => rtCalm_any E c V R v hl hv
  have c4 := fun v (hv : IsM v A V) => r15Calm_any A cv V R v hl hv
  unfold LeQ at c1 c2 c3 c4
  have C1 := Lib.hid c1
  have C2 := Lib.hid c2
  have C3 := Lib.hid c3
  have C4 := Lib.hid c4
  have c5 := fun v E c (hv : IsM v E V) hX hY => rtWorst_any E c V R B ca xs C cp ps D v hl hv hx hX hpm hY
  have c6 := fun v (hv : IsM v A V) hX hY => r15Worst_any A cv V R B ca xs C cp ps D v hl hv hx hX hY
  simp only [hrg] at c5 c6
  have c7 := fun v E c (hv : IsM v E V) => rtStake_any E c V R j v hl hv
  have c8 := fun v (hv : IsM v A V) => r15Stake_any A cv V R j v hl hv
  simp only [hsg] at c7 c8
  have C5 := Lib.hid c5
  have C6 := Lib.hid c6
  have C7 := Lib.hid c7
  have C8 := Lib.hid c8
  have S1 := Lib.hid (fun v X c X' c' Y d Y' d' hX hX' hY hY' => lsame_eq X c X' c' Y d Y' d' (As.al (As.evA V R)) (As.frP V R) (As.evA V R).length (As.frP V R).length (As.frD V R) v (by rw [As.al_len]; exact As.evA_le15 V R) (As.frP_le15 V R) (As.al_len _).symm rfl hX hX' hY hY')
  have S2 := Lib.hid (fun v X c X' c' Y d Y' d' hX hX' hY hY' => lsame_eq X c X' c' Y d Y' d' (As.al (As.evA V R)) (As.clP V R) (As.evA V R).length (As.clP V R).length (As.clD V R) v (by rw [As.al_len]; exact As.evA_le15 V R) (As.clP_le15 V R) (As.al_len _).symm rfl hX hX' hY hY')
  have S3 := Lib.hid (fun v X c Y d hX hY => sameLists_eq X c Y d V v hl hX hY)
  clear c1 c2 c3 c4 c5 c6 c7 c8 hrg hsg h hB hC
  unfold maxLen at hl hx hpm
  go_enter Tryz.func3, Tryz.ntmps3
  go_upto_region 1 with fail
  refine at_box2 (fun V0 hbb b0 b1 hsz => ?_)
  clear hsz
  replace HA := Lib.hid (HA.out.keep hbb)
  replace HIB := Lib.hid (HIB.out.keep hbb)
  replace HIC := Lib.hid (HIC.out.keep hbb)
  have HB := Lib.hid hbb
  have B0 := Lib.hid b0
  have B1 := Lib.hid b1
  clear hbb b0 b1
  have cB00 := B0.out.c 0 rfl
  have cB01 := B0.out.c 1 rfl
  have cB10 := B1.out.c 0 rfl
  have cB11 := B1.out.c 1 rfl
  have cB12 := B1.out.c 2 rfl
  go_wp2_with fail
  refine (CG.out _ HA.out).mono ?_
  rintro e w1 ⟨z, rfl, hz, hb⟩
  replace HA := Lib.hid (HA.out.keep hb)
  replace HIB := Lib.hid (HIB.out.keep hb)
  replace HIC := Lib.hid (HIC.out.keep hb)
  replace B0 := Lib.hid (B0.out.keep hb)
  replace B1 := Lib.hid (B1.out.keep hb)
  replace HB := Lib.hid (keepB HB.out hb)
  clear cB00 cB01 cB10 cB11 cB12 hb
  clear CG
  cases z with
  | true =>
    clear hz
    go_wp2_with fail
    go_ret
    exact ⟨rfl, HB.out⟩
  | false =>
    obtain ⟨⟨-, h20, hr⟩, -⟩ := hz rfl
    have CT1 := Lib.hid (fun v hv => CT.out v hv h20 hr)
    clear hz hr h20 CT
    have cB00 := B0.out.c 0 rfl
    have cB01 := B0.out.c 1 rfl
    go_upto_region 3 with fail
    go_cut [7] (fun x v => ∃ p E d, x = .pointer (some ⟨p, 0, none⟩) ∧ IsM v E V ∧ BK v p [.slice E V.length d, .int .i64 R] ∧ Below w1.heap.size w1 v)
    case first =>
      have hB0 := Below.refl w1.heap.size w1
      have HK := Lib.hid (fun v (hv : Below w1.heap.size w1 v) => (show v.cell? ⟨w.heap.size, 0, none⟩ = some (.slice A V.length cv) ∧ v.cell? ⟨w.heap.size, 1, none⟩ = some (.int .i64 R) from ⟨keepC hv cB00, keepC hv cB01⟩))
      have hq := lt_of_cell cB00
      go_region_held3 (fun v => v.cell? ⟨w.heap.size, 0, none⟩ = some (.slice A V.length cv) ∧ v.cell? ⟨w.heap.size, 1, none⟩ = some (.int .i64 R))
        (first | (exact HK.out _ (by assumption)) | (exact HK.out _ (Below.drew (by assumption))) | (exact HK.out _ (below_al (by assumption) _)) | (exact HK.out _ (below_al (Below.drew (by assumption)) _)) | (exact ⟨cell_far (cell_far (keepC hw5 cB00) (by omega) _) (by omega) _, cell_far (cell_far (keepC hw5 cB01) (by omega) _) (by omega) _⟩))
        (first
          | (go_at_call 5; refine (CT1.out _ (by first | exact HA.out.keep hB0 | exact HA.out.keep hB0.drew | exact HA.out.keep (below_al hB0 _) | exact HA.out.keep (below_al hB0.drew _))).mono ?_; rintro e w5 ⟨E, d, rfl, hM5, hfar, hb5⟩; have hw5 : Below w1.heap.size w1 w5 := (by first | exact keepB hB0 hb5 | exact keepB hB0.drew hb5 | exact keepB (below_al hB0 _) hb5 | exact keepB (below_al hB0.drew _) hb5); (first | (have nbk : BK w5 w1.heap.size [.slice none 0 0, .int .i64 0] := (by first | exact (BK.new w1 [.slice none 0 0, .int .i64 0] _).keep hb5 | exact (BK.new w1.drew [.slice none 0 0, .int .i64 0] _).keep hb5); have nb0 := nbk.c 0 rfl; have nb1 := nbk.c 1 rfl; have nf0 := nbk.f 0 rfl; have nf1 := nbk.f 1 rfl) | skip)))
      all_goals
        go_wp2_with fail
        go_meet
        refine ⟨_, E, d, rfl, ?_, ?_, ?_⟩
        · first | exact hM5.keep (below_al (Below.refl _ _) _) | exact hfar _ _ (by simp) (gby_trans (gby_setL _ _ _ _) (gby_setL _ _ _ _))
        · first | exact (nbk.set 0 _).set 1 _ | exact BK.new _ _ _
        · first | exact below_set (below_set hw5 (Nat.le_refl _) _) (Nat.le_refl _) _ | exact below_al hw5 _
    case rest =>
      clear cB00 cB01
      obtain ⟨p5, E, d, rfl, hM, hb5, hb⟩ := hcut
      rename_i W5
      replace HA := Lib.hid (HA.out.keep hb)
      replace HIB := Lib.hid (HIB.out.keep hb)
      replace HIC := Lib.hid (HIC.out.keep hb)
      replace B0 := Lib.hid (B0.out.keep hb)
      replace B1 := Lib.hid (B1.out.keep hb)
      replace HB := Lib.hid (keepB HB.out hb)
      have HM := Lib.hid hM
      have B5 := Lib.hid hb5
      clear hM hb5 hb CT1
      have cB50 := B5.out.c 0 rfl
      have cB51 := B5.out.c 1 rfl
      go_wp2_with fail
      refine (C1.out _ _ _ HM.out).mono ?_
      rintro e v1 ⟨X1, d1, Y1, f1, rfl, hX, hY, hb⟩
      replace HA := Lib.hid (HA.out.keep hb)
      replace HIB := Lib.hid (HIB.out.keep hb)
      replace HIC := Lib.hid (HIC.out.keep hb)
      replace B0 := Lib.hid (B0.out.keep hb)
      replace B1 := Lib.hid (B1.out.keep hb)
      replace HM := Lib.hid (HM.out.keep hb)
      replace B5 := Lib.hid (B5.out.keep hb)
      replace HB := Lib.hid (keepB HB.out hb)
      have IX1 := Lib.hid hX
      have IY1 := Lib.hid hY
      clear cB50 cB51 hb hX hY
      go_upto_region 5 with fail
      refine at_worldQ (fun v => Below v1.heap.size v1 v ∧ BK v (v1.heap.size) [.slice X1 (As.evA V R).length d1, .slice Y1 (As.frP V R).length f1, .int .i64 (As.frD V R)]) ⟨below_al (Below.refl _ _) _, BK.new v1 [.slice X1 (As.evA V R).length d1, .slice Y1 (As.frP V R).length f1, .int .i64 (As.frD V R)] 27⟩ (fun U1 hS => ?_)
      obtain ⟨hb, hL1⟩ := hS
      replace HA := Lib.hid (HA.out.keep hb)
      replace HIB := Lib.hid (HIB.out.keep hb)
      replace HIC := Lib.hid (HIC.out.keep hb)
      replace B0 := Lib.hid (B0.out.keep hb)
      replace B1 := Lib.hid (B1.out.keep hb)
      replace HM := Lib.hid (HM.out.keep hb)
      replace B5 := Lib.hid (B5.out.keep hb)
      replace IX1 := Lib.hid (IX1.out.keep hb)
      replace IY1 := Lib.hid (IY1.out.keep hb)
      replace HB := Lib.hid (keepB HB.out hb)
      have L1 := Lib.hid hL1
      clear hb hL1
      have cB00 := B0.out.c 0 rfl
      have cB01 := B0.out.c 1 rfl
      go_wp2_with fail
      refine (C2.out _ HA.out).mono ?_
      rintro e v2 ⟨X2, d2, Y2, f2, rfl, hX, hY, hb⟩
      replace HA := Lib.hid (HA.out.keep hb)
      replace HIB := Lib.hid (HIB.out.keep hb)
      replace HIC := Lib.hid (HIC.out.keep hb)
      replace B0 := Lib.hid (B0.out.keep hb)
      replace B1 := Lib.hid (B1.out.keep hb)
      replace HM := Lib.hid (HM.out.keep hb)
      replace B5 := Lib.hid (B5.out.keep hb)
      replace IX1 := Lib.hid (IX1.out.keep hb)
      replace IY1 := Lib.hid (IY1.out.keep hb)
      replace L1 := Lib.hid (L1.out.keep hb)
      replace HB := Lib.hid (keepB HB.out hb)
      have IX2 := Lib.hid hX
      have IY2 := Lib.hid hY
      clear cB00 cB01 hb hX hY
      go_upto_region 6 with fail
      refine at_worldQ (fun v => Below v2.heap.size v2 v ∧ BK v (v2.heap.size) [.slice X2 (As.evA V R).length d2, .slice Y2 (As.frP V R).length f2, .int .i64 (As.frD V R)]) ⟨below_al (Below.refl _ _) _, BK.new v2 [.slice X2 (As.evA V R).length d2, .slice Y2 (As.frP V R).length f2, .int .i64 (As.frD V R)] 27⟩ (fun U2 hS => ?_)
      obtain ⟨hb, hL2⟩ := hS
      replace HA := Lib.hid (HA.out.keep hb)
      replace HIB := Lib.hid (HIB.out.keep hb)
      replace HIC := Lib.hid (HIC.out.keep hb)
      replace B0 := Lib.hid (B0.out.keep hb)
      replace B1 := Lib.hid (B1.out.keep hb)
      replace HM := Lib.hid (HM.out.keep hb)
      replace B5 := Lib.hid (B5.out.keep hb)
      replace IX1 := Lib.hid (IX1.out.keep hb)
      replace IY1 := Lib.hid (IY1.out.keep hb)
      replace L1 := Lib.hid (L1.out.keep hb)
      replace IX2 := Lib.hid (IX2.out.keep hb)
      replace IY2 := Lib.hid (IY2.out.keep hb)
      replace HB := Lib.hid (keepB HB.out hb)
      have L2 := Lib.hid hL2
      clear hb hL2
      have cB50 := B5.out.c 0 rfl
      have cB51 := B5.out.c 1 rfl
      go_wp2_with fail
      refine (C3.out _ _ _ HM.out).mono ?_
      rintro e v3 ⟨X3, d3, Y3, f3, rfl, hX, hY, hb⟩
      replace HA := Lib.hid (HA.out.keep hb)
      replace HIB := Lib.hid (HIB.out.keep hb)
      replace HIC := Lib.hid (HIC.out.keep hb)
      replace B0 := Lib.hid (B0.out.keep hb)
      replace B1 := Lib.hid (B1.out.keep hb)
      replace HM := Lib.hid (HM.out.keep hb)
      replace B5 := Lib.hid (B5.out.keep hb)
      replace IX1 := Lib.hid (IX1.out.keep hb)
      replace IY1 := Lib.hid (IY1.out.keep hb)
      replace L1 := Lib.hid (L1.out.keep hb)
      replace IX2 := Lib.hid (IX2.out.keep hb)
      replace IY2 := Lib.hid (IY2.out.keep hb)
      replace L2 := Lib.hid (L2.out.keep hb)
      replace HB := Lib.hid (keepB HB.out hb)
      have IX3 := Lib.hid hX
      have IY3 := Lib.hid hY
      clear cB50 cB51 hb hX hY
      go_upto_region 7 with fail
      refine at_worldQ (fun v => Below v3.heap.size v3 v ∧ BK v (v3.heap.size) [.slice X3 (As.evA V R).length d3, .slice Y3 (As.clP V R).length f3, .int .i64 (As.clD V R)]) ⟨below_al (Below.refl _ _) _, BK.new v3 [.slice X3 (As.evA V R).length d3, .slice Y3 (As.clP V R).length f3, .int .i64 (As.clD V R)] 27⟩ (fun U3 hS => ?_)
      obtain ⟨hb, hL3⟩ := hS
      replace HA := Lib.hid (HA.out.keep hb)
      replace HIB := Lib.hid (HIB.out.keep hb)
      replace HIC := Lib.hid (HIC.out.keep hb)
      replace B0 := Lib.hid (B0.out.keep hb)
      replace B1 := Lib.hid (B1.out.keep hb)
      replace HM := Lib.hid (HM.out.keep hb)
      replace B5 := Lib.hid (B5.out.keep hb)
      replace IX1 := Lib.hid (IX1.out.keep hb)
      replace IY1 := Lib.hid (IY1.out.keep hb)
      replace L1 := Lib.hid (L1.out.keep hb)
      replace IX2 := Lib.hid (IX2.out.keep hb)
      replace IY2 := Lib.hid (IY2.out.keep hb)
      replace L2 := Lib.hid (L2.out.keep hb)
      replace IX3 := Lib.hid (IX3.out.keep hb)
      replace IY3 := Lib.hid (IY3.out.keep hb)
      replace HB := Lib.hid (keepB HB.out hb)
      have L3 := Lib.hid hL3
      clear hb hL3
      have cB00 := B0.out.c 0 rfl
      have cB01 := B0.out.c 1 rfl
      go_wp2_with fail
      refine (C4.out _ HA.out).mono ?_
      rintro e v4 ⟨X4, d4, Y4, f4, rfl, hX, hY, hb⟩
      replace HA := Lib.hid (HA.out.keep hb)
      replace HIB := Lib.hid (HIB.out.keep hb)
      replace HIC := Lib.hid (HIC.out.keep hb)
      replace B0 := Lib.hid (B0.out.keep hb)
      replace B1 := Lib.hid (B1.out.keep hb)
      replace HM := Lib.hid (HM.out.keep hb)
      replace B5 := Lib.hid (B5.out.keep hb)
      replace IX1 := Lib.hid (IX1.out.keep hb)
      replace IY1 := Lib.hid (IY1.out.keep hb)
      replace L1 := Lib.hid (L1.out.keep hb)
      replace IX2 := Lib.hid (IX2.out.keep hb)
      replace IY2 := Lib.hid (IY2.out.keep hb)
      replace L2 := Lib.hid (L2.out.keep hb)
      replace IX3 := Lib.hid (IX3.out.keep hb)
      replace IY3 := Lib.hid (IY3.out.keep hb)
      replace L3 := Lib.hid (L3.out.keep hb)
      replace HB := Lib.hid (keepB HB.out hb)
      have IX4 := Lib.hid hX
      have IY4 := Lib.hid hY
      clear cB00 cB01 hb hX hY
      go_upto_region 8 with fail
      refine at_worldQ (fun v => Below v4.heap.size v4 v ∧ BK v (v4.heap.size) [.slice X4 (As.evA V R).length d4, .slice Y4 (As.clP V R).length f4, .int .i64 (As.clD V R)]) ⟨below_al (Below.refl _ _) _, BK.new v4 [.slice X4 (As.evA V R).length d4, .slice Y4 (As.clP V R).length f4, .int .i64 (As.clD V R)] 27⟩ (fun U4 hS => ?_)
      obtain ⟨hb, hL4⟩ := hS
      replace HA := Lib.hid (HA.out.keep hb)
      replace HIB := Lib.hid (HIB.out.keep hb)
      replace HIC := Lib.hid (HIC.out.keep hb)
      replace B0 := Lib.hid (B0.out.keep hb)
      replace B1 := Lib.hid (B1.out.keep hb)
      replace HM := Lib.hid (HM.out.keep hb)
      replace B5 := Lib.hid (B5.out.keep hb)
      replace IX1 := Lib.hid (IX1.out.keep hb)
      replace IY1 := Lib.hid (IY1.out.keep hb)
      replace L1 := Lib.hid (L1.out.keep hb)
      replace IX2 := Lib.hid (IX2.out.keep hb)
      replace IY2 := Lib.hid (IY2.out.keep hb)
      replace L2 := Lib.hid (L2.out.keep hb)
      replace IX3 := Lib.hid (IX3.out.keep hb)
      replace IY3 := Lib.hid (IY3.out.keep hb)
      replace L3 := Lib.hid (L3.out.keep hb)
      replace IX4 := Lib.hid (IX4.out.keep hb)
      replace IY4 := Lib.hid (IY4.out.keep hb)
      replace HB := Lib.hid (keepB HB.out hb)
      have L4 := Lib.hid hL4
      clear hb hL4
      clear C1 C2 C3 C4
      have T1 := Lib.hid (fun v h1 h2 h3 h4 => S1.out v X1 d1 X2 d2 Y1 f1 Y2 f2 h1 h2 h3 h4)
      have T2 := Lib.hid (fun v h1 h2 h3 h4 => S2.out v X3 d3 X4 d4 Y3 f3 Y4 f4 h1 h2 h3 h4)
      clear S1 S2
      generalize As.rchk V R = c at *
      generalize (As.evA V R).length = n1 at *
      generalize (As.frP V R).length = n2 at *
      generalize (As.clP V R).length = n3 at *
      generalize As.frD V R = e1 at *
      generalize As.clD V R = e2 at *
      have q1 : (c != c) = false := bne_self_eq_false _
      have cL10 := L1.out.c 0 rfl
      have cL11 := L1.out.c 1 rfl
      have cL12 := L1.out.c 2 rfl
      have cL20 := L2.out.c 0 rfl
      have cL21 := L2.out.c 1 rfl
      have cL22 := L2.out.c 2 rfl
      go_wp2_with fail
      refine (T1.out _ IX1.out IX2.out IY1.out IY2.out).mono ?_
      rintro e v5 ⟨rfl, hb⟩
      replace HA := Lib.hid (HA.out.keep hb)
      replace HIB := Lib.hid (HIB.out.keep hb)
      replace HIC := Lib.hid (HIC.out.keep hb)
      replace B0 := Lib.hid (B0.out.keep hb)
      replace B1 := Lib.hid (B1.out.keep hb)
      replace HM := Lib.hid (HM.out.keep hb)
      replace B5 := Lib.hid (B5.out.keep hb)
      replace IX1 := Lib.hid (IX1.out.keep hb)
      replace IY1 := Lib.hid (IY1.out.keep hb)
      replace L1 := Lib.hid (L1.out.keep hb)
      replace IX2 := Lib.hid (IX2.out.keep hb)
      replace IY2 := Lib.hid (IY2.out.keep hb)
      replace L2 := Lib.hid (L2.out.keep hb)
      replace IX3 := Lib.hid (IX3.out.keep hb)
      replace IY3 := Lib.hid (IY3.out.keep hb)
      replace L3 := Lib.hid (L3.out.keep hb)
      replace IX4 := Lib.hid (IX4.out.keep hb)
      replace IY4 := Lib.hid (IY4.out.keep hb)
      replace L4 := Lib.hid (L4.out.keep hb)
      replace HB := Lib.hid (keepB HB.out hb)
      clear cL10 cL11 cL12 cL20 cL21 cL22 hb
      have cL30 := L3.out.c 0 rfl
      have cL31 := L3.out.c 1 rfl
      have cL32 := L3.out.c 2 rfl
      have cL40 := L4.out.c 0 rfl
      have cL41 := L4.out.c 1 rfl
      have cL42 := L4.out.c 2 rfl
      go_wp2_with fail
      refine (T2.out _ IX3.out IX4.out IY3.out IY4.out).mono ?_
      rintro e v6 ⟨rfl, hb⟩
      replace HA := Lib.hid (HA.out.keep hb)
      replace HIB := Lib.hid (HIB.out.keep hb)
      replace HIC := Lib.hid (HIC.out.keep hb)
      replace B0 := Lib.hid (B0.out.keep hb)
      replace B1 := Lib.hid (B1.out.keep hb)
      replace HM := Lib.hid (HM.out.keep hb)
      replace B5 := Lib.hid (B5.out.keep hb)
      replace IX1 := Lib.hid (IX1.out.keep hb)
      replace IY1 := Lib.hid (IY1.out.keep hb)
      replace L1 := Lib.hid (L1.out.keep hb)
      replace IX2 := Lib.hid (IX2.out.keep hb)
      replace IY2 := Lib.hid (IY2.out.keep hb)
      replace L2 := Lib.hid (L2.out.keep hb)
      replace IX3 := Lib.hid (IX3.out.keep hb)
      replace IY3 := Lib.hid (IY3.out.keep hb)
      replace L3 := Lib.hid (L3.out.keep hb)
      replace IX4 := Lib.hid (IX4.out.keep hb)
      replace IY4 := Lib.hid (IY4.out.keep hb)
      replace L4 := Lib.hid (L4.out.keep hb)
      replace HB := Lib.hid (keepB HB.out hb)
      clear cL30 cL31 cL32 cL40 cL41 cL42 hb
      clear IX1 IY1 L1
      clear IX2 IY2 L2
      clear IX3 IY3 L3
      clear IX4 IY4 L4
      clear T1 T2
      have cB50 := B5.out.c 0 rfl
      have cB51 := B5.out.c 1 rfl
      have cB10 := B1.out.c 0 rfl
      have cB11 := B1.out.c 1 rfl
      have cB12 := B1.out.c 2 rfl
      go_wp2_with fail
      refine (C5.out _ _ _ HM.out HIB.out HIC.out).mono ?_
      rintro e v7 ⟨rfl, hb⟩
      replace HA := Lib.hid (HA.out.keep hb)
      replace HIB := Lib.hid (HIB.out.keep hb)
      replace HIC := Lib.hid (HIC.out.keep hb)
      replace B0 := Lib.hid (B0.out.keep hb)
      replace B1 := Lib.hid (B1.out.keep hb)
      replace HM := Lib.hid (HM.out.keep hb)
      replace B5 := Lib.hid (B5.out.keep hb)
      replace HB := Lib.hid (keepB HB.out hb)
      clear cB50 cB51 cB10 cB11 cB12 hb
      go_upto_region 11 with fail
      refine at_worldQ (fun v => Below v7.heap.size v7 v ∧ BK v (v7.heap.size) [.int .i64 ra, .int .i64 rb] ∧ BK v (v7.heap.size + 1) [.int .i64 rc, .int .i64 rd]) ⟨below_al (below_al (Below.refl _ _) _) _, ((BK.new v7 [.int .i64 ra, .int .i64 rb] 37).al _), (bkAt5 (BK.new (v7.alloc (.cells #[.int .i64 ra, .int .i64 rb] 37)) [.int .i64 rc, .int .i64 rd] 37) (by simp only [World.size_alloc]))⟩ (fun U7 hS => ?_)
      obtain ⟨hb, hP1, hP2⟩ := hS
      replace HA := Lib.hid (HA.out.keep hb)
      replace HIB := Lib.hid (HIB.out.keep hb)
      replace HIC := Lib.hid (HIC.out.keep hb)
      replace B0 := Lib.hid (B0.out.keep hb)
      replace B1 := Lib.hid (B1.out.keep hb)
      replace HM := Lib.hid (HM.out.keep hb)
      replace B5 := Lib.hid (B5.out.keep hb)
      replace HB := Lib.hid (keepB HB.out hb)
      have P1 := Lib.hid hP1
      have P2 := Lib.hid hP2
      clear hb hP1 hP2
      have cB00 := B0.out.c 0 rfl
      have cB01 := B0.out.c 1 rfl
      have cB10 := B1.out.c 0 rfl
      have cB11 := B1.out.c 1 rfl
      have cB12 := B1.out.c 2 rfl
      go_wp2_with fail
      refine (C6.out _ HA.out HIB.out HIC.out).mono ?_
      rintro e v8 ⟨rfl, hb⟩
      replace HA := Lib.hid (HA.out.keep hb)
      replace HIB := Lib.hid (HIB.out.keep hb)
      replace HIC := Lib.hid (HIC.out.keep hb)
      replace B0 := Lib.hid (B0.out.keep hb)
      replace B1 := Lib.hid (B1.out.keep hb)
      replace HM := Lib.hid (HM.out.keep hb)
      replace B5 := Lib.hid (B5.out.keep hb)
      replace P1 := Lib.hid (P1.out.keep hb)
      replace P2 := Lib.hid (P2.out.keep hb)
      replace HB := Lib.hid (keepB HB.out hb)
      clear cB00 cB01 cB10 cB11 cB12 hb
      go_upto_region 12 with fail
      refine at_worldQ (fun v => Below v8.heap.size v8 v ∧ BK v (v8.heap.size) [.int .i64 ra, .int .i64 rb] ∧ BK v (v8.heap.size + 1) [.int .i64 rc, .int .i64 rd]) ⟨below_al (below_al (Below.refl _ _) _) _, ((BK.new v8 [.int .i64 ra, .int .i64 rb] 37).al _), (bkAt5 (BK.new (v8.alloc (.cells #[.int .i64 ra, .int .i64 rb] 37)) [.int .i64 rc, .int .i64 rd] 37) (by simp only [World.size_alloc]))⟩ (fun U8 hS => ?_)
      obtain ⟨hb, hP3, hP4⟩ := hS
      replace HA := Lib.hid (HA.out.keep hb)
      replace HIB := Lib.hid (HIB.out.keep hb)
      replace HIC := Lib.hid (HIC.out.keep hb)
      replace B0 := Lib.hid (B0.out.keep hb)
      replace B1 := Lib.hid (B1.out.keep hb)
      replace HM := Lib.hid (HM.out.keep hb)
      replace B5 := Lib.hid (B5.out.keep hb)
      replace P1 := Lib.hid (P1.out.keep hb)
      replace P2 := Lib.hid (P2.out.keep hb)
      replace HB := Lib.hid (keepB HB.out hb)
      have P3 := Lib.hid hP3
      have P4 := Lib.hid hP4
      clear hb hP3 hP4
      have cB50 := B5.out.c 0 rfl
      have cB51 := B5.out.c 1 rfl
      go_wp2_with fail
      refine (C7.out _ _ _ HM.out).mono ?_
      rintro e v9 ⟨rfl, hb⟩
      replace HA := Lib.hid (HA.out.keep hb)
      replace HIB := Lib.hid (HIB.out.keep hb)
      replace HIC := Lib.hid (HIC.out.keep hb)
      replace B0 := Lib.hid (B0.out.keep hb)
      replace B1 := Lib.hid (B1.out.keep hb)
      replace HM := Lib.hid (HM.out.keep hb)
      replace B5 := Lib.hid (B5.out.keep hb)
      replace P1 := Lib.hid (P1.out.keep hb)
      replace P2 := Lib.hid (P2.out.keep hb)
      replace P3 := Lib.hid (P3.out.keep hb)
      replace P4 := Lib.hid (P4.out.keep hb)
      replace HB := Lib.hid (keepB HB.out hb)
      clear cB50 cB51 hb
      go_upto_region 13 with fail
      refine at_worldQ (fun v => Below v9.heap.size v9 v ∧ BK v (v9.heap.size) [.int .i64 sa, .int .i64 sb] ∧ BK v (v9.heap.size + 1) [.int .i64 sc, .int .i64 sd]) ⟨below_al (below_al (Below.refl _ _) _) _, ((BK.new v9 [.int .i64 sa, .int .i64 sb] 37).al _), (bkAt5 (BK.new (v9.alloc (.cells #[.int .i64 sa, .int .i64 sb] 37)) [.int .i64 sc, .int .i64 sd] 37) (by simp only [World.size_alloc]))⟩ (fun U9 hS => ?_)
      obtain ⟨hb, hP5, hP6⟩ := hS
      replace HA := Lib.hid (HA.out.keep hb)
      replace HIB := Lib.hid (HIB.out.keep hb)
      replace HIC := Lib.hid (HIC.out.keep hb)
      replace B0 := Lib.hid (B0.out.keep hb)
      replace B1 := Lib.hid (B1.out.keep hb)
      replace HM := Lib.hid (HM.out.keep hb)
      replace B5 := Lib.hid (B5.out.keep hb)
      replace P1 := Lib.hid (P1.out.keep hb)
      replace P2 := Lib.hid (P2.out.keep hb)
      replace P3 := Lib.hid (P3.out.keep hb)
      replace P4 := Lib.hid (P4.out.keep hb)
      replace HB := Lib.hid (keepB HB.out hb)
      have P5 := Lib.hid hP5
      have P6 := Lib.hid hP6
      clear hb hP5 hP6
      have cB00 := B0.out.c 0 rfl
      have cB01 := B0.out.c 1 rfl
      go_wp2_with fail
      refine (C8.out _ HA.out).mono ?_
      rintro e v10 ⟨rfl, hb⟩
      replace HA := Lib.hid (HA.out.keep hb)
      replace HIB := Lib.hid (HIB.out.keep hb)
      replace HIC := Lib.hid (HIC.out.keep hb)
      replace B0 := Lib.hid (B0.out.keep hb)
      replace B1 := Lib.hid (B1.out.keep hb)
      replace HM := Lib.hid (HM.out.keep hb)
      replace B5 := Lib.hid (B5.out.keep hb)
      replace P1 := Lib.hid (P1.out.keep hb)
      replace P2 := Lib.hid (P2.out.keep hb)
      replace P3 := Lib.hid (P3.out.keep hb)
      replace P4 := Lib.hid (P4.out.keep hb)
      replace P5 := Lib.hid (P5.out.keep hb)
      replace P6 := Lib.hid (P6.out.keep hb)
      replace HB := Lib.hid (keepB HB.out hb)
      clear cB00 cB01 hb
      go_upto_region 14 with fail
      refine at_worldQ (fun v => Below v10.heap.size v10 v ∧ BK v (v10.heap.size) [.int .i64 sa, .int .i64 sb] ∧ BK v (v10.heap.size + 1) [.int .i64 sc, .int .i64 sd]) ⟨below_al (below_al (Below.refl _ _) _) _, ((BK.new v10 [.int .i64 sa, .int .i64 sb] 37).al _), (bkAt5 (BK.new (v10.alloc (.cells #[.int .i64 sa, .int .i64 sb] 37)) [.int .i64 sc, .int .i64 sd] 37) (by simp only [World.size_alloc]))⟩ (fun U10 hS => ?_)
      obtain ⟨hb, hP7, hP8⟩ := hS
      replace HA := Lib.hid (HA.out.keep hb)
      replace HIB := Lib.hid (HIB.out.keep hb)
      replace HIC := Lib.hid (HIC.out.keep hb)
      replace B0 := Lib.hid (B0.out.keep hb)
      replace B1 := Lib.hid (B1.out.keep hb)
      replace HM := Lib.hid (HM.out.keep hb)
      replace B5 := Lib.hid (B5.out.keep hb)
      replace P1 := Lib.hid (P1.out.keep hb)
      replace P2 := Lib.hid (P2.out.keep hb)
      replace P3 := Lib.hid (P3.out.keep hb)
      replace P4 := Lib.hid (P4.out.keep hb)
      replace P5 := Lib.hid (P5.out.keep hb)
      replace P6 := Lib.hid (P6.out.keep hb)
      replace HB := Lib.hid (keepB HB.out hb)
      have P7 := Lib.hid hP7
      have P8 := Lib.hid hP8
      clear hb hP7 hP8
      have cP10 := P1.out.c 0 rfl
      have cP11 := P1.out.c 1 rfl
      have cP20 := P2.out.c 0 rfl
      have cP21 := P2.out.c 1 rfl
      have cP30 := P3.out.c 0 rfl
      have cP31 := P3.out.c 1 rfl
      have cP40 := P4.out.c 0 rfl
      have cP41 := P4.out.c 1 rfl
      have cP50 := P5.out.c 0 rfl
      have cP51 := P5.out.c 1 rfl
      have cP60 := P6.out.c 0 rfl
      have cP61 := P6.out.c 1 rfl
      have cP70 := P7.out.c 0 rfl
      have cP71 := P7.out.c 1 rfl
      have cP80 := P8.out.c 0 rfl
      have cP81 := P8.out.c 1 rfl
      have cB00 := B0.out.c 0 rfl
      have cB01 := B0.out.c 1 rfl
      have cB50 := B5.out.c 0 rfl
      have cB51 := B5.out.c 1 rfl
      have k1 : (re == re) = true := by simp
      have k2 : (se == se) = true := by simp
      go_wp2_with fail
      refine (S3.out _ _ _ _ _ HM.out HA.out).mono ?_
      rintro e v11 ⟨rfl, hb⟩
      replace HA := Lib.hid (HA.out.keep hb)
      replace HIB := Lib.hid (HIB.out.keep hb)
      replace HIC := Lib.hid (HIC.out.keep hb)
      replace B0 := Lib.hid (B0.out.keep hb)
      replace B1 := Lib.hid (B1.out.keep hb)
      replace HM := Lib.hid (HM.out.keep hb)
      replace B5 := Lib.hid (B5.out.keep hb)
      replace P1 := Lib.hid (P1.out.keep hb)
      replace P2 := Lib.hid (P2.out.keep hb)
      replace P3 := Lib.hid (P3.out.keep hb)
      replace P4 := Lib.hid (P4.out.keep hb)
      replace P5 := Lib.hid (P5.out.keep hb)
      replace P6 := Lib.hid (P6.out.keep hb)
      replace P7 := Lib.hid (P7.out.keep hb)
      replace P8 := Lib.hid (P8.out.keep hb)
      replace HB := Lib.hid (keepB HB.out hb)
      clear cP10 cP11 cP20 cP21 cP30 cP31 cP40 cP41 cP50 cP51 cP60 cP61 cP70 cP71 cP80 cP81 cB00 cB01 cB50 cB51 hb
      go_wp2_with fail
      go_ret
      exact ⟨rfl, HB.out⟩
end Go.Proofs.YtncmffhoodfhjaaGreat
