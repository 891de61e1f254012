/- AssignNames' walk. -/
import Derived.Test.YtkibglbccfjkpaaAsz1
import Derived.Deep.RegionHeld3
namespace Go.Proofs.Ytkibglbccfjkpaa
open Go.RowKit
set_option maxRecDepth 100000 in
set_option maxHeartbeats 16000000 in
theorem anames_walk (w : World) : Calls Try.prog 5 #[] w fun e w' => e = .returned (.bool true) ∧ Below w.heap.size w w' := by
  have HG := Lib.hid given_any
  have MK := nils_make
  have HMK := Lib.hid MK
  clear MK
  go_enter Try.func5, Try.ntmps5
  go_upto_region 2 with fail
  refine at_boxs15 (fun V hbb B0 B1 B2 B3 B4 B5 B6 B7 B8 B9 B10 B11 B12 B13 B14 hVs => ?_)
  have HBD := Lib.hid (show ∀ k, k < 7 → ∃ A c, ∃ U : List (List Int), V.cell? ⟨w.heap.size + 14, k, none⟩ = some (.slice A U.length c) ∧ IsM V A U ∧ U.length ≤ maxLen ∧ As.chk U = 8 from fun k hk => by
    match k, hk with
    | 0, _ => exact ⟨none, 0, [], B14.c 0 rfl, (fun h => absurd h (by simp)), by simp, by decide +kernel⟩
    | 1, _ => exact ⟨_, _, [[]], B14.c 1 rfl, isM_rows ⟨⟨_, _, B1.c 0 rfl, (by unfold maxLen; simp), (isI_bk (l := []) B0 (i64b (by decide)))⟩, trivial⟩, (by unfold maxLen; simp), by decide +kernel⟩
    | 2, _ => exact ⟨_, _, [[1, 2]], B14.c 2 rfl, isM_rows ⟨⟨_, _, B3.c 0 rfl, (by unfold maxLen; simp), (isI_bk (l := [1, 2]) B2 (i64b (by decide)))⟩, trivial⟩, (by unfold maxLen; simp), by decide +kernel⟩
    | 3, _ => exact ⟨_, _, [[1], [2]], B14.c 3 rfl, isM_rows ⟨⟨_, _, B6.c 0 rfl, (by unfold maxLen; simp), (isI_bk (l := [1]) B4 (i64b (by decide)))⟩, ⟨⟨_, _, B6.c 1 rfl, (by unfold maxLen; simp), (isI_bk (l := [2]) B5 (i64b (by decide)))⟩, trivial⟩⟩, (by unfold maxLen; simp), by decide +kernel⟩
    | 4, _ => exact ⟨_, _, [[-1]], B14.c 4 rfl, isM_rows ⟨⟨_, _, B8.c 0 rfl, (by unfold maxLen; simp), (isI_bk (l := [-1]) B7 (i64b (by decide)))⟩, trivial⟩, (by unfold maxLen; simp), by decide +kernel⟩
    | 5, _ => exact ⟨_, _, [[1000001]], B14.c 5 rfl, isM_rows ⟨⟨_, _, B10.c 0 rfl, (by unfold maxLen; simp), (isI_bk (l := [1000001]) B9 (i64b (by decide)))⟩, trivial⟩, (by unfold maxLen; simp), by decide +kernel⟩
    | 6, _ => exact ⟨_, _, [[1, 2], [3]], B14.c 6 rfl, isM_rows ⟨⟨_, _, B13.c 0 rfl, (by unfold maxLen; simp), (isI_bk (l := [1, 2]) B11 (i64b (by decide)))⟩, ⟨⟨_, _, B13.c 1 rfl, (by unfold maxLen; simp), (isI_bk (l := [3]) B12 (i64b (by decide)))⟩, trivial⟩⟩, (by unfold maxLen; simp), by decide +kernel⟩)
  clear B0 B1 B2 B3 B4 B5 B6 B7 B8 B9 B10 B11 B12 B13 B14 hVs
  have HB := Lib.hid hbb
  clear hbb
  go_wp2_with fail
  go_loopw [2] (fun i W => ∃ k : Nat, k ≤ 7 ∧ i = .int .i64 k ∧ Below V.heap.size V W) (fun i _ => 7 - (intOf i).toNat)
  case atStart => exact ⟨0, Nat.zero_le _, rfl, Below.refl _ _⟩
  case round =>
    obtain ⟨k, hk, rfl, hb7⟩ := hrel
    by_cases hlt : k < 7
    · obtain ⟨A, c, U, hc, hM, hU, h8⟩ := HBD.out k hlt
      have c1 := keepC hb7 hc
      have CK := asCheck_any A c U wr hU (hM.keep hb7)
      rw [h8] at CK
      have CK' := Lib.hid CK
      have i1 : (k : Int) < 7 := by omega
      clear hM hU h8 CK hc
      generalize U.length = q at *
      go_wp2_with fail
      refine CK'.out.mono ?_
      rintro e w1 ⟨rfl, hb1⟩
      replace hb7 := keepB hb7 hb1
      clear hb1 c1 CK'
      go_wp2_with fail
      go_roundw
      case rel => exact ⟨k + 1, by omega, by go_num, hb7⟩
      case measure => simp [intOf]; omega
    · obtain rfl : k = 7 := by omega
      have HB2 := Lib.hid (keepB HB.out hb7)
      have MK := HMK.out
      clear hb7 HBD HMK
      go_wp2_with fail
      refine (chk7_any _ _ _ (isM_rows ⟨⟨none, 0, by go_simp, by simp, isI_nil _ _⟩, ⟨none, 0, by go_simp, by simp, isI_nil _ _⟩, ⟨none, 0, by go_simp, by simp, isI_nil _ _⟩, ⟨none, 0, by go_simp, by simp, isI_nil _ _⟩, ⟨none, 0, by go_simp, by simp, isI_nil _ _⟩, ⟨none, 0, by go_simp, by simp, isI_nil _ _⟩, ⟨none, 0, by go_simp, by simp, isI_nil _ _⟩, trivial⟩)).mono ?_
      rintro e w1 ⟨rfl, hb1⟩
      have HB3 := Lib.hid (keepB HB2.out (keepB (below_al (Below.refl _ _) _) hb1))
      clear hb1 MK HB HB2
      go_upto_region 9 with fail
      refine at_box2 (fun V2 hb2 B0 B1 hV2 => ?_)
      have HB4 := Lib.hid (keepB HB3.out hb2)
      have HONE := Lib.hid (show IsM V2 (some ⟨w1.heap.size + 1, 0, none⟩) [[1000000]] from isM_rows ⟨⟨_, _, B1.c 0 rfl, by unfold maxLen; simp, isI_bk (l := [1000000]) B0 (i64b (by decide))⟩, trivial⟩)
      clear B0 B1 hV2 hb2 HB3
      go_upto_region 10 with fail
      refine at_box6 (fun V3 hb3 B0 B1 B2 B3 B4 B5 hV3 => ?_)
      have HB5 := Lib.hid (keepB HB4.out hb3)
      replace HONE := Lib.hid (HONE.out.keep hb3)
      obtain ⟨lb, hlb⟩ : ∃ lb, V2.heap.size + 5 = lb := ⟨_, rfl⟩
      have HLS := Lib.hid (show ∀ i, i < 6 → ∃ R c, V3.cell? ⟨lb, i, none⟩ = some (.slice R (([[], [0], [0, 0], [0, 2], [-1, 0], [0, 1, 2]] : List (List Int)).getD i []).length c) ∧ (([[], [0], [0, 0], [0, 2], [-1, 0], [0, 1, 2]] : List (List Int)).getD i []).length ≤ maxLen ∧ IsI V3 R (([[], [0], [0, 0], [0, 2], [-1, 0], [0, 1, 2]] : List (List Int)).getD i []) from fun i hi => by
        subst hlb
        match i, hi with
        | 0, _ => exact ⟨_, _, B5.c 0 rfl, by simp, isI_nil _ _⟩
        | 1, _ => exact ⟨_, _, B5.c 1 rfl, by unfold maxLen; simp, isI_bk (l := [0]) B0 (i64b (by decide))⟩
        | 2, _ => exact ⟨_, _, B5.c 2 rfl, by unfold maxLen; simp, isI_bk (l := [0, 0]) B1 (i64b (by decide))⟩
        | 3, _ => exact ⟨_, _, B5.c 3 rfl, by unfold maxLen; simp, isI_bk (l := [0, 2]) B2 (i64b (by decide))⟩
        | 4, _ => exact ⟨_, _, B5.c 4 rfl, by unfold maxLen; simp, isI_bk (l := [-1, 0]) B3 (i64b (by decide))⟩
        | 5, _ => exact ⟨_, _, B5.c 5 rfl, by unfold maxLen; simp, isI_bk (l := [0, 1, 2]) B4 (i64b (by decide))⟩)
      rw [hlb]
      clear B0 B1 B2 B3 B4 B5 hV3 hb3 HB4 hlb
      go_wp2_with fail
      go_loopw [6] (fun i W => ∃ k : Nat, k ≤ 6 ∧ i = .int .i64 k ∧ Below V3.heap.size V3 W) (fun i _ => 6 - (intOf i).toNat)
      case atStart => exact ⟨0, Nat.zero_le _, rfl, Below.refl _ _⟩
      case round =>
        obtain ⟨k, hk, rfl, hb7⟩ := hrel
        by_cases hlt : k < 6
        · obtain ⟨R, c, hc, hrl, hI⟩ := HLS.out k hlt
          obtain ⟨v1, v2⟩ := nm_ls k hlt
          have CV := fun v g cg (hM : IsM v (some ⟨g, 0, none⟩) [[5, 3], [4, 1]]) (hv : Below V3.heap.size V3 v) => asValue_any (some ⟨g, 0, none⟩) cg [[5, 3], [4, 1]] R c _ v two_le hM hrl (hI.keep hv)
          have CP := fun v g cg h ch (hM : IsM v (some ⟨g, 0, none⟩) [[5, 3], [4, 1]]) (hv : Below V3.heap.size V3 v) (hH : IsI v (some ⟨h, 0, none⟩) [0, 0]) => asProves_any (some ⟨g, 0, none⟩) cg [[5, 3], [4, 1]] R c _ (some ⟨h, 0, none⟩) ch [0, 0] v two_le hM hrl (hI.keep hv) two_le hH
          rw [v1] at CV
          rw [v2] at CP
          have HC := Lib.hid hc
          generalize (([[], [0], [0, 0], [0, 2], [-1, 0], [0, 1, 2]] : List (List Int)).getD k []).length = q at CV CP HC
          have HCV : Hid (∀ v g cg, IsM v (some ⟨g, 0, none⟩) [[5, 3], [4, 1]] → Below V3.heap.size V3 v → Calls Try.prog 22 #[.slice (some ⟨g, 0, none⟩) 2 cg, .slice R q c] v fun e w' => e = .returned (.tuple #[.int .i64 0, .int .i64 8]) ∧ Below v.heap.size v w') := Lib.hid CV
          have HCP : Hid (∀ v g cg h ch, IsM v (some ⟨g, 0, none⟩) [[5, 3], [4, 1]] → Below V3.heap.size V3 v → IsI v (some ⟨h, 0, none⟩) [0, 0] → Calls Try.prog 24 #[.slice (some ⟨g, 0, none⟩) 2 cg, .slice R q c, .slice (some ⟨h, 0, none⟩) 2 ch] v fun e w' => e = .returned (.tuple #[.bool false, .int .i64 8]) ∧ Below v.heap.size v w') := Lib.hid CP
          have i1 : (k : Int) < 6 := by omega
          have c1 := keepC hb7 HC.out
          clear CV CP v1 v2 hc hrl hI
          go_upto_region 13 with fail
          go_cut [8] (fun y v => y = .int .i64 8 ∧ Below V3.heap.size V3 v)
          case first =>
            go_region_with (first
              | (go_at_call 26; refine (HG.out _).mono ?_; rintro e w3 ⟨g, rfl, hM, hb3⟩; replace c1 := keepC hb3 c1)
              | (go_at_call 22; refine (HCV.out _ _ _ hM (by first | exact keepB hb7 hb3 | exact keepB hb7.drew hb3)).mono ?_; rintro e w4 ⟨rfl, hb4⟩))
            all_goals
              go_wp2_with fail
              go_meet
              first | exact ⟨rfl, keepB (keepB hb7 hb3) hb4⟩ | exact ⟨rfl, keepB (keepB hb7.drew hb3) hb4⟩
          case rest =>
            obtain ⟨rfl, hb8⟩ := hcut
            have c2 := keepC hb8 HC.out
            have l2 := lt_of_cell c2
            clear hb7 c1
            go_upto_region 14 with fail
            go_cut [10] (fun y v => y = .int .i64 8 ∧ Below V3.heap.size V3 v)
            case first =>
              go_region_with (first
                | (go_at_call 26; refine (HG.out _).mono ?_; rintro e w3 ⟨g, rfl, hM, hb3⟩; (first | replace c2 := keepC hb3 c2 | replace c2 := keepC hb3 (cell_alloc c2 _)); replace l2 := lt_of_cell c2)
                | (go_at_call 24; refine (HCP.out _ _ _ _ _ (by first | exact hM | exact hM.keep (below_al (Below.refl _ _) _)) (by first | exact below_al (keepB hb8 hb3) _ | exact keepB (below_al hb8 _) hb3 | exact below_al (keepB hb8.drew hb3) _ | exact keepB (below_al hb8.drew _) hb3) (isI_lit2 0 0 (by unfold I64; decide) (by unfold I64; decide) (by first | (go_simp; done) | exact keepC hb3 (by go_simp)) (by first | (go_simp; done) | exact keepC hb3 (by go_simp)))).mono ?_; rintro e w4 ⟨rfl, hb4⟩))
              all_goals
                go_wp2_with fail
                go_meet
                first | exact ⟨rfl, keepB (below_al (keepB hb8 hb3) _) hb4⟩ | exact ⟨rfl, keepB (keepB (below_al hb8 _) hb3) hb4⟩ | exact ⟨rfl, keepB (below_al (keepB hb8.drew hb3) _) hb4⟩ | exact ⟨rfl, keepB (keepB (below_al hb8.drew _) hb3) hb4⟩
            case rest =>
              obtain ⟨rfl, hb9⟩ := hcut
              clear hb8 c2 l2
              go_wp2_with fail
              go_roundw
              case rel => exact ⟨k + 1, by omega, by go_num, hb9⟩
              case measure => simp [intOf]; omega
        · obtain rfl : k = 6 := by omega
          have hbb := keepB HB5.out hb7
          replace HONE := Lib.hid (HONE.out.keep hb7)
          clear hb7 HLS HB5
          go_wp2_with fail
          refine (HG.out _).mono ?_
          rintro e w9 ⟨g, rfl, hM, hb9⟩
          replace HONE := Lib.hid (HONE.out.keep hb9)
          have HM := Lib.hid hM
          clear hM
          have hbb9 := keepB hbb hb9
          clear hb9
          replace hbb := hbb9
          clear hbb9
          go_wp2_with fail
          refine (np1 _ _ _ _ _ _ _ (HM.out.keep (below_al (below_al (Below.refl _ _) _) _)) (isI_lit2 1 0 (by unfold I64; decide) (by unfold I64; decide) (by go_simp) (by go_simp)) (isI_lit1 0 (by unfold I64; decide) (by go_simp))).mono ?_
          rintro e w9 ⟨rfl, hb9⟩
          replace hb9 := keepB (below_al (below_al (Below.refl _ _) _) _) hb9
          replace HONE := Lib.hid (HONE.out.keep hb9)
          have hbb9 := keepB hbb hb9
          clear hb9
          replace hbb := hbb9
          clear hbb9
          go_wp2_with fail
          refine (HG.out _).mono ?_
          rintro e w9 ⟨g, rfl, hM, hb9⟩
          replace HONE := Lib.hid (HONE.out.keep hb9)
          have HM := Lib.hid hM
          clear hM
          have hbb9 := keepB hbb hb9
          clear hb9
          replace hbb := hbb9
          clear hbb9
          go_wp2_with fail
          refine (np2 _ _ _ _ _ _ _ (HM.out.keep (below_al (below_al (Below.refl _ _) _) _)) (isI_lit2 1 0 (by unfold I64; decide) (by unfold I64; decide) (by go_simp) (by go_simp)) (isI_lit2 0 (-1) (by unfold I64; decide) (by unfold I64; decide) (by go_simp) (by go_simp))).mono ?_
          rintro e w9 ⟨rfl, hb9⟩
          replace hb9 := keepB (below_al (below_al (Below.refl _ _) _) _) hb9
          replace HONE := Lib.hid (HONE.out.keep hb9)
          have hbb9 := keepB hbb hb9
          clear hb9
          replace hbb := hbb9
          clear hbb9
          go_wp2_with fail
          refine (HG.out _).mono ?_
          rintro e w9 ⟨g, rfl, hM, hb9⟩
          replace HONE := Lib.hid (HONE.out.keep hb9)
          have HM := Lib.hid hM
          clear hM
          have hbb9 := keepB hbb hb9
          clear hb9
          replace hbb := hbb9
          clear hbb9
          go_wp2_with fail
          refine (np3 _ _ _ _ _ _ _ (HM.out.keep (below_al (below_al (Below.refl _ _) _) _)) (isI_lit2 1 0 (by unfold I64; decide) (by unfold I64; decide) (by go_simp) (by go_simp)) (isI_lit2 10000001 0 (by unfold I64; decide) (by unfold I64; decide) (by go_simp) (by go_simp))).mono ?_
          rintro e w9 ⟨rfl, hb9⟩
          replace hb9 := keepB (below_al (below_al (Below.refl _ _) _) _) hb9
          replace HONE := Lib.hid (HONE.out.keep hb9)
          have hbb9 := keepB hbb hb9
          clear hb9
          replace hbb := hbb9
          clear hbb9
          go_wp2_with fail
          refine (nbest_one _ _ _ HONE.out).mono ?_
          rintro e w9 ⟨A1, c1, rfl, hI1, hb9⟩
          replace HONE := Lib.hid (HONE.out.keep hb9)
          have I1 := Lib.hid hI1
          clear hI1
          have hbb9 := keepB hbb hb9
          clear hb9
          replace hbb := hbb9
          clear hbb9
          go_wp2_with fail
          refine (nprices _ _ _ HONE.out).mono ?_
          rintro e w9 ⟨A2, c2, rfl, hI2, hb9⟩
          replace HONE := Lib.hid (HONE.out.keep hb9)
          replace I1 := Lib.hid (I1.out.keep hb9)
          have I2 := Lib.hid hI2
          clear hI2
          have hbb9 := keepB hbb hb9
          clear hb9
          replace hbb := hbb9
          clear hbb9
          go_wp2_with fail
          refine (nharm _ _ _ HONE.out).mono ?_
          rintro e w9 ⟨A3, c3, rfl, hI3, hb9⟩
          replace HONE := Lib.hid (HONE.out.keep hb9)
          replace I1 := Lib.hid (I1.out.keep hb9)
          replace I2 := Lib.hid (I2.out.keep hb9)
          have I3 := Lib.hid hI3
          clear hI3
          have hbb9 := keepB hbb hb9
          clear hb9
          replace hbb := hbb9
          clear hbb9
          go_wp2_with fail
          refine (HG.out _).mono ?_
          rintro e w9 ⟨g, rfl, hM, hb9⟩
          replace HONE := Lib.hid (HONE.out.keep hb9)
          replace I1 := Lib.hid (I1.out.keep hb9)
          replace I2 := Lib.hid (I2.out.keep hb9)
          replace I3 := Lib.hid (I3.out.keep hb9)
          have HM := Lib.hid hM
          clear hM
          have hbb9 := keepB hbb hb9
          clear hb9
          replace hbb := hbb9
          clear hbb9
          go_wp2_with fail
          refine (nval _ _ _ _ _ (HM.out.keep (below_al (Below.refl _ _) _)) (isI_lit2 0 1 (by unfold I64; decide) (by unfold I64; decide) (by go_simp) (by go_simp))).mono ?_
          rintro e w9 ⟨rfl, hb9⟩
          replace hb9 := keepB (below_al (Below.refl _ _) _) hb9
          replace HONE := Lib.hid (HONE.out.keep hb9)
          replace I1 := Lib.hid (I1.out.keep hb9)
          replace I2 := Lib.hid (I2.out.keep hb9)
          replace I3 := Lib.hid (I3.out.keep hb9)
          have hbb9 := keepB hbb hb9
          clear hb9
          replace hbb := hbb9
          clear hbb9
          go_upto_region 25 with fail
          refine at_boxs7 (fun V6 hb6 B0 B1 B2 B3 B4 B5 B6 hV6 => ?_)
          have HSIX := Lib.hid (show IsM V6 _ [[0, 1, 0, 0, 0, 0], [0, 0, 1, 0, 0, 0], [0, 0, 0, 1, 0, 0], [0, 0, 0, 0, 1, 0], [0, 0, 0, 0, 0, 1], [9, 0, 0, 0, 0, 0]] from isM_rows ⟨⟨_, _, B6.c 0 rfl, by unfold maxLen; simp, isI_bk (l := [0, 1, 0, 0, 0, 0]) B0 (i64b (by decide))⟩, ⟨⟨_, _, B6.c 1 rfl, by unfold maxLen; simp, isI_bk (l := [0, 0, 1, 0, 0, 0]) B1 (i64b (by decide))⟩, ⟨⟨_, _, B6.c 2 rfl, by unfold maxLen; simp, isI_bk (l := [0, 0, 0, 1, 0, 0]) B2 (i64b (by decide))⟩, ⟨⟨_, _, B6.c 3 rfl, by unfold maxLen; simp, isI_bk (l := [0, 0, 0, 0, 1, 0]) B3 (i64b (by decide))⟩, ⟨⟨_, _, B6.c 4 rfl, by unfold maxLen; simp, isI_bk (l := [0, 0, 0, 0, 0, 1]) B4 (i64b (by decide))⟩, ⟨⟨_, _, B6.c 5 rfl, by unfold maxLen; simp, isI_bk (l := [9, 0, 0, 0, 0, 0]) B5 (i64b (by decide))⟩, trivial⟩⟩⟩⟩⟩⟩)
          replace HONE := Lib.hid (HONE.out.keep hb6)
          replace I1 := Lib.hid (I1.out.keep hb6)
          replace I2 := Lib.hid (I2.out.keep hb6)
          replace I3 := Lib.hid (I3.out.keep hb6)
          have hbb6 := keepB hbb hb6
          clear hb6 B0 B1 B2 B3 B4 B5 B6 hV6
          replace hbb := hbb6
          clear hbb6
          go_wp2_with fail
          refine (nbest_six _ _ _ HSIX.out).mono ?_
          rintro e w9 ⟨A6, c6, rfl, hI6, hb9⟩
          replace HONE := Lib.hid (HONE.out.keep hb9)
          replace I1 := Lib.hid (I1.out.keep hb9)
          replace I2 := Lib.hid (I2.out.keep hb9)
          replace I3 := Lib.hid (I3.out.keep hb9)
          replace HSIX := Lib.hid (HSIX.out.keep hb9)
          have I6 := Lib.hid hI6
          clear hI6
          have hbb9 := keepB hbb hb9
          clear hb9
          replace hbb := hbb9
          clear hbb9
          go_wp2_with fail
          refine (asAlive_any _).mono ?_
          rintro e w9 ⟨rfl, hb9⟩
          replace HONE := Lib.hid (HONE.out.keep hb9)
          replace I1 := Lib.hid (I1.out.keep hb9)
          replace I2 := Lib.hid (I2.out.keep hb9)
          replace I3 := Lib.hid (I3.out.keep hb9)
          replace HSIX := Lib.hid (HSIX.out.keep hb9)
          replace I6 := Lib.hid (I6.out.keep hb9)
          have hbb9 := keepB hbb hb9
          clear hb9
          replace hbb := hbb9
          clear hbb9
          go_wp2_with fail
          refine (chk1_any _ _ _ HONE.out).mono ?_
          rintro e w9 ⟨rfl, hb9⟩
          replace HONE := Lib.hid (HONE.out.keep hb9)
          replace I1 := Lib.hid (I1.out.keep hb9)
          replace I2 := Lib.hid (I2.out.keep hb9)
          replace I3 := Lib.hid (I3.out.keep hb9)
          replace HSIX := Lib.hid (HSIX.out.keep hb9)
          replace I6 := Lib.hid (I6.out.keep hb9)
          have hbb9 := keepB hbb hb9
          clear hb9
          replace hbb := hbb9
          clear hbb9
          go_wp2_with fail
          refine (nsame [0] rfl _ _ _ _ _ (by unfold maxLen; simp) (I1.out.keep (below_al (Below.refl _ _) _)) (isI_lit1 0 (by unfold I64; decide) (by go_simp))).mono ?_
          rintro e w9 ⟨rfl, hb9⟩
          replace hb9 := keepB (below_al (Below.refl _ _) _) hb9
          replace HONE := Lib.hid (HONE.out.keep hb9)
          replace I1 := Lib.hid (I1.out.keep hb9)
          replace I2 := Lib.hid (I2.out.keep hb9)
          replace I3 := Lib.hid (I3.out.keep hb9)
          replace HSIX := Lib.hid (HSIX.out.keep hb9)
          replace I6 := Lib.hid (I6.out.keep hb9)
          have hbb9 := keepB hbb hb9
          clear hb9
          replace hbb := hbb9
          clear hbb9
          go_wp2_with fail
          refine (nsame [0] rfl _ _ _ _ _ (by unfold maxLen; simp) (I2.out.keep (below_al (Below.refl _ _) _)) (isI_lit1 0 (by unfold I64; decide) (by go_simp))).mono ?_
          rintro e w9 ⟨rfl, hb9⟩
          replace hb9 := keepB (below_al (Below.refl _ _) _) hb9
          replace HONE := Lib.hid (HONE.out.keep hb9)
          replace I1 := Lib.hid (I1.out.keep hb9)
          replace I2 := Lib.hid (I2.out.keep hb9)
          replace I3 := Lib.hid (I3.out.keep hb9)
          replace HSIX := Lib.hid (HSIX.out.keep hb9)
          replace I6 := Lib.hid (I6.out.keep hb9)
          have hbb9 := keepB hbb hb9
          clear hb9
          replace hbb := hbb9
          clear hbb9
          go_wp2_with fail
          refine (nsame [0] rfl _ _ _ _ _ (by unfold maxLen; simp) (I3.out.keep (below_al (Below.refl _ _) _)) (isI_lit1 0 (by unfold I64; decide) (by go_simp))).mono ?_
          rintro e w9 ⟨rfl, hb9⟩
          replace hb9 := keepB (below_al (Below.refl _ _) _) hb9
          replace HONE := Lib.hid (HONE.out.keep hb9)
          replace I1 := Lib.hid (I1.out.keep hb9)
          replace I2 := Lib.hid (I2.out.keep hb9)
          replace I3 := Lib.hid (I3.out.keep hb9)
          replace HSIX := Lib.hid (HSIX.out.keep hb9)
          replace I6 := Lib.hid (I6.out.keep hb9)
          have hbb9 := keepB hbb hb9
          clear hb9
          replace hbb := hbb9
          clear hbb9
          go_wp2_with fail
          refine (nsame [1, 2, 3, 4, 5, 0] rfl _ _ _ _ _ (by unfold maxLen; simp) (I6.out.keep (below_al (Below.refl _ _) _)) (isI_bk (BK.new _ [.int .i64 1, .int .i64 2, .int .i64 3, .int .i64 4, .int .i64 5, .int .i64 0] _) (i64b (by decide)))).mono ?_
          rintro e w9 ⟨rfl, hb9⟩
          replace hb9 := keepB (below_al (Below.refl _ _) _) hb9
          replace HONE := Lib.hid (HONE.out.keep hb9)
          replace I1 := Lib.hid (I1.out.keep hb9)
          replace I2 := Lib.hid (I2.out.keep hb9)
          replace I3 := Lib.hid (I3.out.keep hb9)
          replace HSIX := Lib.hid (HSIX.out.keep hb9)
          replace I6 := Lib.hid (I6.out.keep hb9)
          have hbb9 := keepB hbb hb9
          clear hb9
          replace hbb := hbb9
          clear hbb9
          go_wp2_with fail
          go_ret
          exact ⟨rfl, hbb⟩
end Go.Proofs.Ytkibglbccfjkpaa
