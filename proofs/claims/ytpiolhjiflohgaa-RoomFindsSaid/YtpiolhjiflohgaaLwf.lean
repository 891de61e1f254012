/- RoomFinds' walk. -/
import Derived.Test.YtpiolhjiflohgaaYn
import Derived.Test.YtpiolhjiflohgaaYp
import Derived.Test.YtpiolhjiflohgaaYm
import Derived.Test.YtpiolhjiflohgaaYi
import Derived.Test.YtpiolhjiflohgaaYf
namespace Go.Proofs.Ytpiolhjiflohgaa
open Go.RowKit
namespace As
theorem evA_le (V : List (List Int)) (R : Int) : (evA V R).length ≤ maxLen := by
  unfold evA
  by_cases h : rchk V R = 0
  · rw [if_pos h]
    rcases rchk_two V R with ⟨_, hc, _⟩ | ⟨_, h2⟩
    · rw [(bst_top (chk_ok hc)).len]
      have := (chk_ok hc).n6
      unfold maxLen; omega
    · exact absurd h h2
  · rw [if_neg h]; exact Nat.zero_le _
theorem evP_le (V : List (List Int)) (R : Int) : (evP V R).length ≤ maxLen := by
  unfold evP
  by_cases h : rchk V R = 0
  · rw [if_pos h, rdp_len]
    rcases rchk_two V R with ⟨_, hc, _⟩ | ⟨_, h2⟩
    · have := (chk_ok hc).n6
      unfold maxLen; omega
    · exact absurd h h2
  · rw [if_neg h]; exact Nat.zero_le _
theorem lnS_le (V : List (List Int)) (R : Int) : (lnS V R).length ≤ maxLen := by
  unfold lnS
  by_cases h : rchk V R = 0
  · rw [if_pos h, lkt_len]
    rcases rchk_two V R with ⟨_, hc, _⟩ | ⟨_, h2⟩
    · have := (chk_ok hc).n6
      unfold maxLen; omega
    · exact absurd h h2
  · rw [if_neg h]; exact Nat.zero_le _
end As
set_option maxRecDepth 100000 in
set_option maxHeartbeats 8000000 in
theorem rfinds_walk (A : Option Addr) (cv : Nat) (V : List (List Int)) (R j : Int) (w : World) (hl : V.length ≤ maxLen) (h : IsM w A V) (_hR : I64 R) (_j0 : -9223372036854775808 ≤ j) (_j1 : j ≤ 9223372036854775807) :
    Calls Try.prog 3 #[.agg #[.slice A V.length cv, .int .i64 R], .int .i64 j] w fun e w' => e = .returned (.bool true) ∧ Below w.heap.size w w' := by
  have HA := Lib.hid h
  obtain ⟨ra, rb, rc, rd, re, hrg⟩ : ∃ ra rb rc rd re, rgV V R j = .tuple #[.agg #[.int .i64 ra, .int .i64 rb], .agg #[.int .i64 rc, .int .i64 rd], .int .i64 re] := ⟨_, _, _, _, _, rfl⟩
  have CG := Lib.hid (fun v (hv : IsM v A V) => r14Great_any A cv V R none 0 0 none 0 0 0 v hl hv (Nat.zero_le _) (Nat.zero_le _))
  have CT := Lib.hid (fun v (hv : IsM v A V) h20 hr => rTwinF_any A cv V v h20 hr hv)
  have C1 := Lib.hid (fun v B c (hv : IsM v B V) => rmEven_any B c V R v hl hv)
  have C2 := Lib.hid (fun v (hv : IsM v A V) => r14Even_any A cv V R v hl hv)
  have C3 := Lib.hid (fun v B c (hv : IsM v B V) => rmLinks_any B c V R v hl hv)
  have C4 := Lib.hid (fun v (hv : IsM v A V) => r14Links_any A cv V R v hl hv)
  have c5 := fun v B c (hv : IsM v B V) => rmRange_any B c V R j v hl hv
  have c6 := fun v (hv : IsM v A V) => r14Range_any A cv V R j v hl hv
  simp only [hrg] at c5 c6
  have C5 := Lib.hid c5
  have C6 := Lib.hid c6
  have C7 := Lib.hid (fun v B c (hv : IsM v B V) => rmCheck_any B c V R v hl hv)
  have C8 := Lib.hid (fun v (hv : IsM v A V) => r14Check_any A cv V R v hl hv)
  have S1 := Lib.hid (fun v X c X' c' Y d Y' d' hX hX' hY hY' => lsame_eq X c X' c' Y d Y' d' (As.al (As.evA V R)) (As.evP V R) (As.evA V R).length (As.evP V R).length (As.evD V R) v (by rw [As.al_len]; exact As.evA_le V R) (As.evP_le V R) (As.al_len _).symm rfl hX hX' hY hY')
  have S2 := Lib.hid (fun v X c Y d hX hY => sameLists_eq X c Y d (As.lnS V R) v (As.lnS_le V R) hX hY)
  have S3 := Lib.hid (fun v X c Y d hX hY => sameLists_eq X c Y d V v hl hX hY)
  clear c5 c6 hrg h
  unfold maxLen at hl
  go_enter Try.func3, Try.ntmps3
  go_upto_region 1 with fail
  refine at_box1 (fun V0 hbb b0 hsz => ?_)
  clear hsz
  replace HA := Lib.hid (HA.out.keep hbb)
  have HB := Lib.hid hbb
  have B0 := Lib.hid b0
  clear hbb b0
  have cB00 := B0.out.c 0 rfl
  have cB01 := B0.out.c 1 rfl
  go_wp2_with fail
  refine (CG.out _ HA.out).mono ?_
  rintro e w1 ⟨z, rfl, hz, hb⟩
  replace HA := Lib.hid (HA.out.keep hb)
  replace B0 := Lib.hid (B0.out.keep hb)
  replace HB := Lib.hid (keepB HB.out hb)
  clear cB00 cB01 hb
  clear CG
  cases z with
  | true =>
    clear hz
    go_wp2_with fail
    go_ret
    exact ⟨rfl, HB.out⟩
  | false =>
    obtain ⟨⟨-, h20, hr⟩, -⟩ := hz rfl
    have CT1 := Lib.hid (fun v hv => CT.out v hv h20 hr)
    clear hz hr h20 CT
    have cB00 := B0.out.c 0 rfl
    have cB01 := B0.out.c 1 rfl
    go_upto_region 3 with fail
    go_cut [5] (fun x v => ∃ p D d, x = .pointer (some ⟨p, 0, none⟩) ∧ IsM v D V ∧ BK v p [.slice D V.length d, .int .i64 R] ∧ Below w1.heap.size w1 v)
    case first =>
      have hB0 := Below.refl w1.heap.size w1
      have HK := Lib.hid (fun v (hv : Below w1.heap.size w1 v) => (show v.cell? ⟨w.heap.size, 0, none⟩ = some (.slice A V.length cv) ∧ v.cell? ⟨w.heap.size, 1, none⟩ = some (.int .i64 R) from ⟨keepC hv cB00, keepC hv cB01⟩))
      have hq := lt_of_cell cB00
      go_region_held3 (fun v => v.cell? ⟨w.heap.size, 0, none⟩ = some (.slice A V.length cv) ∧ v.cell? ⟨w.heap.size, 1, none⟩ = some (.int .i64 R))
        (first | (exact HK.out _ (by assumption)) | (exact HK.out _ (Below.drew (by assumption))) | (exact HK.out _ (below_al (by assumption) _)) | (exact HK.out _ (below_al (Below.drew (by assumption)) _)) | (exact ⟨cell_far (cell_far (keepC hw5 cB00) (by omega) _) (by omega) _, cell_far (cell_far (keepC hw5 cB01) (by omega) _) (by omega) _⟩))
        (first
          | (go_at_call 10; refine (CT1.out _ (by first | exact HA.out.keep hB0 | exact HA.out.keep hB0.drew | exact HA.out.keep (below_al hB0 _) | exact HA.out.keep (below_al hB0.drew _))).mono ?_; rintro e w5 ⟨D, d, rfl, hM5, hfar, hb5⟩; have hw5 : Below w1.heap.size w1 w5 := (by first | exact keepB hB0 hb5 | exact keepB hB0.drew hb5 | exact keepB (below_al hB0 _) hb5 | exact keepB (below_al hB0.drew _) hb5); (first | (have nbk : BK w5 w1.heap.size [.slice none 0 0, .int .i64 0] := (by first | exact (BK.new w1 [.slice none 0 0, .int .i64 0] _).keep hb5 | exact (BK.new w1.drew [.slice none 0 0, .int .i64 0] _).keep hb5); have nb0 := nbk.c 0 rfl; have nb1 := nbk.c 1 rfl; have nf0 := nbk.f 0 rfl; have nf1 := nbk.f 1 rfl) | skip)))
      all_goals
        go_wp2_with fail
        go_meet
        refine ⟨_, D, d, rfl, ?_, ?_, ?_⟩
        · first | exact hM5.keep (below_al (Below.refl _ _) _) | exact hfar _ _ (by simp) (gby_trans (gby_setL _ _ _ _) (gby_setL _ _ _ _))
        · first | exact (nbk.set 0 _).set 1 _ | exact BK.new _ _ _
        · first | exact below_set (below_set hw5 (Nat.le_refl _) _) (Nat.le_refl _) _ | exact below_al hw5 _
    case rest =>
      clear cB00 cB01
      obtain ⟨p5, D, d, rfl, hM, hb5, hb⟩ := hcut
      rename_i W5
      replace HA := Lib.hid (HA.out.keep hb)
      replace B0 := Lib.hid (B0.out.keep hb)
      replace HB := Lib.hid (keepB HB.out hb)
      have HM := Lib.hid hM
      have B5 := Lib.hid hb5
      clear hM hb5 hb CT1
      have cB50 := B5.out.c 0 rfl
      have cB51 := B5.out.c 1 rfl
      go_wp2_with fail
      refine (C1.out _ _ _ HM.out).mono ?_
      rintro e w6 ⟨X1, d1, Y1, f1, rfl, hX1, hY1, hb⟩
      replace HA := Lib.hid (HA.out.keep hb)
      replace B0 := Lib.hid (B0.out.keep hb)
      replace HM := Lib.hid (HM.out.keep hb)
      replace B5 := Lib.hid (B5.out.keep hb)
      replace HB := Lib.hid (keepB HB.out hb)
      have IX1 := Lib.hid hX1
      have IY1 := Lib.hid hY1
      clear cB50 cB51 hb hX1 hY1
      go_upto_region 5 with fail
      refine at_worldQ (fun v => Below w6.heap.size w6 v ∧ BK v (w6.heap.size) [.slice X1 (As.evA V R).length d1, .slice Y1 (As.evP V R).length f1, .int .i64 (As.evD V R)]) ⟨below_al (Below.refl _ _) _, BK.new w6 [.slice X1 (As.evA V R).length d1, .slice Y1 (As.evP V R).length f1, .int .i64 (As.evD V R)] 28⟩ (fun U6 hS => ?_)
      obtain ⟨hb, hB6⟩ := hS
      replace HA := Lib.hid (HA.out.keep hb)
      replace B0 := Lib.hid (B0.out.keep hb)
      replace HM := Lib.hid (HM.out.keep hb)
      replace B5 := Lib.hid (B5.out.keep hb)
      replace IX1 := Lib.hid (IX1.out.keep hb)
      replace IY1 := Lib.hid (IY1.out.keep hb)
      replace HB := Lib.hid (keepB HB.out hb)
      have B6 := Lib.hid hB6
      clear hb hB6
      have cB00 := B0.out.c 0 rfl
      have cB01 := B0.out.c 1 rfl
      go_wp2_with fail
      refine (C2.out _ HA.out).mono ?_
      rintro e w7 ⟨X2, d2, Y2, f2, rfl, hX2, hY2, hb⟩
      replace HA := Lib.hid (HA.out.keep hb)
      replace B0 := Lib.hid (B0.out.keep hb)
      replace HM := Lib.hid (HM.out.keep hb)
      replace B5 := Lib.hid (B5.out.keep hb)
      replace IX1 := Lib.hid (IX1.out.keep hb)
      replace IY1 := Lib.hid (IY1.out.keep hb)
      replace B6 := Lib.hid (B6.out.keep hb)
      replace HB := Lib.hid (keepB HB.out hb)
      have IX2 := Lib.hid hX2
      have IY2 := Lib.hid hY2
      clear cB00 cB01 hb hX2 hY2
      go_upto_region 6 with fail
      refine at_worldQ (fun v => Below w7.heap.size w7 v ∧ BK v (w7.heap.size) [.slice X2 (As.evA V R).length d2, .slice Y2 (As.evP V R).length f2, .int .i64 (As.evD V R)]) ⟨below_al (Below.refl _ _) _, BK.new w7 [.slice X2 (As.evA V R).length d2, .slice Y2 (As.evP V R).length f2, .int .i64 (As.evD V R)] 28⟩ (fun U7 hS => ?_)
      obtain ⟨hb, hB7⟩ := hS
      replace HA := Lib.hid (HA.out.keep hb)
      replace B0 := Lib.hid (B0.out.keep hb)
      replace HM := Lib.hid (HM.out.keep hb)
      replace B5 := Lib.hid (B5.out.keep hb)
      replace IX1 := Lib.hid (IX1.out.keep hb)
      replace IY1 := Lib.hid (IY1.out.keep hb)
      replace B6 := Lib.hid (B6.out.keep hb)
      replace IX2 := Lib.hid (IX2.out.keep hb)
      replace IY2 := Lib.hid (IY2.out.keep hb)
      replace HB := Lib.hid (keepB HB.out hb)
      have B7 := Lib.hid hB7
      clear hb hB7
      have cB50 := B5.out.c 0 rfl
      have cB51 := B5.out.c 1 rfl
      go_wp2_with fail
      refine (C3.out _ _ _ HM.out).mono ?_
      rintro e w8 ⟨X3, d3, rfl, hX3, hb⟩
      replace HA := Lib.hid (HA.out.keep hb)
      replace B0 := Lib.hid (B0.out.keep hb)
      replace HM := Lib.hid (HM.out.keep hb)
      replace B5 := Lib.hid (B5.out.keep hb)
      replace IX1 := Lib.hid (IX1.out.keep hb)
      replace IY1 := Lib.hid (IY1.out.keep hb)
      replace B6 := Lib.hid (B6.out.keep hb)
      replace IX2 := Lib.hid (IX2.out.keep hb)
      replace IY2 := Lib.hid (IY2.out.keep hb)
      replace B7 := Lib.hid (B7.out.keep hb)
      replace HB := Lib.hid (keepB HB.out hb)
      have IX3 := Lib.hid hX3
      clear cB50 cB51 hb hX3
      have cB00 := B0.out.c 0 rfl
      have cB01 := B0.out.c 1 rfl
      go_wp2_with fail
      refine (C4.out _ HA.out).mono ?_
      rintro e w9 ⟨X4, d4, rfl, hX4, hb⟩
      replace HA := Lib.hid (HA.out.keep hb)
      replace B0 := Lib.hid (B0.out.keep hb)
      replace HM := Lib.hid (HM.out.keep hb)
      replace B5 := Lib.hid (B5.out.keep hb)
      replace IX1 := Lib.hid (IX1.out.keep hb)
      replace IY1 := Lib.hid (IY1.out.keep hb)
      replace B6 := Lib.hid (B6.out.keep hb)
      replace IX2 := Lib.hid (IX2.out.keep hb)
      replace IY2 := Lib.hid (IY2.out.keep hb)
      replace B7 := Lib.hid (B7.out.keep hb)
      replace IX3 := Lib.hid (IX3.out.keep hb)
      replace HB := Lib.hid (keepB HB.out hb)
      have IX4 := Lib.hid hX4
      clear cB00 cB01 hb hX4
      have cB50 := B5.out.c 0 rfl
      have cB51 := B5.out.c 1 rfl
      go_wp2_with fail
      refine (C5.out _ _ _ HM.out).mono ?_
      rintro e w10 ⟨rfl, hb⟩
      replace HA := Lib.hid (HA.out.keep hb)
      replace B0 := Lib.hid (B0.out.keep hb)
      replace HM := Lib.hid (HM.out.keep hb)
      replace B5 := Lib.hid (B5.out.keep hb)
      replace IX1 := Lib.hid (IX1.out.keep hb)
      replace IY1 := Lib.hid (IY1.out.keep hb)
      replace B6 := Lib.hid (B6.out.keep hb)
      replace IX2 := Lib.hid (IX2.out.keep hb)
      replace IY2 := Lib.hid (IY2.out.keep hb)
      replace B7 := Lib.hid (B7.out.keep hb)
      replace IX3 := Lib.hid (IX3.out.keep hb)
      replace IX4 := Lib.hid (IX4.out.keep hb)
      replace HB := Lib.hid (keepB HB.out hb)
      clear cB50 cB51 hb
      go_upto_region 9 with fail
      refine at_worldQ (fun v => Below w10.heap.size w10 v ∧ BK v (w10.heap.size) [.int .i64 ra, .int .i64 rb] ∧ BK v (w10.heap.size + 1) [.int .i64 rc, .int .i64 rd]) ⟨below_al (below_al (Below.refl _ _) _) _, ((BK.new w10 [.int .i64 ra, .int .i64 rb] 40).al _), (by have h := BK.new (w10.alloc (.cells #[.int .i64 ra, .int .i64 rb] 40)) [.int .i64 rc, .int .i64 rd] 40; simp only [World.size_alloc] at h; exact h)⟩ (fun U10 hS => ?_)
      obtain ⟨hb, hB10, hB11⟩ := hS
      replace HA := Lib.hid (HA.out.keep hb)
      replace B0 := Lib.hid (B0.out.keep hb)
      replace HM := Lib.hid (HM.out.keep hb)
      replace B5 := Lib.hid (B5.out.keep hb)
      replace IX1 := Lib.hid (IX1.out.keep hb)
      replace IY1 := Lib.hid (IY1.out.keep hb)
      replace B6 := Lib.hid (B6.out.keep hb)
      replace IX2 := Lib.hid (IX2.out.keep hb)
      replace IY2 := Lib.hid (IY2.out.keep hb)
      replace B7 := Lib.hid (B7.out.keep hb)
      replace IX3 := Lib.hid (IX3.out.keep hb)
      replace IX4 := Lib.hid (IX4.out.keep hb)
      replace HB := Lib.hid (keepB HB.out hb)
      have B10 := Lib.hid hB10
      have B11 := Lib.hid hB11
      clear hb hB10 hB11
      have cB00 := B0.out.c 0 rfl
      have cB01 := B0.out.c 1 rfl
      go_wp2_with fail
      refine (C6.out _ HA.out).mono ?_
      rintro e w12 ⟨rfl, hb⟩
      replace HA := Lib.hid (HA.out.keep hb)
      replace B0 := Lib.hid (B0.out.keep hb)
      replace HM := Lib.hid (HM.out.keep hb)
      replace B5 := Lib.hid (B5.out.keep hb)
      replace IX1 := Lib.hid (IX1.out.keep hb)
      replace IY1 := Lib.hid (IY1.out.keep hb)
      replace B6 := Lib.hid (B6.out.keep hb)
      replace IX2 := Lib.hid (IX2.out.keep hb)
      replace IY2 := Lib.hid (IY2.out.keep hb)
      replace B7 := Lib.hid (B7.out.keep hb)
      replace IX3 := Lib.hid (IX3.out.keep hb)
      replace IX4 := Lib.hid (IX4.out.keep hb)
      replace B10 := Lib.hid (B10.out.keep hb)
      replace B11 := Lib.hid (B11.out.keep hb)
      replace HB := Lib.hid (keepB HB.out hb)
      clear cB00 cB01 hb
      go_upto_region 10 with fail
      refine at_worldQ (fun v => Below w12.heap.size w12 v ∧ BK v (w12.heap.size) [.int .i64 ra, .int .i64 rb] ∧ BK v (w12.heap.size + 1) [.int .i64 rc, .int .i64 rd]) ⟨below_al (below_al (Below.refl _ _) _) _, ((BK.new w12 [.int .i64 ra, .int .i64 rb] 40).al _), (by have h := BK.new (w12.alloc (.cells #[.int .i64 ra, .int .i64 rb] 40)) [.int .i64 rc, .int .i64 rd] 40; simp only [World.size_alloc] at h; exact h)⟩ (fun U12 hS => ?_)
      obtain ⟨hb, hB12, hB13⟩ := hS
      replace HA := Lib.hid (HA.out.keep hb)
      replace B0 := Lib.hid (B0.out.keep hb)
      replace HM := Lib.hid (HM.out.keep hb)
      replace B5 := Lib.hid (B5.out.keep hb)
      replace IX1 := Lib.hid (IX1.out.keep hb)
      replace IY1 := Lib.hid (IY1.out.keep hb)
      replace B6 := Lib.hid (B6.out.keep hb)
      replace IX2 := Lib.hid (IX2.out.keep hb)
      replace IY2 := Lib.hid (IY2.out.keep hb)
      replace B7 := Lib.hid (B7.out.keep hb)
      replace IX3 := Lib.hid (IX3.out.keep hb)
      replace IX4 := Lib.hid (IX4.out.keep hb)
      replace B10 := Lib.hid (B10.out.keep hb)
      replace B11 := Lib.hid (B11.out.keep hb)
      replace HB := Lib.hid (keepB HB.out hb)
      have B12 := Lib.hid hB12
      have B13 := Lib.hid hB13
      clear hb hB12 hB13
      have hv := Below.refl U12.heap.size U12
      have T1 := Lib.hid (fun v (hv : Below U12.heap.size U12 v) => C7.out v D d (HM.out.keep hv))
      have T2 := Lib.hid (fun v (hv : Below U12.heap.size U12 v) => C8.out v (HA.out.keep hv))
      have T3 := Lib.hid (fun v (hv : Below U12.heap.size U12 v) => S1.out v X1 d1 X2 d2 Y1 f1 Y2 f2 (IX1.out.keep hv) (IX2.out.keep hv) (IY1.out.keep hv) (IY2.out.keep hv))
      have T4 := Lib.hid (fun v (hv : Below U12.heap.size U12 v) => S2.out v X3 d3 X4 d4 (IX3.out.keep hv) (IX4.out.keep hv))
      have T5 := Lib.hid (fun v (hv : Below U12.heap.size U12 v) => S3.out v D d A cv (HM.out.keep hv) (HA.out.keep hv))
      generalize As.rchk V R = c at *
      generalize (As.evA V R).length = n1 at *
      generalize (As.evP V R).length = n2 at *
      generalize As.evD V R = n3 at *
      generalize (As.lnS V R).length = n4 at *
      have q1 : (c == c) = true := by simp
      have HK := Lib.hid (fun v (hv : Below U12.heap.size U12 v) => (show v.cell? ⟨w.heap.size, 0, none⟩ = some (.slice A V.length cv) ∧ v.cell? ⟨w.heap.size, 1, none⟩ = some (.int .i64 R) ∧ v.cell? ⟨p5, 0, none⟩ = some (.slice D V.length d) ∧ v.cell? ⟨p5, 1, none⟩ = some (.int .i64 R) ∧ v.cell? ⟨w6.heap.size, 0, none⟩ = some (.slice X1 n1 d1) ∧ v.cell? ⟨w6.heap.size, 1, none⟩ = some (.slice Y1 n2 f1) ∧ v.cell? ⟨w6.heap.size, 2, none⟩ = some (.int .i64 n3) ∧ v.cell? ⟨w7.heap.size, 0, none⟩ = some (.slice X2 n1 d2) ∧ v.cell? ⟨w7.heap.size, 1, none⟩ = some (.slice Y2 n2 f2) ∧ v.cell? ⟨w7.heap.size, 2, none⟩ = some (.int .i64 n3) ∧ v.cell? ⟨w10.heap.size, 0, none⟩ = some (.int .i64 ra) ∧ v.cell? ⟨w10.heap.size, 1, none⟩ = some (.int .i64 rb) ∧ v.cell? ⟨w10.heap.size + 1, 0, none⟩ = some (.int .i64 rc) ∧ v.cell? ⟨w10.heap.size + 1, 1, none⟩ = some (.int .i64 rd) ∧ v.cell? ⟨w12.heap.size, 0, none⟩ = some (.int .i64 ra) ∧ v.cell? ⟨w12.heap.size, 1, none⟩ = some (.int .i64 rb) ∧ v.cell? ⟨w12.heap.size + 1, 0, none⟩ = some (.int .i64 rc) ∧ v.cell? ⟨w12.heap.size + 1, 1, none⟩ = some (.int .i64 rd) from ⟨keepC hv (B0.out.c 0 rfl), keepC hv (B0.out.c 1 rfl), keepC hv (B5.out.c 0 rfl), keepC hv (B5.out.c 1 rfl), keepC hv (B6.out.c 0 rfl), keepC hv (B6.out.c 1 rfl), keepC hv (B6.out.c 2 rfl), keepC hv (B7.out.c 0 rfl), keepC hv (B7.out.c 1 rfl), keepC hv (B7.out.c 2 rfl), keepC hv (B10.out.c 0 rfl), keepC hv (B10.out.c 1 rfl), keepC hv (B11.out.c 0 rfl), keepC hv (B11.out.c 1 rfl), keepC hv (B12.out.c 0 rfl), keepC hv (B12.out.c 1 rfl), keepC hv (B13.out.c 0 rfl), keepC hv (B13.out.c 1 rfl)⟩))
      clear C1 C2 C3 C4 C5 C6 C7 C8 S1 S2 S3 HA HM IX1 IX2 IX3 IX4 IY1 IY2
      go_region_held3 (fun v => v.cell? ⟨w.heap.size, 0, none⟩ = some (.slice A V.length cv) ∧ v.cell? ⟨w.heap.size, 1, none⟩ = some (.int .i64 R) ∧ v.cell? ⟨p5, 0, none⟩ = some (.slice D V.length d) ∧ v.cell? ⟨p5, 1, none⟩ = some (.int .i64 R) ∧ v.cell? ⟨w6.heap.size, 0, none⟩ = some (.slice X1 n1 d1) ∧ v.cell? ⟨w6.heap.size, 1, none⟩ = some (.slice Y1 n2 f1) ∧ v.cell? ⟨w6.heap.size, 2, none⟩ = some (.int .i64 n3) ∧ v.cell? ⟨w7.heap.size, 0, none⟩ = some (.slice X2 n1 d2) ∧ v.cell? ⟨w7.heap.size, 1, none⟩ = some (.slice Y2 n2 f2) ∧ v.cell? ⟨w7.heap.size, 2, none⟩ = some (.int .i64 n3) ∧ v.cell? ⟨w10.heap.size, 0, none⟩ = some (.int .i64 ra) ∧ v.cell? ⟨w10.heap.size, 1, none⟩ = some (.int .i64 rb) ∧ v.cell? ⟨w10.heap.size + 1, 0, none⟩ = some (.int .i64 rc) ∧ v.cell? ⟨w10.heap.size + 1, 1, none⟩ = some (.int .i64 rd) ∧ v.cell? ⟨w12.heap.size, 0, none⟩ = some (.int .i64 ra) ∧ v.cell? ⟨w12.heap.size, 1, none⟩ = some (.int .i64 rb) ∧ v.cell? ⟨w12.heap.size + 1, 0, none⟩ = some (.int .i64 rc) ∧ v.cell? ⟨w12.heap.size + 1, 1, none⟩ = some (.int .i64 rd))
        (first | (exact HK.out _ (by assumption)) | (exact HK.out _ (Below.drew (by assumption))))
        (first
          | (go_at_call 17; refine (T1.out _ (by first | assumption | exact Below.drew (by assumption))).mono ?_; rintro e x1 ⟨rfl, hb1⟩; have hx1 : Below U12.heap.size U12 x1 := (by first | exact keepB hv hb1 | exact keepB hv.drew hb1))
          | (go_at_call 18; refine (T2.out _ hx1).mono ?_; rintro e x2 ⟨rfl, hb2⟩; have hx2 := keepB hx1 hb2)
          | (go_at_call 19; refine (T3.out _ hx2).mono ?_; rintro e x3 ⟨rfl, hb3⟩; have hx3 := keepB hx2 hb3)
          | (go_at_call 20; have hz := hx4; refine (T5.out _ hz).mono ?_; rintro e x5 ⟨rfl, hb5⟩; have hx5 := keepB hz hb5)
          | (go_at_call 20; refine (T4.out _ hx3).mono ?_; rintro e x4 ⟨rfl, hb4⟩; have hx4 := keepB hx3 hb4))
      all_goals
        go_wp2_with fail
        go_ret
        exact ⟨rfl, keepB HB.out hx5⟩
end Go.Proofs.Ytpiolhjiflohgaa
