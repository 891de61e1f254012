/- AssignFinds' walk. -/
import Derived.Test.YtkibglbccfjkpaaAft
import Derived.Test.YtkibglbccfjkpaaAfh
import Derived.Test.YtkibglbccfjkpaaAfu
import Derived.Test.YtkibglbccfjkpaaAst
import Derived.Test.YtkibglbccfjkpaaAso
namespace Go.Proofs.Ytkibglbccfjkpaa
open Go.RowKit
namespace As
theorem bsl_le (V : List (List Int)) (hl : V.length ≤ maxLen) : (bsl V).length ≤ maxLen := by
  unfold bsl
  by_cases h : chk V = 0
  · rw [if_pos h, (bst_top (chk_ok h)).len]; exact hl
  · rw [if_neg h]; exact Nat.zero_le _
theorem prl_le (V : List (List Int)) (hl : V.length ≤ maxLen) : (prl V).length ≤ maxLen := by
  unfold prl
  by_cases h : chk V = 0
  · rw [if_pos h, lp_len (bst_top (chk_ok h))]; exact hl
  · rw [if_neg h]; exact Nat.zero_le _
theorem hml_le (V : List (List Int)) (hl : V.length ≤ maxLen) : (hml V).length ≤ maxLen := by
  unfold hml
  by_cases h : chk V = 0
  · rw [if_pos h, ml_len]; exact hl
  · rw [if_neg h]; exact Nat.zero_le _
end As
set_option maxRecDepth 100000 in
set_option maxHeartbeats 8000000 in
theorem afinds_walk (A : Option Addr) (cv : Nat) (V : List (List Int)) (w : World) (hl : V.length ≤ maxLen) (h : IsM w A V) :
    Calls Try.prog 3 #[.slice A V.length cv] w fun e w' => e = .returned (.bool true) ∧ Below w.heap.size w w' := by
  have CG := Lib.hid (fun v (hv : Below w.heap.size w v) => rGreat_any A cv V v hl (h.keep hv))
  have CT := Lib.hid (fun v (hv : Below w.heap.size w v) h20 hr => rTwinG_any A cv V v h20 hr (h.keep hv))
  have C1 := Lib.hid (fun v B c (hB : IsM v B V) => asBest_any B c V v hl hB)
  have C2 := Lib.hid (fun v (hv : Below w.heap.size w v) => rBest_any A cv V v hl (h.keep hv))
  have C3 := Lib.hid (fun v B c (hB : IsM v B V) => asPrices_any B c V v hl hB)
  have C4 := Lib.hid (fun v (hv : Below w.heap.size w v) => rPrices_any A cv V v hl (h.keep hv))
  have C5 := Lib.hid (fun v B c (hB : IsM v B V) => asHarm_any B c V v hl hB)
  have C6 := Lib.hid (fun v (hv : Below w.heap.size w v) => rHarm_any A cv V v hl (h.keep hv))
  have C7 := Lib.hid (fun v B c (hB : IsM v B V) => asCheck_any B c V v hl hB)
  have C8 := Lib.hid (fun v (hv : Below w.heap.size w v) => rCheck_any A cv V v hl (h.keep hv))
  have S1 := fun v B c D d (hB : IsI v B (As.al (As.bsl V))) (hD : IsI v D (As.al (As.bsl V))) => same_eq B c D d (As.al (As.bsl V)) v (by rw [As.al_len]; exact As.bsl_le V hl) hB hD
  rw [As.al_len] at S1
  have S2 := fun v B c D d (hB : IsI v B (As.prl V)) (hD : IsI v D (As.prl V)) => same_eq B c D d (As.prl V) v (As.prl_le V hl) hB hD
  have S3 := fun v B c D d (hB : IsI v B (As.hml V)) (hD : IsI v D (As.hml V)) => same_eq B c D d (As.hml V) v (As.hml_le V hl) hB hD
  have S4 := fun v B c (hv : Below w.heap.size w v) (hB : IsM v B V) => sameLists_eq B c A cv V v hl hB (h.keep hv)
  have HS1 := Lib.hid S1
  have HS2 := Lib.hid S2
  have HS3 := Lib.hid S3
  have HS4 := Lib.hid S4
  clear S1 S2 S3 S4 h
  unfold maxLen at hl
  go_enter Try.func3, Try.ntmps3
  go_wp2_with fail
  refine (CG.out _ (Below.refl _ _)).mono ?_
  rintro e w1 ⟨z, rfl, hz, hbb⟩
  clear CG
  cases z with
  | true =>
    clear hz
    go_wp2_with fail
    go_ret
    exact ⟨rfl, hbb⟩
  | false =>
    obtain ⟨-, h20, hr⟩ := hz rfl
    have HT := Lib.hid (CT.out _ hbb h20 hr)
    clear hz hr CT h20
    go_wp2_with fail
    refine HT.out.mono ?_
    rintro e w2 ⟨B, cB, rfl, hM, hb2⟩
    have hbb2 := keepB hbb hb2
    replace hbb := hbb2
    clear hb2 hbb2 HT
    have HM := Lib.hid hM
    clear hM
    go_wp2_with fail
    refine (C1.out _ _ _ HM.out).mono ?_
    rintro e w3 ⟨D1, d1, rfl, hI1, hb3⟩
    have hbb3 := keepB hbb hb3
    replace HM := Lib.hid (HM.out.keep hb3)
    have HI1 := Lib.hid hI1
    replace hbb := hbb3
    clear hb3 hbb3 hI1
    go_wp2_with fail
    refine (C2.out _ hbb).mono ?_
    rintro e w4 ⟨D2, d2, rfl, hI2, hb4⟩
    have hbb4 := keepB hbb hb4
    replace HM := Lib.hid (HM.out.keep hb4)
    replace HI1 := Lib.hid (HI1.out.keep hb4)
    have HI2 := Lib.hid hI2
    replace hbb := hbb4
    clear hb4 hbb4 hI2
    go_wp2_with fail
    refine (C3.out _ _ _ HM.out).mono ?_
    rintro e w5 ⟨D3, d3, rfl, hI3, hb5⟩
    have hbb5 := keepB hbb hb5
    replace HM := Lib.hid (HM.out.keep hb5)
    replace HI1 := Lib.hid (HI1.out.keep hb5)
    replace HI2 := Lib.hid (HI2.out.keep hb5)
    have HI3 := Lib.hid hI3
    replace hbb := hbb5
    clear hb5 hbb5 hI3
    go_wp2_with fail
    refine (C4.out _ hbb).mono ?_
    rintro e w6 ⟨D4, d4, rfl, hI4, hb6⟩
    have hbb6 := keepB hbb hb6
    replace HM := Lib.hid (HM.out.keep hb6)
    replace HI1 := Lib.hid (HI1.out.keep hb6)
    replace HI2 := Lib.hid (HI2.out.keep hb6)
    replace HI3 := Lib.hid (HI3.out.keep hb6)
    have HI4 := Lib.hid hI4
    replace hbb := hbb6
    clear hb6 hbb6 hI4
    go_wp2_with fail
    refine (C5.out _ _ _ HM.out).mono ?_
    rintro e w7 ⟨D5, d5, rfl, hI5, hb7⟩
    have hbb7 := keepB hbb hb7
    replace HM := Lib.hid (HM.out.keep hb7)
    replace HI1 := Lib.hid (HI1.out.keep hb7)
    replace HI2 := Lib.hid (HI2.out.keep hb7)
    replace HI3 := Lib.hid (HI3.out.keep hb7)
    replace HI4 := Lib.hid (HI4.out.keep hb7)
    have HI5 := Lib.hid hI5
    replace hbb := hbb7
    clear hb7 hbb7 hI5
    go_wp2_with fail
    refine (C6.out _ hbb).mono ?_
    rintro e w8 ⟨D6, d6, rfl, hI6, hb8⟩
    have hbb8 := keepB hbb hb8
    replace HM := Lib.hid (HM.out.keep hb8)
    have T1 := Lib.hid (fun v (hv : Below w8.heap.size w8 v) => HS1.out v D1 d1 D2 d2 ((HI1.out.keep hb8).keep hv) ((HI2.out.keep hb8).keep hv))
    have T2 := Lib.hid (fun v (hv : Below w8.heap.size w8 v) => HS2.out v D3 d3 D4 d4 ((HI3.out.keep hb8).keep hv) ((HI4.out.keep hb8).keep hv))
    have T3 := Lib.hid (fun v (hv : Below w8.heap.size w8 v) => HS3.out v D5 d5 D6 d6 ((HI5.out.keep hb8).keep hv) (hI6.keep hv))
    have T4 := Lib.hid (fun v (hv : Below w8.heap.size w8 v) => HS4.out v B cB (keepB hbb8 hv) (HM.out.keep hv))
    have T5 := Lib.hid (fun v (hv : Below w8.heap.size w8 v) => C7.out v B cB (HM.out.keep hv))
    have T6 := Lib.hid (fun v (hv : Below w8.heap.size w8 v) => C8.out v (keepB hbb8 hv))
    have HBB := Lib.hid hbb8
    clear hb8 hbb8 hI6 hbb HM HI1 HI2 HI3 HI4 HI5 HS1 HS2 HS3 HS4 C1 C2 C3 C4 C5 C6 C7 C8
    generalize As.chk V = c0 at *
    generalize As.bsv V = z0 at *
    generalize (As.bsl V).length = n1 at *
    generalize (As.prl V).length = n2 at *
    generalize (As.hml V).length = n3 at *
    have hv := Below.refl w8.heap.size w8
    have k1 : (c0 == c0) = true := by simp
    have k2 : (z0 == z0) = true := by simp
    go_wp2_with fail
    refine (T5.out _ (by first | exact hv | exact hv.drew | exact hv.drew.drew)).mono ?_
    rintro e w9 ⟨rfl, hb9⟩
    replace hv : Below w8.heap.size w8 w9 := (by first | exact keepB hv hb9 | exact keepB hv.drew hb9 | exact keepB hv.drew.drew hb9)
    clear hb9
    go_wp2_with fail
    refine (T6.out _ (by first | exact hv | exact hv.drew | exact hv.drew.drew)).mono ?_
    rintro e w9 ⟨rfl, hb9⟩
    replace hv : Below w8.heap.size w8 w9 := (by first | exact keepB hv hb9 | exact keepB hv.drew hb9 | exact keepB hv.drew.drew hb9)
    clear hb9
    go_wp2_with fail
    refine (T1.out _ (by first | exact hv | exact hv.drew | exact hv.drew.drew)).mono ?_
    rintro e w9 ⟨rfl, hb9⟩
    replace hv : Below w8.heap.size w8 w9 := (by first | exact keepB hv hb9 | exact keepB hv.drew hb9 | exact keepB hv.drew.drew hb9)
    clear hb9
    go_wp2_with fail
    refine (T2.out _ (by first | exact hv | exact hv.drew | exact hv.drew.drew)).mono ?_
    rintro e w9 ⟨rfl, hb9⟩
    replace hv : Below w8.heap.size w8 w9 := (by first | exact keepB hv hb9 | exact keepB hv.drew hb9 | exact keepB hv.drew.drew hb9)
    clear hb9
    go_wp2_with fail
    refine (T3.out _ (by first | exact hv | exact hv.drew | exact hv.drew.drew)).mono ?_
    rintro e w9 ⟨rfl, hb9⟩
    replace hv : Below w8.heap.size w8 w9 := (by first | exact keepB hv hb9 | exact keepB hv.drew hb9 | exact keepB hv.drew.drew hb9)
    clear hb9
    go_wp2_with fail
    refine (T4.out _ (by first | exact hv | exact hv.drew | exact hv.drew.drew)).mono ?_
    rintro e w9 ⟨rfl, hb9⟩
    replace hv : Below w8.heap.size w8 w9 := (by first | exact keepB hv hb9 | exact keepB hv.drew hb9 | exact keepB hv.drew.drew hb9)
    clear hb9
    go_wp2_with fail
    go_ret
    exact ⟨rfl, keepB HBB.out hv⟩
end Go.Proofs.Ytkibglbccfjkpaa
