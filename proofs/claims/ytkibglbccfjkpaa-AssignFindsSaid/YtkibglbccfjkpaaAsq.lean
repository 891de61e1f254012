/- Layer 13's law: the examples. -/
import Derived.Test.YtkibglbccfjkpaaAsn
import Derived.Test.YtkibglbccfjkpaaAse
import Derived.Test.YtkibglbccfjkpaaAso
namespace Go.Proofs.Ytkibglbccfjkpaa
open Go.RowKit
theorem two_le : (2 : Nat) ≤ maxLen := by unfold maxLen; simp
theorem asx_g : As.bsl [[5, 3], [4, 1]] = [1, 0] ∧ As.bsv [[5, 3], [4, 1]] = 7 ∧ As.chk [[5, 3], [4, 1]] = 0 := by decide +kernel
theorem best_g (A : Option Addr) (cv : Nat) (w : World) (h : IsM w A [[5, 3], [4, 1]]) : Calls Try.prog 12 #[.slice A 2 cv] w fun e w' => ∃ B c, e = .returned (.tuple #[.slice B 2 c, .int .i64 7, .int .i64 0]) ∧ IsI w' B [1, 0] ∧ Below w.heap.size w w' := by
  refine (asBest_any A cv [[5, 3], [4, 1]] w two_le h).mono ?_
  rintro e w' ⟨B, c, rfl, hI, hb⟩
  obtain ⟨f1, f2, f3⟩ := asx_g
  rw [f1] at hI ⊢
  rw [f2, f3]
  exact ⟨B, c, rfl, hI, hb⟩
theorem asx_e : As.bsl [[1, 1], [1, 1]] = [0, 1] ∧ As.bsv [[1, 1], [1, 1]] = 2 ∧ As.chk [[1, 1], [1, 1]] = 0 := by decide +kernel
theorem best_e (A : Option Addr) (cv : Nat) (w : World) (h : IsM w A [[1, 1], [1, 1]]) : Calls Try.prog 12 #[.slice A 2 cv] w fun e w' => ∃ B c, e = .returned (.tuple #[.slice B 2 c, .int .i64 2, .int .i64 0]) ∧ IsI w' B [0, 1] ∧ Below w.heap.size w w' := by
  refine (asBest_any A cv [[1, 1], [1, 1]] w two_le h).mono ?_
  rintro e w' ⟨B, c, rfl, hI, hb⟩
  obtain ⟨f1, f2, f3⟩ := asx_e
  rw [f1] at hI ⊢
  rw [f2, f3]
  exact ⟨B, c, rfl, hI, hb⟩
theorem asx_pg : As.prl [[5, 3], [4, 1]] = [2, 0] ∧ As.chk [[5, 3], [4, 1]] = 0 := by decide +kernel
theorem pg_ (A : Option Addr) (cv : Nat) (w : World) (h : IsM w A [[5, 3], [4, 1]]) : Calls Try.prog 14 #[.slice A 2 cv] w fun e w' => ∃ B c, e = .returned (.tuple #[.slice B 2 c, .int .i64 0]) ∧ IsI w' B [2, 0] ∧ Below w.heap.size w w' := by
  refine (asPrices_any A cv [[5, 3], [4, 1]] w two_le h).mono ?_
  rintro e w' ⟨B, c, rfl, hI, hb⟩
  obtain ⟨f1, f2⟩ := asx_pg
  rw [f1] at hI ⊢
  rw [f2]
  exact ⟨B, c, rfl, hI, hb⟩
theorem asx_pe : As.prl [[1, 1], [1, 1]] = [0, 0] ∧ As.chk [[1, 1], [1, 1]] = 0 := by decide +kernel
theorem pe_ (A : Option Addr) (cv : Nat) (w : World) (h : IsM w A [[1, 1], [1, 1]]) : Calls Try.prog 14 #[.slice A 2 cv] w fun e w' => ∃ B c, e = .returned (.tuple #[.slice B 2 c, .int .i64 0]) ∧ IsI w' B [0, 0] ∧ Below w.heap.size w w' := by
  refine (asPrices_any A cv [[1, 1], [1, 1]] w two_le h).mono ?_
  rintro e w' ⟨B, c, rfl, hI, hb⟩
  obtain ⟨f1, f2⟩ := asx_pe
  rw [f1] at hI ⊢
  rw [f2]
  exact ⟨B, c, rfl, hI, hb⟩
theorem asx_hg : As.hml [[5, 3], [4, 1]] = [0, 2] ∧ As.chk [[5, 3], [4, 1]] = 0 := by decide +kernel
theorem hg_ (A : Option Addr) (cv : Nat) (w : World) (h : IsM w A [[5, 3], [4, 1]]) : Calls Try.prog 16 #[.slice A 2 cv] w fun e w' => ∃ B c, e = .returned (.tuple #[.slice B 2 c, .int .i64 0]) ∧ IsI w' B [0, 2] ∧ Below w.heap.size w w' := by
  refine (asHarm_any A cv [[5, 3], [4, 1]] w two_le h).mono ?_
  rintro e w' ⟨B, c, rfl, hI, hb⟩
  obtain ⟨f1, f2⟩ := asx_hg
  rw [f1] at hI ⊢
  rw [f2]
  exact ⟨B, c, rfl, hI, hb⟩
theorem asx_yes : As.prvS [[5, 3], [4, 1]] [1, 0] [3, 0] = (true, 0) := by decide +kernel
theorem yes_ (A : Option Addr) (cv : Nat) (B : Option Addr) (ca : Nat) (C : Option Addr) (cp : Nat) (w : World) (h : IsM w A [[5, 3], [4, 1]]) (hB : IsI w B [1, 0]) (hC : IsI w C [3, 0]) : Calls Try.prog 24 #[.slice A 2 cv, .slice B 2 ca, .slice C 2 cp] w fun e w' => e = .returned (.tuple #[.bool true, .int .i64 0]) ∧ Below w.heap.size w w' := by
  refine (asProves_any A cv [[5, 3], [4, 1]] B ca [1, 0] C cp [3, 0] w two_le h two_le hB two_le hC).mono ?_
  rintro e w' ⟨rfl, hb⟩
  rw [asx_yes]
  exact ⟨rfl, hb⟩
theorem asx_no : As.prvS [[5, 3], [4, 1]] [1, 0] [4, 0] = (false, 0) := by decide +kernel
theorem no_ (A : Option Addr) (cv : Nat) (B : Option Addr) (ca : Nat) (C : Option Addr) (cp : Nat) (w : World) (h : IsM w A [[5, 3], [4, 1]]) (hB : IsI w B [1, 0]) (hC : IsI w C [4, 0]) : Calls Try.prog 24 #[.slice A 2 cv, .slice B 2 ca, .slice C 2 cp] w fun e w' => e = .returned (.tuple #[.bool false, .int .i64 0]) ∧ Below w.heap.size w w' := by
  refine (asProves_any A cv [[5, 3], [4, 1]] B ca [1, 0] C cp [4, 0] w two_le h two_le hB two_le hC).mono ?_
  rintro e w' ⟨rfl, hb⟩
  rw [asx_no]
  exact ⟨rfl, hb⟩
theorem same2 (A : Option Addr) (ca : Nat) (B : Option Addr) (cb : Nat) (x y : Int) (w : World) (hA : IsI w A [x, y]) (hB : IsI w B [x, y]) : Calls Try.prog 20 #[.slice A 2 ca, .slice B 2 cb] w fun e w' => e = .returned (.bool true) ∧ Below w.heap.size w w' := same_eq A ca B cb [x, y] w two_le hA hB
set_option maxRecDepth 100000 in
set_option maxHeartbeats 8000000 in
theorem asAlive_any (w : World) : Calls Try.prog 27 #[] w fun e w' => e = .returned (.bool true) ∧ Below w.heap.size w w' := by
  have HG := Lib.hid given_any
  have HE := Lib.hid equal_any
  go_enter Try.func27, Try.ntmps27
  go_wp2_with fail
  refine (HG.out _).mono ?_
  rintro e w1 ⟨g, rfl, hM, hb1⟩
  have HM := Lib.hid hM
  clear hM
  have hbb := hb1
  clear hb1
  go_wp2_with fail
  refine (best_g _ _ _ HM.out).mono ?_
  rintro e w2 ⟨A1, c1, rfl, hI1, hb2⟩
  replace HM := Lib.hid (HM.out.keep hb2)
  have I1 := Lib.hid hI1
  clear hI1
  replace hbb := keepB hbb hb2
  clear hb2
  clear HM
  go_wp2_with fail
  refine (HG.out _).mono ?_
  rintro e w3 ⟨g, rfl, hM, hb3⟩
  replace I1 := Lib.hid (I1.out.keep hb3)
  have HM := Lib.hid hM
  clear hM
  replace hbb := keepB hbb hb3
  clear hb3
  go_wp2_with fail
  refine (pg_ _ _ _ HM.out).mono ?_
  rintro e w4 ⟨A2, c2, rfl, hI2, hb4⟩
  replace I1 := Lib.hid (I1.out.keep hb4)
  replace HM := Lib.hid (HM.out.keep hb4)
  have I2 := Lib.hid hI2
  clear hI2
  replace hbb := keepB hbb hb4
  clear hb4
  clear HM
  go_wp2_with fail
  refine (HG.out _).mono ?_
  rintro e w5 ⟨g, rfl, hM, hb5⟩
  replace I1 := Lib.hid (I1.out.keep hb5)
  replace I2 := Lib.hid (I2.out.keep hb5)
  have HM := Lib.hid hM
  clear hM
  replace hbb := keepB hbb hb5
  clear hb5
  go_wp2_with fail
  refine (hg_ _ _ _ HM.out).mono ?_
  rintro e w6 ⟨A3, c3, rfl, hI3, hb6⟩
  replace I1 := Lib.hid (I1.out.keep hb6)
  replace I2 := Lib.hid (I2.out.keep hb6)
  replace HM := Lib.hid (HM.out.keep hb6)
  have I3 := Lib.hid hI3
  clear hI3
  replace hbb := keepB hbb hb6
  clear hb6
  clear HM
  go_wp2_with fail
  refine (HG.out _).mono ?_
  rintro e w7 ⟨g, rfl, hM, hb7⟩
  replace I1 := Lib.hid (I1.out.keep hb7)
  replace I2 := Lib.hid (I2.out.keep hb7)
  replace I3 := Lib.hid (I3.out.keep hb7)
  have HM := Lib.hid hM
  clear hM
  replace hbb := keepB hbb hb7
  clear hb7
  go_wp2_with fail
  refine (yes_ _ _ _ _ _ _ _ (HM.out.keep (below_al (below_al (Below.refl _ _) _) _)) (isI_lit2 1 0 (by unfold I64; decide) (by unfold I64; decide) (by go_simp) (by go_simp)) (isI_lit2 3 0 (by unfold I64; decide) (by unfold I64; decide) (by go_simp) (by go_simp))).mono ?_
  rintro e w8 ⟨rfl, hb8⟩
  replace hb8 := keepB (below_al (below_al (Below.refl _ _) _) _) hb8
  replace I1 := Lib.hid (I1.out.keep hb8)
  replace I2 := Lib.hid (I2.out.keep hb8)
  replace I3 := Lib.hid (I3.out.keep hb8)
  replace HM := Lib.hid (HM.out.keep hb8)
  replace hbb := keepB hbb hb8
  clear hb8
  clear HM
  go_wp2_with fail
  refine (HG.out _).mono ?_
  rintro e w9 ⟨g, rfl, hM, hb9⟩
  replace I1 := Lib.hid (I1.out.keep hb9)
  replace I2 := Lib.hid (I2.out.keep hb9)
  replace I3 := Lib.hid (I3.out.keep hb9)
  have HM := Lib.hid hM
  clear hM
  replace hbb := keepB hbb hb9
  clear hb9
  go_wp2_with fail
  refine (no_ _ _ _ _ _ _ _ (HM.out.keep (below_al (below_al (Below.refl _ _) _) _)) (isI_lit2 1 0 (by unfold I64; decide) (by unfold I64; decide) (by go_simp) (by go_simp)) (isI_lit2 4 0 (by unfold I64; decide) (by unfold I64; decide) (by go_simp) (by go_simp))).mono ?_
  rintro e w10 ⟨rfl, hb10⟩
  replace hb10 := keepB (below_al (below_al (Below.refl _ _) _) _) hb10
  replace I1 := Lib.hid (I1.out.keep hb10)
  replace I2 := Lib.hid (I2.out.keep hb10)
  replace I3 := Lib.hid (I3.out.keep hb10)
  replace HM := Lib.hid (HM.out.keep hb10)
  replace hbb := keepB hbb hb10
  clear hb10
  clear HM
  go_wp2_with fail
  refine (HE.out _).mono ?_
  rintro e w11 ⟨g, rfl, hM, hb11⟩
  replace I1 := Lib.hid (I1.out.keep hb11)
  replace I2 := Lib.hid (I2.out.keep hb11)
  replace I3 := Lib.hid (I3.out.keep hb11)
  have HM := Lib.hid hM
  clear hM
  replace hbb := keepB hbb hb11
  clear hb11
  go_wp2_with fail
  refine (best_e _ _ _ HM.out).mono ?_
  rintro e w12 ⟨A4, c4, rfl, hI4, hb12⟩
  replace I1 := Lib.hid (I1.out.keep hb12)
  replace I2 := Lib.hid (I2.out.keep hb12)
  replace I3 := Lib.hid (I3.out.keep hb12)
  replace HM := Lib.hid (HM.out.keep hb12)
  have I4 := Lib.hid hI4
  clear hI4
  replace hbb := keepB hbb hb12
  clear hb12
  clear HM
  go_wp2_with fail
  refine (HE.out _).mono ?_
  rintro e w13 ⟨g, rfl, hM, hb13⟩
  replace I1 := Lib.hid (I1.out.keep hb13)
  replace I2 := Lib.hid (I2.out.keep hb13)
  replace I3 := Lib.hid (I3.out.keep hb13)
  replace I4 := Lib.hid (I4.out.keep hb13)
  have HM := Lib.hid hM
  clear hM
  replace hbb := keepB hbb hb13
  clear hb13
  go_wp2_with fail
  refine (pe_ _ _ _ HM.out).mono ?_
  rintro e w14 ⟨A5, c5, rfl, hI5, hb14⟩
  replace I1 := Lib.hid (I1.out.keep hb14)
  replace I2 := Lib.hid (I2.out.keep hb14)
  replace I3 := Lib.hid (I3.out.keep hb14)
  replace I4 := Lib.hid (I4.out.keep hb14)
  replace HM := Lib.hid (HM.out.keep hb14)
  have I5 := Lib.hid hI5
  clear hI5
  replace hbb := keepB hbb hb14
  clear hb14
  clear HM
  go_wp2_with fail
  refine (same2 _ _ _ _ 1 0 _ (I1.out.keep (below_al (Below.refl _ _) _)) (isI_lit2 1 0 (by unfold I64; decide) (by unfold I64; decide) (by go_simp) (by go_simp))).mono ?_
  rintro e w15 ⟨rfl, hb15⟩
  replace hb15 := keepB (below_al (Below.refl _ _) _) hb15
  replace I1 := Lib.hid (I1.out.keep hb15)
  replace I2 := Lib.hid (I2.out.keep hb15)
  replace I3 := Lib.hid (I3.out.keep hb15)
  replace I4 := Lib.hid (I4.out.keep hb15)
  replace I5 := Lib.hid (I5.out.keep hb15)
  replace hbb := keepB hbb hb15
  clear hb15
  go_wp2_with fail
  refine (same2 _ _ _ _ 2 0 _ (I2.out.keep (below_al (Below.refl _ _) _)) (isI_lit2 2 0 (by unfold I64; decide) (by unfold I64; decide) (by go_simp) (by go_simp))).mono ?_
  rintro e w16 ⟨rfl, hb16⟩
  replace hb16 := keepB (below_al (Below.refl _ _) _) hb16
  replace I1 := Lib.hid (I1.out.keep hb16)
  replace I2 := Lib.hid (I2.out.keep hb16)
  replace I3 := Lib.hid (I3.out.keep hb16)
  replace I4 := Lib.hid (I4.out.keep hb16)
  replace I5 := Lib.hid (I5.out.keep hb16)
  replace hbb := keepB hbb hb16
  clear hb16
  go_wp2_with fail
  refine (same2 _ _ _ _ 0 2 _ (I3.out.keep (below_al (Below.refl _ _) _)) (isI_lit2 0 2 (by unfold I64; decide) (by unfold I64; decide) (by go_simp) (by go_simp))).mono ?_
  rintro e w17 ⟨rfl, hb17⟩
  replace hb17 := keepB (below_al (Below.refl _ _) _) hb17
  replace I1 := Lib.hid (I1.out.keep hb17)
  replace I2 := Lib.hid (I2.out.keep hb17)
  replace I3 := Lib.hid (I3.out.keep hb17)
  replace I4 := Lib.hid (I4.out.keep hb17)
  replace I5 := Lib.hid (I5.out.keep hb17)
  replace hbb := keepB hbb hb17
  clear hb17
  go_wp2_with fail
  refine (same2 _ _ _ _ 0 1 _ (I4.out.keep (below_al (Below.refl _ _) _)) (isI_lit2 0 1 (by unfold I64; decide) (by unfold I64; decide) (by go_simp) (by go_simp))).mono ?_
  rintro e w18 ⟨rfl, hb18⟩
  replace hb18 := keepB (below_al (Below.refl _ _) _) hb18
  replace I1 := Lib.hid (I1.out.keep hb18)
  replace I2 := Lib.hid (I2.out.keep hb18)
  replace I3 := Lib.hid (I3.out.keep hb18)
  replace I4 := Lib.hid (I4.out.keep hb18)
  replace I5 := Lib.hid (I5.out.keep hb18)
  replace hbb := keepB hbb hb18
  clear hb18
  go_wp2_with fail
  refine (same2 _ _ _ _ 0 0 _ (I5.out.keep (below_al (Below.refl _ _) _)) (isI_lit2 0 0 (by unfold I64; decide) (by unfold I64; decide) (by go_simp) (by go_simp))).mono ?_
  rintro e w19 ⟨rfl, hb19⟩
  replace hb19 := keepB (below_al (Below.refl _ _) _) hb19
  replace I1 := Lib.hid (I1.out.keep hb19)
  replace I2 := Lib.hid (I2.out.keep hb19)
  replace I3 := Lib.hid (I3.out.keep hb19)
  replace I4 := Lib.hid (I4.out.keep hb19)
  replace I5 := Lib.hid (I5.out.keep hb19)
  replace hbb := keepB hbb hb19
  clear hb19
  go_wp2_with fail
  go_ret
  exact ⟨rfl, hbb⟩
end Go.Proofs.Ytkibglbccfjkpaa
