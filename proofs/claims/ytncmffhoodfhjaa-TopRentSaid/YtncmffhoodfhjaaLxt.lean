/- TopRent's walk. -/
import Derived.Test.YtncmffhoodfhjaaLxt1
import Derived.Test.YtncmffhoodfhjaaLxt3
import Derived.Test.YtncmffhoodfhjaaLxj1
import Derived.Test.YtncmffhoodfhjaaYn
namespace Go.Proofs.Ytncmffhoodfhjaa
open Go.RowKit
theorem top_even (A : Option Addr) (cv : Nat) (V : List (List Int)) (T : Int) (v : World) (hl : V.length ≤ maxLen) (hv : IsM v A V) (hT : As.rchk V T = 0) : Calls Try.prog 26 #[.agg #[.slice A V.length cv, .int .i64 T]] v fun e w' => ∃ X c Y d, e = .returned (.tuple #[.agg #[.slice X V.length c, .slice Y V.length d, .int .i64 (As.rdd V.length (As.evp V (As.bst V) T))], .int .i64 0]) ∧ IsI w' X (As.al (As.bst V)) ∧ IsI w' Y (As.rdp V.length (As.evp V (As.bst V) T)) ∧ Below v.heap.size v w' := by
  have c := rmEven_any A cv V T v hl hv
  have hc : As.chk V = 0 := by
    rcases As.rchk_two V T with ⟨_, hc, _⟩ | ⟨_, h2⟩
    · exact hc
    · exact absurd hT h2
  have e1 : As.evA V T = As.bst V := by unfold As.evA; rw [if_pos hT]
  have e2 : As.evP V T = As.rdp V.length (As.evp V (As.bst V) T) := by unfold As.evP; rw [if_pos hT]
  have e3 : As.evD V T = As.rdd V.length (As.evp V (As.bst V) T) := by unfold As.evD; rw [if_pos hT]
  unfold EvQ at c
  rw [e1, e2, e3, As.rdp_len, (As.bst_top (As.chk_ok hc)).len, hT] at c
  exact c
set_option maxRecDepth 100000 in
set_option maxHeartbeats 8000000 in
theorem toprent_walk (A : Option Addr) (cv : Nat) (V : List (List Int)) (R : Int) (w : World) (hl : V.length ≤ maxLen) (h : IsM w A V) (_hR : I64 R) :
    Calls Try.prog 10 #[.agg #[.slice A V.length cv, .int .i64 R]] w fun e w' => e = .returned (.bool true) ∧ Below w.heap.size w w' := by
  have HA := Lib.hid h
  by_cases h6 : 6 < V.length
  · have d1 : decide ((6 : Int) < (V.length : Int)) = true := by rw [decide_eq_true_eq]; omega
    unfold maxLen at hl
    clear h
    go_enter Try.func10, Try.ntmps10
    go_upto_region 1 with fail
    refine at_box1 (fun V0 hbb b0 hsz => ?_)
    clear hsz
    replace HA := Lib.hid (HA.out.keep hbb)
    have HB := Lib.hid hbb
    have B0 := Lib.hid b0
    clear hbb b0
    go_wp2_with fail
    refine (tpalive15_any _).mono ?_
    rintro e w1 ⟨rfl, hb⟩
    replace HA := Lib.hid (HA.out.keep hb)
    replace B0 := Lib.hid (B0.out.keep hb)
    replace HB := Lib.hid (keepB HB.out hb)
    clear hb
    have cB00 := B0.out.c 0 rfl
    have cB01 := B0.out.c 1 rfl
    go_wp2_with fail
    go_ret
    exact ⟨rfl, HB.out⟩
  have d1 : decide ((6 : Int) < (V.length : Int)) = false := by rw [decide_eq_false_iff_not]; omega
  have ck := fun v (hv : IsM v A V) => r14Check_any A cv V R v hl hv
  by_cases h0 : As.rchk V R = 0
  · have K1 := As.fr_ok h0
    have K2 := As.cl_ok h0
    have ok := K1.ok
    obtain ⟨E1, E2⟩ := As.even_ok ok K1.hb K1.r0 K1.r1
    have vE : As.vld V R (As.al (As.bst V)) (As.rdp V.length (As.evp V (As.bst V) R)) (As.rdd V.length (As.evp V (As.bst V) R)) = 0 := by unfold As.vld; rw [if_pos h0, if_pos (As.leB_iff.2 ⟨_, rfl, E1⟩)]
    have CE := Lib.hid (fun v (hv : IsM v A V) => top_even A cv V R v hl hv h0)
    have CF := Lib.hid (fun v (hv : IsM v A V) => rent_fair A cv V R v hl hv h0)
    have CC := Lib.hid (fun v (hv : IsM v A V) => rent_calm A cv V R v hl hv h0)
    have LE := Lib.hid (fun X c Y d v (hv : IsM v A V) hX hY => topleased_any A cv V R X c (As.bst V) Y d (As.rdp V.length (As.evp V (As.bst V) R)) (As.rdd V.length (As.evp V (As.bst V) R)) v hl h0 ⟨ok, K1.r0, K1.r1, E1, hv, hX, hY⟩ E2)
    have LF := Lib.hid (fun X c Y d v (hv : IsM v A V) hX hY => topleased_any A cv V R X c (As.bst V) Y d (As.frP V R) (As.frD V R) v hl h0 ⟨ok, K1.r0, K1.r1, K1.le, hv, hX, hY⟩ K1.ct)
    have LC := Lib.hid (fun X c Y d v (hv : IsM v A V) hX hY => topleased_any A cv V R X c (As.bst V) Y d (As.clP V R) (As.clD V R) v hl h0 ⟨ok, K1.r0, K1.r1, K2.le, hv, hX, hY⟩ K2.ct)
    have WE := Lib.hid (fun X c Y d v (hv : IsM v A V) hX hY => rent_worst A cv V R X c (As.bst V) Y d (As.rdp V.length (As.evp V (As.bst V) R)) (As.rdd V.length (As.evp V (As.bst V) R)) v hl hv vE hX hY)
    have WF := Lib.hid (fun X c Y d v (hv : IsM v A V) hX hY => rent_worst A cv V R X c (As.bst V) Y d (As.frP V R) (As.frD V R) v hl hv (K1.vld h0) hX hY)
    have WC := Lib.hid (fun X c Y d v (hv : IsM v A V) hX hY => rent_worst A cv V R X c (As.bst V) Y d (As.clP V R) (As.clD V R) v hl hv (K2.vld h0) hX hY)
    have e1 := E1.d1
    have e60 := E1.d60
    obtain ⟨p1, p6⟩ := K1.d6
    obtain ⟨q1, q6⟩ := K2.d6
    obtain ⟨x1, x2, x3, x4⟩ := As.ls_bd ok E1
    obtain ⟨y1, y2, y3, y4⟩ := As.ls_bd ok K1.le
    obtain ⟨z1, z2, z3, z4⟩ := As.ls_bd ok K2.le
    obtain ⟨f1, -⟩ := As.fair_le K1 E1 E2
    obtain ⟨f2, -⟩ := As.fair_le K1 K2.le K2.ct
    have f3 := As.calm_le K2 E1 E2
    have f4 := As.calm_le K2 K1.le K1.ct
    have S1 := Lib.hid (fun v => rless_q (a := As.lsG V (As.bst V) (As.frP V R) (As.frD V R)) (n := As.frD V R) (c := As.lsG V (As.bst V) (As.rdp V.length (As.evp V (As.bst V) R)) (As.rdd V.length (As.evp V (As.bst V) R))) (d := As.rdd V.length (As.evp V (As.bst V) R)) p1 (by omega) (by omega) (by omega) e1 (by omega) (by omega) (by omega) f1 v)
    have S2 := Lib.hid (fun v => rless_q (a := As.lsG V (As.bst V) (As.frP V R) (As.frD V R)) (n := As.frD V R) (c := As.lsG V (As.bst V) (As.clP V R) (As.clD V R)) (d := As.clD V R) p1 (by omega) (by omega) (by omega) q1 (by omega) (by omega) (by omega) f2 v)
    have S3 := Lib.hid (fun v => rless_q (a := As.gtG V (As.bst V) (As.rdp V.length (As.evp V (As.bst V) R)) (As.rdd V.length (As.evp V (As.bst V) R))) (n := As.rdd V.length (As.evp V (As.bst V) R)) (c := As.gtG V (As.bst V) (As.clP V R) (As.clD V R)) (d := As.clD V R) e1 (by omega) (by omega) (by omega) q1 (by omega) (by omega) (by omega) f3 v)
    have S4 := Lib.hid (fun v => rless_q (a := As.gtG V (As.bst V) (As.frP V R) (As.frD V R)) (n := As.frD V R) (c := As.gtG V (As.bst V) (As.clP V R) (As.clD V R)) (d := As.clD V R) p1 (by omega) (by omega) (by omega) q1 (by omega) (by omega) (by omega) f4 v)
    rw [h0] at ck
    have CK := Lib.hid ck
    clear ck h K1 K2 ok E1 E2 vE e1 e60 p1 p6 q1 q6 x1 x2 x3 x4 y1 y2 y3 y4 z1 z2 z3 z4 f1 f2 f3 f4
    unfold maxLen at hl
    generalize (Rp.q (As.lsG V (As.bst V) (As.rdp V.length (As.evp V (As.bst V) R)) (As.rdd V.length (As.evp V (As.bst V) R))) (As.rdd V.length (As.evp V (As.bst V) R))).num = lEn at *
    generalize ((Rp.q (As.lsG V (As.bst V) (As.rdp V.length (As.evp V (As.bst V) R)) (As.rdd V.length (As.evp V (As.bst V) R))) (As.rdd V.length (As.evp V (As.bst V) R))).den : Int) = lEd at *
    generalize (Rp.q (As.gtG V (As.bst V) (As.rdp V.length (As.evp V (As.bst V) R)) (As.rdd V.length (As.evp V (As.bst V) R))) (As.rdd V.length (As.evp V (As.bst V) R))).num = gEn at *
    generalize ((Rp.q (As.gtG V (As.bst V) (As.rdp V.length (As.evp V (As.bst V) R)) (As.rdd V.length (As.evp V (As.bst V) R))) (As.rdd V.length (As.evp V (As.bst V) R))).den : Int) = gEd at *
    generalize (Rp.q (As.lsG V (As.bst V) (As.frP V R) (As.frD V R)) (As.frD V R)).num = lFn at *
    generalize ((Rp.q (As.lsG V (As.bst V) (As.frP V R) (As.frD V R)) (As.frD V R)).den : Int) = lFd at *
    generalize (Rp.q (As.gtG V (As.bst V) (As.frP V R) (As.frD V R)) (As.frD V R)).num = gFn at *
    generalize ((Rp.q (As.gtG V (As.bst V) (As.frP V R) (As.frD V R)) (As.frD V R)).den : Int) = gFd at *
    generalize (Rp.q (As.lsG V (As.bst V) (As.clP V R) (As.clD V R)) (As.clD V R)).num = lCn at *
    generalize ((Rp.q (As.lsG V (As.bst V) (As.clP V R) (As.clD V R)) (As.clD V R)).den : Int) = lCd at *
    generalize (Rp.q (As.gtG V (As.bst V) (As.clP V R) (As.clD V R)) (As.clD V R)).num = gCn at *
    generalize ((Rp.q (As.gtG V (As.bst V) (As.clP V R) (As.clD V R)) (As.clD V R)).den : Int) = gCd at *
    generalize As.rdd V.length (As.evp V (As.bst V) R) = DE at *
    generalize As.rdp V.length (As.evp V (As.bst V) R) = PE at *
    generalize As.frD V R = DF at *
    generalize As.frP V R = PF at *
    generalize As.clD V R = DC at *
    generalize As.clP V R = PC at *
    go_enter Try.func10, Try.ntmps10
    go_upto_region 1 with fail
    refine at_box1 (fun V0 hbb b0 hsz => ?_)
    clear hsz
    replace HA := Lib.hid (HA.out.keep hbb)
    have HB := Lib.hid hbb
    have B0 := Lib.hid b0
    clear hbb b0
    go_wp2_with fail
    refine (tpalive15_any _).mono ?_
    rintro e w1 ⟨rfl, hb⟩
    replace HA := Lib.hid (HA.out.keep hb)
    replace B0 := Lib.hid (B0.out.keep hb)
    replace HB := Lib.hid (keepB HB.out hb)
    clear hb
    have cB00 := B0.out.c 0 rfl
    have cB01 := B0.out.c 1 rfl
    go_wp2_with fail
    refine (CK.out _ HA.out).mono ?_
    rintro e w2 ⟨rfl, hb⟩
    replace HA := Lib.hid (HA.out.keep hb)
    replace B0 := Lib.hid (B0.out.keep hb)
    replace HB := Lib.hid (keepB HB.out hb)
    clear cB00 cB01 hb
    clear CK
    have cB00 := B0.out.c 0 rfl
    have cB01 := B0.out.c 1 rfl
    go_wp2_with fail
    refine (CE.out _ HA.out).mono ?_
    rintro e w3 ⟨XE, cE, YE, dE, rfl, hX, hY, hb⟩
    replace HA := Lib.hid (HA.out.keep hb)
    replace B0 := Lib.hid (B0.out.keep hb)
    replace HB := Lib.hid (keepB HB.out hb)
    have IXE := Lib.hid hX
    have IYE := Lib.hid hY
    clear cB00 cB01 hb hX hY
    clear CE
    go_upto_region 5 with fail
    refine at_worldQ (fun v => Below w3.heap.size w3 v ∧ BK v (w3.heap.size) [.slice XE V.length cE, .slice YE V.length dE, .int .i64 DE]) ⟨below_al (Below.refl _ _) _, BK.new w3 [.slice XE V.length cE, .slice YE V.length dE, .int .i64 DE] 27⟩ (fun U3 hS => ?_)
    obtain ⟨hb, hBLE⟩ := hS
    replace HA := Lib.hid (HA.out.keep hb)
    replace B0 := Lib.hid (B0.out.keep hb)
    replace IXE := Lib.hid (IXE.out.keep hb)
    replace IYE := Lib.hid (IYE.out.keep hb)
    replace HB := Lib.hid (keepB HB.out hb)
    have BLE := Lib.hid hBLE
    clear hb hBLE
    have cB00 := B0.out.c 0 rfl
    have cB01 := B0.out.c 1 rfl
    go_wp2_with fail
    refine (CF.out _ HA.out).mono ?_
    rintro e w4 ⟨XF, cF, YF, dF, rfl, hX, hY, hb⟩
    replace HA := Lib.hid (HA.out.keep hb)
    replace B0 := Lib.hid (B0.out.keep hb)
    replace IXE := Lib.hid (IXE.out.keep hb)
    replace IYE := Lib.hid (IYE.out.keep hb)
    replace BLE := Lib.hid (BLE.out.keep hb)
    replace HB := Lib.hid (keepB HB.out hb)
    have IXF := Lib.hid hX
    have IYF := Lib.hid hY
    clear cB00 cB01 hb hX hY
    clear CF
    go_upto_region 6 with fail
    refine at_worldQ (fun v => Below w4.heap.size w4 v ∧ BK v (w4.heap.size) [.slice XF V.length cF, .slice YF V.length dF, .int .i64 DF]) ⟨below_al (Below.refl _ _) _, BK.new w4 [.slice XF V.length cF, .slice YF V.length dF, .int .i64 DF] 27⟩ (fun U4 hS => ?_)
    obtain ⟨hb, hBLF⟩ := hS
    replace HA := Lib.hid (HA.out.keep hb)
    replace B0 := Lib.hid (B0.out.keep hb)
    replace IXE := Lib.hid (IXE.out.keep hb)
    replace IYE := Lib.hid (IYE.out.keep hb)
    replace BLE := Lib.hid (BLE.out.keep hb)
    replace IXF := Lib.hid (IXF.out.keep hb)
    replace IYF := Lib.hid (IYF.out.keep hb)
    replace HB := Lib.hid (keepB HB.out hb)
    have BLF := Lib.hid hBLF
    clear hb hBLF
    have cB00 := B0.out.c 0 rfl
    have cB01 := B0.out.c 1 rfl
    go_wp2_with fail
    refine (CC.out _ HA.out).mono ?_
    rintro e w5 ⟨XC, cC, YC, dC, rfl, hX, hY, hb⟩
    replace HA := Lib.hid (HA.out.keep hb)
    replace B0 := Lib.hid (B0.out.keep hb)
    replace IXE := Lib.hid (IXE.out.keep hb)
    replace IYE := Lib.hid (IYE.out.keep hb)
    replace BLE := Lib.hid (BLE.out.keep hb)
    replace IXF := Lib.hid (IXF.out.keep hb)
    replace IYF := Lib.hid (IYF.out.keep hb)
    replace BLF := Lib.hid (BLF.out.keep hb)
    replace HB := Lib.hid (keepB HB.out hb)
    have IXC := Lib.hid hX
    have IYC := Lib.hid hY
    clear cB00 cB01 hb hX hY
    clear CC
    go_upto_region 7 with fail
    refine at_worldQ (fun v => Below w5.heap.size w5 v ∧ BK v (w5.heap.size) [.slice XC V.length cC, .slice YC V.length dC, .int .i64 DC]) ⟨below_al (Below.refl _ _) _, BK.new w5 [.slice XC V.length cC, .slice YC V.length dC, .int .i64 DC] 27⟩ (fun U5 hS => ?_)
    obtain ⟨hb, hBLC⟩ := hS
    replace HA := Lib.hid (HA.out.keep hb)
    replace B0 := Lib.hid (B0.out.keep hb)
    replace IXE := Lib.hid (IXE.out.keep hb)
    replace IYE := Lib.hid (IYE.out.keep hb)
    replace BLE := Lib.hid (BLE.out.keep hb)
    replace IXF := Lib.hid (IXF.out.keep hb)
    replace IYF := Lib.hid (IYF.out.keep hb)
    replace BLF := Lib.hid (BLF.out.keep hb)
    replace IXC := Lib.hid (IXC.out.keep hb)
    replace IYC := Lib.hid (IYC.out.keep hb)
    replace HB := Lib.hid (keepB HB.out hb)
    have BLC := Lib.hid hBLC
    clear hb hBLC
    have cB00 := B0.out.c 0 rfl
    have cB01 := B0.out.c 1 rfl
    have cBLE0 := BLE.out.c 0 rfl
    have cBLE1 := BLE.out.c 1 rfl
    have cBLE2 := BLE.out.c 2 rfl
    go_wp2_with fail
    refine (LE.out XE cE YE dE _ HA.out IXE.out IYE.out).mono ?_
    rintro e w6 ⟨rfl, hb⟩
    replace HA := Lib.hid (HA.out.keep hb)
    replace B0 := Lib.hid (B0.out.keep hb)
    replace IXE := Lib.hid (IXE.out.keep hb)
    replace IYE := Lib.hid (IYE.out.keep hb)
    replace BLE := Lib.hid (BLE.out.keep hb)
    replace IXF := Lib.hid (IXF.out.keep hb)
    replace IYF := Lib.hid (IYF.out.keep hb)
    replace BLF := Lib.hid (BLF.out.keep hb)
    replace IXC := Lib.hid (IXC.out.keep hb)
    replace IYC := Lib.hid (IYC.out.keep hb)
    replace BLC := Lib.hid (BLC.out.keep hb)
    replace HB := Lib.hid (keepB HB.out hb)
    clear cB00 cB01 cBLE0 cBLE1 cBLE2 hb
    clear LE
    have cB00 := B0.out.c 0 rfl
    have cB01 := B0.out.c 1 rfl
    have cBLF0 := BLF.out.c 0 rfl
    have cBLF1 := BLF.out.c 1 rfl
    have cBLF2 := BLF.out.c 2 rfl
    go_wp2_with fail
    refine (LF.out XF cF YF dF _ HA.out IXF.out IYF.out).mono ?_
    rintro e w7 ⟨rfl, hb⟩
    replace HA := Lib.hid (HA.out.keep hb)
    replace B0 := Lib.hid (B0.out.keep hb)
    replace IXE := Lib.hid (IXE.out.keep hb)
    replace IYE := Lib.hid (IYE.out.keep hb)
    replace BLE := Lib.hid (BLE.out.keep hb)
    replace IXF := Lib.hid (IXF.out.keep hb)
    replace IYF := Lib.hid (IYF.out.keep hb)
    replace BLF := Lib.hid (BLF.out.keep hb)
    replace IXC := Lib.hid (IXC.out.keep hb)
    replace IYC := Lib.hid (IYC.out.keep hb)
    replace BLC := Lib.hid (BLC.out.keep hb)
    replace HB := Lib.hid (keepB HB.out hb)
    clear cB00 cB01 cBLF0 cBLF1 cBLF2 hb
    clear LF
    have cB00 := B0.out.c 0 rfl
    have cB01 := B0.out.c 1 rfl
    have cBLC0 := BLC.out.c 0 rfl
    have cBLC1 := BLC.out.c 1 rfl
    have cBLC2 := BLC.out.c 2 rfl
    go_wp2_with fail
    refine (LC.out XC cC YC dC _ HA.out IXC.out IYC.out).mono ?_
    rintro e w8 ⟨rfl, hb⟩
    replace HA := Lib.hid (HA.out.keep hb)
    replace B0 := Lib.hid (B0.out.keep hb)
    replace IXE := Lib.hid (IXE.out.keep hb)
    replace IYE := Lib.hid (IYE.out.keep hb)
    replace BLE := Lib.hid (BLE.out.keep hb)
    replace IXF := Lib.hid (IXF.out.keep hb)
    replace IYF := Lib.hid (IYF.out.keep hb)
    replace BLF := Lib.hid (BLF.out.keep hb)
    replace IXC := Lib.hid (IXC.out.keep hb)
    replace IYC := Lib.hid (IYC.out.keep hb)
    replace BLC := Lib.hid (BLC.out.keep hb)
    replace HB := Lib.hid (keepB HB.out hb)
    clear cB00 cB01 cBLC0 cBLC1 cBLC2 hb
    clear LC
    have cB00 := B0.out.c 0 rfl
    have cB01 := B0.out.c 1 rfl
    have cBLE0 := BLE.out.c 0 rfl
    have cBLE1 := BLE.out.c 1 rfl
    have cBLE2 := BLE.out.c 2 rfl
    go_wp2_with fail
    refine (WE.out XE cE YE dE _ HA.out IXE.out IYE.out).mono ?_
    rintro e w9 ⟨rfl, hb⟩
    replace HA := Lib.hid (HA.out.keep hb)
    replace B0 := Lib.hid (B0.out.keep hb)
    replace IXE := Lib.hid (IXE.out.keep hb)
    replace IYE := Lib.hid (IYE.out.keep hb)
    replace BLE := Lib.hid (BLE.out.keep hb)
    replace IXF := Lib.hid (IXF.out.keep hb)
    replace IYF := Lib.hid (IYF.out.keep hb)
    replace BLF := Lib.hid (BLF.out.keep hb)
    replace IXC := Lib.hid (IXC.out.keep hb)
    replace IYC := Lib.hid (IYC.out.keep hb)
    replace BLC := Lib.hid (BLC.out.keep hb)
    replace HB := Lib.hid (keepB HB.out hb)
    clear cB00 cB01 cBLE0 cBLE1 cBLE2 hb
    clear WE
    go_upto_region 10 with fail
    refine at_worldQ (fun v => Below w9.heap.size w9 v ∧ BK v (w9.heap.size) [.int .i64 lEn, .int .i64 lEd] ∧ BK v (w9.heap.size + 1) [.int .i64 gEn, .int .i64 gEd]) ⟨below_al (below_al (Below.refl _ _) _) _, ((BK.new w9 [.int .i64 lEn, .int .i64 lEd] 31).al _), (bkAtL (BK.new (w9.alloc (.cells #[.int .i64 lEn, .int .i64 lEd] 31)) [.int .i64 gEn, .int .i64 gEd] 31) (by simp only [World.size_alloc]))⟩ (fun U9 hS => ?_)
    obtain ⟨hb, hQE, hGE⟩ := hS
    replace HA := Lib.hid (HA.out.keep hb)
    replace B0 := Lib.hid (B0.out.keep hb)
    replace IXE := Lib.hid (IXE.out.keep hb)
    replace IYE := Lib.hid (IYE.out.keep hb)
    replace BLE := Lib.hid (BLE.out.keep hb)
    replace IXF := Lib.hid (IXF.out.keep hb)
    replace IYF := Lib.hid (IYF.out.keep hb)
    replace BLF := Lib.hid (BLF.out.keep hb)
    replace IXC := Lib.hid (IXC.out.keep hb)
    replace IYC := Lib.hid (IYC.out.keep hb)
    replace BLC := Lib.hid (BLC.out.keep hb)
    replace HB := Lib.hid (keepB HB.out hb)
    have QE := Lib.hid hQE
    have GE := Lib.hid hGE
    clear hb hQE hGE
    have cB00 := B0.out.c 0 rfl
    have cB01 := B0.out.c 1 rfl
    have cBLF0 := BLF.out.c 0 rfl
    have cBLF1 := BLF.out.c 1 rfl
    have cBLF2 := BLF.out.c 2 rfl
    go_wp2_with fail
    refine (WF.out XF cF YF dF _ HA.out IXF.out IYF.out).mono ?_
    rintro e w10 ⟨rfl, hb⟩
    replace HA := Lib.hid (HA.out.keep hb)
    replace B0 := Lib.hid (B0.out.keep hb)
    replace IXE := Lib.hid (IXE.out.keep hb)
    replace IYE := Lib.hid (IYE.out.keep hb)
    replace BLE := Lib.hid (BLE.out.keep hb)
    replace IXF := Lib.hid (IXF.out.keep hb)
    replace IYF := Lib.hid (IYF.out.keep hb)
    replace BLF := Lib.hid (BLF.out.keep hb)
    replace IXC := Lib.hid (IXC.out.keep hb)
    replace IYC := Lib.hid (IYC.out.keep hb)
    replace BLC := Lib.hid (BLC.out.keep hb)
    replace QE := Lib.hid (QE.out.keep hb)
    replace GE := Lib.hid (GE.out.keep hb)
    replace HB := Lib.hid (keepB HB.out hb)
    clear cB00 cB01 cBLF0 cBLF1 cBLF2 hb
    clear WF
    go_upto_region 11 with fail
    refine at_worldQ (fun v => Below w10.heap.size w10 v ∧ BK v (w10.heap.size) [.int .i64 lFn, .int .i64 lFd] ∧ BK v (w10.heap.size + 1) [.int .i64 gFn, .int .i64 gFd]) ⟨below_al (below_al (Below.refl _ _) _) _, ((BK.new w10 [.int .i64 lFn, .int .i64 lFd] 31).al _), (bkAtL (BK.new (w10.alloc (.cells #[.int .i64 lFn, .int .i64 lFd] 31)) [.int .i64 gFn, .int .i64 gFd] 31) (by simp only [World.size_alloc]))⟩ (fun U10 hS => ?_)
    obtain ⟨hb, hQF, hGF⟩ := hS
    replace HA := Lib.hid (HA.out.keep hb)
    replace B0 := Lib.hid (B0.out.keep hb)
    replace IXE := Lib.hid (IXE.out.keep hb)
    replace IYE := Lib.hid (IYE.out.keep hb)
    replace BLE := Lib.hid (BLE.out.keep hb)
    replace IXF := Lib.hid (IXF.out.keep hb)
    replace IYF := Lib.hid (IYF.out.keep hb)
    replace BLF := Lib.hid (BLF.out.keep hb)
    replace IXC := Lib.hid (IXC.out.keep hb)
    replace IYC := Lib.hid (IYC.out.keep hb)
    replace BLC := Lib.hid (BLC.out.keep hb)
    replace QE := Lib.hid (QE.out.keep hb)
    replace GE := Lib.hid (GE.out.keep hb)
    replace HB := Lib.hid (keepB HB.out hb)
    have QF := Lib.hid hQF
    have GF := Lib.hid hGF
    clear hb hQF hGF
    have cB00 := B0.out.c 0 rfl
    have cB01 := B0.out.c 1 rfl
    have cBLC0 := BLC.out.c 0 rfl
    have cBLC1 := BLC.out.c 1 rfl
    have cBLC2 := BLC.out.c 2 rfl
    go_wp2_with fail
    refine (WC.out XC cC YC dC _ HA.out IXC.out IYC.out).mono ?_
    rintro e w11 ⟨rfl, hb⟩
    replace HA := Lib.hid (HA.out.keep hb)
    replace B0 := Lib.hid (B0.out.keep hb)
    replace IXE := Lib.hid (IXE.out.keep hb)
    replace IYE := Lib.hid (IYE.out.keep hb)
    replace BLE := Lib.hid (BLE.out.keep hb)
    replace IXF := Lib.hid (IXF.out.keep hb)
    replace IYF := Lib.hid (IYF.out.keep hb)
    replace BLF := Lib.hid (BLF.out.keep hb)
    replace IXC := Lib.hid (IXC.out.keep hb)
    replace IYC := Lib.hid (IYC.out.keep hb)
    replace BLC := Lib.hid (BLC.out.keep hb)
    replace QE := Lib.hid (QE.out.keep hb)
    replace GE := Lib.hid (GE.out.keep hb)
    replace QF := Lib.hid (QF.out.keep hb)
    replace GF := Lib.hid (GF.out.keep hb)
    replace HB := Lib.hid (keepB HB.out hb)
    clear cB00 cB01 cBLC0 cBLC1 cBLC2 hb
    clear WC
    go_upto_region 12 with fail
    refine at_worldQ (fun v => Below w11.heap.size w11 v ∧ BK v (w11.heap.size) [.int .i64 lCn, .int .i64 lCd] ∧ BK v (w11.heap.size + 1) [.int .i64 gCn, .int .i64 gCd]) ⟨below_al (below_al (Below.refl _ _) _) _, ((BK.new w11 [.int .i64 lCn, .int .i64 lCd] 31).al _), (bkAtL (BK.new (w11.alloc (.cells #[.int .i64 lCn, .int .i64 lCd] 31)) [.int .i64 gCn, .int .i64 gCd] 31) (by simp only [World.size_alloc]))⟩ (fun U11 hS => ?_)
    obtain ⟨hb, hQC, hGC⟩ := hS
    replace HA := Lib.hid (HA.out.keep hb)
    replace B0 := Lib.hid (B0.out.keep hb)
    replace IXE := Lib.hid (IXE.out.keep hb)
    replace IYE := Lib.hid (IYE.out.keep hb)
    replace BLE := Lib.hid (BLE.out.keep hb)
    replace IXF := Lib.hid (IXF.out.keep hb)
    replace IYF := Lib.hid (IYF.out.keep hb)
    replace BLF := Lib.hid (BLF.out.keep hb)
    replace IXC := Lib.hid (IXC.out.keep hb)
    replace IYC := Lib.hid (IYC.out.keep hb)
    replace BLC := Lib.hid (BLC.out.keep hb)
    replace QE := Lib.hid (QE.out.keep hb)
    replace GE := Lib.hid (GE.out.keep hb)
    replace QF := Lib.hid (QF.out.keep hb)
    replace GF := Lib.hid (GF.out.keep hb)
    replace HB := Lib.hid (keepB HB.out hb)
    have QC := Lib.hid hQC
    have GC := Lib.hid hGC
    clear hb hQC hGC
    have cQF0 := QF.out.c 0 rfl
    have cQF1 := QF.out.c 1 rfl
    have cQE0 := QE.out.c 0 rfl
    have cQE1 := QE.out.c 1 rfl
    go_wp2_with fail
    refine (S1.out _).mono ?_
    rintro e w12 ⟨rfl, hb⟩
    replace HA := Lib.hid (HA.out.keep hb)
    replace B0 := Lib.hid (B0.out.keep hb)
    replace IXE := Lib.hid (IXE.out.keep hb)
    replace IYE := Lib.hid (IYE.out.keep hb)
    replace BLE := Lib.hid (BLE.out.keep hb)
    replace IXF := Lib.hid (IXF.out.keep hb)
    replace IYF := Lib.hid (IYF.out.keep hb)
    replace BLF := Lib.hid (BLF.out.keep hb)
    replace IXC := Lib.hid (IXC.out.keep hb)
    replace IYC := Lib.hid (IYC.out.keep hb)
    replace BLC := Lib.hid (BLC.out.keep hb)
    replace QE := Lib.hid (QE.out.keep hb)
    replace GE := Lib.hid (GE.out.keep hb)
    replace QF := Lib.hid (QF.out.keep hb)
    replace GF := Lib.hid (GF.out.keep hb)
    replace QC := Lib.hid (QC.out.keep hb)
    replace GC := Lib.hid (GC.out.keep hb)
    replace HB := Lib.hid (keepB HB.out hb)
    clear cQF0 cQF1 cQE0 cQE1 hb
    have cQF0 := QF.out.c 0 rfl
    have cQF1 := QF.out.c 1 rfl
    have cQC0 := QC.out.c 0 rfl
    have cQC1 := QC.out.c 1 rfl
    go_wp2_with fail
    refine (S2.out _).mono ?_
    rintro e w13 ⟨rfl, hb⟩
    replace HA := Lib.hid (HA.out.keep hb)
    replace B0 := Lib.hid (B0.out.keep hb)
    replace IXE := Lib.hid (IXE.out.keep hb)
    replace IYE := Lib.hid (IYE.out.keep hb)
    replace BLE := Lib.hid (BLE.out.keep hb)
    replace IXF := Lib.hid (IXF.out.keep hb)
    replace IYF := Lib.hid (IYF.out.keep hb)
    replace BLF := Lib.hid (BLF.out.keep hb)
    replace IXC := Lib.hid (IXC.out.keep hb)
    replace IYC := Lib.hid (IYC.out.keep hb)
    replace BLC := Lib.hid (BLC.out.keep hb)
    replace QE := Lib.hid (QE.out.keep hb)
    replace GE := Lib.hid (GE.out.keep hb)
    replace QF := Lib.hid (QF.out.keep hb)
    replace GF := Lib.hid (GF.out.keep hb)
    replace QC := Lib.hid (QC.out.keep hb)
    replace GC := Lib.hid (GC.out.keep hb)
    replace HB := Lib.hid (keepB HB.out hb)
    clear cQF0 cQF1 cQC0 cQC1 hb
    have cGE0 := GE.out.c 0 rfl
    have cGE1 := GE.out.c 1 rfl
    have cGC0 := GC.out.c 0 rfl
    have cGC1 := GC.out.c 1 rfl
    go_wp2_with fail
    refine (S3.out _).mono ?_
    rintro e w14 ⟨rfl, hb⟩
    replace HA := Lib.hid (HA.out.keep hb)
    replace B0 := Lib.hid (B0.out.keep hb)
    replace IXE := Lib.hid (IXE.out.keep hb)
    replace IYE := Lib.hid (IYE.out.keep hb)
    replace BLE := Lib.hid (BLE.out.keep hb)
    replace IXF := Lib.hid (IXF.out.keep hb)
    replace IYF := Lib.hid (IYF.out.keep hb)
    replace BLF := Lib.hid (BLF.out.keep hb)
    replace IXC := Lib.hid (IXC.out.keep hb)
    replace IYC := Lib.hid (IYC.out.keep hb)
    replace BLC := Lib.hid (BLC.out.keep hb)
    replace QE := Lib.hid (QE.out.keep hb)
    replace GE := Lib.hid (GE.out.keep hb)
    replace QF := Lib.hid (QF.out.keep hb)
    replace GF := Lib.hid (GF.out.keep hb)
    replace QC := Lib.hid (QC.out.keep hb)
    replace GC := Lib.hid (GC.out.keep hb)
    replace HB := Lib.hid (keepB HB.out hb)
    clear cGE0 cGE1 cGC0 cGC1 hb
    have cGF0 := GF.out.c 0 rfl
    have cGF1 := GF.out.c 1 rfl
    have cGC0 := GC.out.c 0 rfl
    have cGC1 := GC.out.c 1 rfl
    go_wp2_with fail
    refine (S4.out _).mono ?_
    rintro e w15 ⟨rfl, hb⟩
    replace HA := Lib.hid (HA.out.keep hb)
    replace B0 := Lib.hid (B0.out.keep hb)
    replace IXE := Lib.hid (IXE.out.keep hb)
    replace IYE := Lib.hid (IYE.out.keep hb)
    replace BLE := Lib.hid (BLE.out.keep hb)
    replace IXF := Lib.hid (IXF.out.keep hb)
    replace IYF := Lib.hid (IYF.out.keep hb)
    replace BLF := Lib.hid (BLF.out.keep hb)
    replace IXC := Lib.hid (IXC.out.keep hb)
    replace IYC := Lib.hid (IYC.out.keep hb)
    replace BLC := Lib.hid (BLC.out.keep hb)
    replace QE := Lib.hid (QE.out.keep hb)
    replace GE := Lib.hid (GE.out.keep hb)
    replace QF := Lib.hid (QF.out.keep hb)
    replace GF := Lib.hid (GF.out.keep hb)
    replace QC := Lib.hid (QC.out.keep hb)
    replace GC := Lib.hid (GC.out.keep hb)
    replace HB := Lib.hid (keepB HB.out hb)
    clear cGF0 cGF1 cGC0 cGC1 hb
    go_wp2_with fail
    go_ret
    exact ⟨rfl, HB.out⟩
  · have c1 : (As.rchk V R != 0) = true := by rw [bne_iff_ne]; exact h0
    have CK := Lib.hid ck
    clear ck h
    generalize As.rchk V R = c at *
    unfold maxLen at hl
    go_enter Try.func10, Try.ntmps10
    go_upto_region 1 with fail
    refine at_box1 (fun V0 hbb b0 hsz => ?_)
    clear hsz
    replace HA := Lib.hid (HA.out.keep hbb)
    have HB := Lib.hid hbb
    have B0 := Lib.hid b0
    clear hbb b0
    go_wp2_with fail
    refine (tpalive15_any _).mono ?_
    rintro e w1 ⟨rfl, hb⟩
    replace HA := Lib.hid (HA.out.keep hb)
    replace B0 := Lib.hid (B0.out.keep hb)
    replace HB := Lib.hid (keepB HB.out hb)
    clear hb
    have cB00 := B0.out.c 0 rfl
    have cB01 := B0.out.c 1 rfl
    go_wp2_with fail
    refine (CK.out _ HA.out).mono ?_
    rintro e w2 ⟨rfl, hb⟩
    replace HA := Lib.hid (HA.out.keep hb)
    replace B0 := Lib.hid (B0.out.keep hb)
    replace HB := Lib.hid (keepB HB.out hb)
    clear cB00 cB01 hb
    go_wp2_with fail
    go_ret
    exact ⟨rfl, HB.out⟩
end Go.Proofs.Ytncmffhoodfhjaa
