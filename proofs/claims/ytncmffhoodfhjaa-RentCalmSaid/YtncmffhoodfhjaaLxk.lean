/- RentCalm's walk. -/
import Derived.Test.YtncmffhoodfhjaaLxj1
namespace Go.Proofs.Ytncmffhoodfhjaa
open Go.RowKit
set_option maxRecDepth 100000 in
set_option maxHeartbeats 8000000 in
theorem rentcalm_walk (A : Option Addr) (cv : Nat) (V : List (List Int)) (R : Int) (B : Option Addr) (ca : Nat) (xs : List Int) (C : Option Addr) (cp : Nat) (ps : List Int) (D : Int) (w : World) (hl : V.length ≤ maxLen) (h : IsM w A V) (_hR : I64 R) (hx : xs.length ≤ maxLen) (hB : IsI w B xs) (hpm : ps.length ≤ maxLen) (hC : IsI w C ps) (_hD : I64 D) :
    Calls Try.prog 7 #[.agg #[.slice A V.length cv, .int .i64 R], .agg #[.slice B xs.length ca, .slice C ps.length cp, .int .i64 D]] w fun e w' => e = .returned (.bool true) ∧ Below w.heap.size w w' := by
  have HA := Lib.hid h
  have HIB := Lib.hid hB
  have HIC := Lib.hid hC
  have cF := fun v (hv : IsM v A V) => fit15_any A cv V R v hl hv
  by_cases h0 : As.rchk V R = 0
  · have K := As.cl_ok h0
    have m1 : (As.al (As.bst V)).length = V.length := by rw [As.al_len]; exact K.hb.len
    have CF1 := Lib.hid (fun v (hv : IsM v A V) => rent_calm A cv V R v hl hv h0)
    have C2 := Lib.hid (fun X c Y d v (hv : IsM v A V) hX hY => rent_vld A cv V R _ _ _ X c Y d v hl hv h0 K hX hY)
    have c3 := fun v X c Y d (hv : IsM v A V) hX hY => r14Free_any A cv V R X c (As.al (As.bst V)) Y d (As.clP V R) (As.clD V R) v hl hv (by rw [m1]; exact hl) hX hY (K.vld h0)
    rw [m1, K.le.len, decide_eq_true (K.free h0)] at c3
    have c5 := fun v (hv : IsM v A V) hX hY => r14Valid_any A cv V R B ca xs C cp ps D v hl hv hx hX hY
    have c6 := fun (h0 : As.vld V R xs ps D = 0) v (hv : IsM v A V) hX hY => r14Free_any A cv V R B ca xs C cp ps D v hl hv hx hX hY h0
    have CW1 := Lib.hid (fun X c Y d v (hv : IsM v A V) hX hY => rent_worst A cv V R X c (As.bst V) Y d (As.clP V R) (As.clD V R) v hl hv (K.vld h0) hX hY)
    rw [decide_eq_true h0] at cF
    have CF := Lib.hid cF
    have C3 := Lib.hid c3
    have C5 := Lib.hid c5
    have C6 := Lib.hid c6
    have HK := Lib.hid K
    have HH0 := Lib.hid h0
    have HL := Lib.hid hl
    clear c3 c5 c6 cF h hB hC K
    unfold maxLen at hl hx hpm
    go_enter Try.func7, Try.ntmps7
    go_upto_region 1 with fail
    refine at_box2 (fun V0 hbb b0 b1 hsz => ?_)
    clear hsz
    replace HA := Lib.hid (HA.out.keep hbb)
    replace HIB := Lib.hid (HIB.out.keep hbb)
    replace HIC := Lib.hid (HIC.out.keep hbb)
    have HB := Lib.hid hbb
    have B0 := Lib.hid b0
    have B1 := Lib.hid b1
    clear hbb b0 b1
    go_wp2_with fail
    refine (alive15_any _).mono ?_
    rintro e w1 ⟨rfl, hb⟩
    replace HA := Lib.hid (HA.out.keep hb)
    replace HIB := Lib.hid (HIB.out.keep hb)
    replace HIC := Lib.hid (HIC.out.keep hb)
    replace B0 := Lib.hid (B0.out.keep hb)
    replace B1 := Lib.hid (B1.out.keep hb)
    replace HB := Lib.hid (keepB HB.out hb)
    clear hb
    have cB00 := B0.out.c 0 rfl
    have cB01 := B0.out.c 1 rfl
    go_wp2_with fail
    refine (CF.out _ HA.out).mono ?_
    rintro e w2 ⟨rfl, hb⟩
    replace HA := Lib.hid (HA.out.keep hb)
    replace HIB := Lib.hid (HIB.out.keep hb)
    replace HIC := Lib.hid (HIC.out.keep hb)
    replace B0 := Lib.hid (B0.out.keep hb)
    replace B1 := Lib.hid (B1.out.keep hb)
    replace HB := Lib.hid (keepB HB.out hb)
    clear cB00 cB01 hb
    clear CF
    have cB00 := B0.out.c 0 rfl
    have cB01 := B0.out.c 1 rfl
    go_wp2_with fail
    refine (CF1.out _ HA.out).mono ?_
    rintro e w3 ⟨X, c, Y, d, rfl, hX, hY, hb⟩
    replace HA := Lib.hid (HA.out.keep hb)
    replace HIB := Lib.hid (HIB.out.keep hb)
    replace HIC := Lib.hid (HIC.out.keep hb)
    replace B0 := Lib.hid (B0.out.keep hb)
    replace B1 := Lib.hid (B1.out.keep hb)
    replace HB := Lib.hid (keepB HB.out hb)
    have IX := Lib.hid hX
    have IY := Lib.hid hY
    clear cB00 cB01 hb hX hY
    clear CF1
    go_upto_region 5 with fail
    refine at_worldQ (fun v => Below w3.heap.size w3 v ∧ BK v (w3.heap.size) [.slice X V.length c, .slice Y V.length d, .int .i64 (As.clD V R)]) ⟨below_al (Below.refl _ _) _, BK.new w3 [.slice X V.length c, .slice Y V.length d, .int .i64 (As.clD V R)] 27⟩ (fun U3 hS => ?_)
    obtain ⟨hb, hB3⟩ := hS
    replace HA := Lib.hid (HA.out.keep hb)
    replace HIB := Lib.hid (HIB.out.keep hb)
    replace HIC := Lib.hid (HIC.out.keep hb)
    replace B0 := Lib.hid (B0.out.keep hb)
    replace B1 := Lib.hid (B1.out.keep hb)
    replace IX := Lib.hid (IX.out.keep hb)
    replace IY := Lib.hid (IY.out.keep hb)
    replace HB := Lib.hid (keepB HB.out hb)
    have B3 := Lib.hid hB3
    clear hb hB3
    have cB00 := B0.out.c 0 rfl
    have cB01 := B0.out.c 1 rfl
    have cB30 := B3.out.c 0 rfl
    have cB31 := B3.out.c 1 rfl
    have cB32 := B3.out.c 2 rfl
    go_wp2_with fail
    refine (C2.out X c Y d _ HA.out IX.out IY.out).mono ?_
    rintro e w4a ⟨rfl, hb⟩
    replace HA := Lib.hid (HA.out.keep hb)
    replace HIB := Lib.hid (HIB.out.keep hb)
    replace HIC := Lib.hid (HIC.out.keep hb)
    replace B0 := Lib.hid (B0.out.keep hb)
    replace B1 := Lib.hid (B1.out.keep hb)
    replace IX := Lib.hid (IX.out.keep hb)
    replace IY := Lib.hid (IY.out.keep hb)
    replace B3 := Lib.hid (B3.out.keep hb)
    replace HB := Lib.hid (keepB HB.out hb)
    clear cB00 cB01 cB30 cB31 cB32 hb
    have cB00 := B0.out.c 0 rfl
    have cB01 := B0.out.c 1 rfl
    have cB30 := B3.out.c 0 rfl
    have cB31 := B3.out.c 1 rfl
    have cB32 := B3.out.c 2 rfl
    go_wp2_with fail
    refine (C3.out _ X c Y d HA.out IX.out IY.out).mono ?_
    rintro e w4 ⟨rfl, hb⟩
    replace HA := Lib.hid (HA.out.keep hb)
    replace HIB := Lib.hid (HIB.out.keep hb)
    replace HIC := Lib.hid (HIC.out.keep hb)
    replace B0 := Lib.hid (B0.out.keep hb)
    replace B1 := Lib.hid (B1.out.keep hb)
    replace IX := Lib.hid (IX.out.keep hb)
    replace IY := Lib.hid (IY.out.keep hb)
    replace B3 := Lib.hid (B3.out.keep hb)
    replace HB := Lib.hid (keepB HB.out hb)
    clear cB00 cB01 cB30 cB31 cB32 hb
    clear C2 C3
    by_cases hp : 50 < xs.length
    · have d1 : decide ((50 : Int) < (xs.length : Int)) = true := by rw [decide_eq_true_eq]; omega
      have c0 := B0.out.c 0 rfl
      have c1 := B1.out.c 0 rfl
      have c2 := B1.out.c 1 rfl
      clear HA HIB HIC C5 C6 CW1 IX IY
      go_wp2_with fail
      go_ret
      exact ⟨rfl, HB.out⟩
    have d1 : decide ((50 : Int) < (xs.length : Int)) = false := by rw [decide_eq_false_iff_not]; omega
    by_cases hq : 50 < ps.length
    · have d2 : decide ((50 : Int) < (ps.length : Int)) = true := by rw [decide_eq_true_eq]; omega
      have c0 := B0.out.c 0 rfl
      have c1 := B1.out.c 0 rfl
      have c2 := B1.out.c 1 rfl
      clear HA HIB HIC C5 C6 CW1 IX IY
      go_wp2_with fail
      go_ret
      exact ⟨rfl, HB.out⟩
    have d2 : decide ((50 : Int) < (ps.length : Int)) = false := by rw [decide_eq_false_iff_not]; omega
    have c0 := B0.out.c 0 rfl
    have c1 := B1.out.c 0 rfl
    have c2 := B1.out.c 1 rfl
    generalize hv0 : As.vld V R xs ps D = vl0 at *
    have cB00 := B0.out.c 0 rfl
    have cB01 := B0.out.c 1 rfl
    have cB10 := B1.out.c 0 rfl
    have cB11 := B1.out.c 1 rfl
    have cB12 := B1.out.c 2 rfl
    go_wp2_with fail
    refine (C5.out _ HA.out HIB.out HIC.out).mono ?_
    rintro e w6 ⟨rfl, hb⟩
    replace HA := Lib.hid (HA.out.keep hb)
    replace HIB := Lib.hid (HIB.out.keep hb)
    replace HIC := Lib.hid (HIC.out.keep hb)
    replace B0 := Lib.hid (B0.out.keep hb)
    replace B1 := Lib.hid (B1.out.keep hb)
    replace IX := Lib.hid (IX.out.keep hb)
    replace IY := Lib.hid (IY.out.keep hb)
    replace B3 := Lib.hid (B3.out.keep hb)
    replace HB := Lib.hid (keepB HB.out hb)
    clear c0 c1 c2 cB00 cB01 cB10 cB11 cB12 hb
    clear C5 d1 d2
    by_cases hz0 : vl0 = 0
    · subst hz0
      replace C6 := Lib.hid (C6.out rfl)
      generalize hzf : decide (As.enS V R xs ps D = []) = zf at C6
      have HV0 := Lib.hid hv0
      have cB00 := B0.out.c 0 rfl
      have cB01 := B0.out.c 1 rfl
      have cB10 := B1.out.c 0 rfl
      have cB11 := B1.out.c 1 rfl
      have cB12 := B1.out.c 2 rfl
      go_wp2_with fail
      refine (C6.out _ HA.out HIB.out HIC.out).mono ?_
      rintro e w7 ⟨rfl, hb⟩
      replace HA := Lib.hid (HA.out.keep hb)
      replace HIB := Lib.hid (HIB.out.keep hb)
      replace HIC := Lib.hid (HIC.out.keep hb)
      replace B0 := Lib.hid (B0.out.keep hb)
      replace B1 := Lib.hid (B1.out.keep hb)
      replace IX := Lib.hid (IX.out.keep hb)
      replace IY := Lib.hid (IY.out.keep hb)
      replace B3 := Lib.hid (B3.out.keep hb)
      replace HB := Lib.hid (keepB HB.out hb)
      clear cB00 cB01 cB10 cB11 cB12 hb
      clear C6
      cases zf with
      | false =>
        go_wp2_with fail
        go_ret
        exact ⟨rfl, HB.out⟩
      | true =>
        have hen := of_decide_eq_true hzf
        obtain ⟨a, hxa, hL⟩ := ls_of hv0 HA.out HIB.out HIC.out
        subst hxa
        have ct : As.Cont (As.sc D V) a (As.el ps) := (As.envl_nil hL.le.perm).1 (by rw [As.enS_yes hv0] at hen; exact hen)
        have lx : (As.al a).length = V.length := by rw [As.al_len]; exact hL.la
        have lp := hL.le.len
        have K := HK.out
        have n1 := K.ok.n1
        have n6 := K.ok.n6
        obtain ⟨dd1, dd6⟩ := K.d6
        have e1 := hL.le.d1
        have e60 := hL.le.d60
        obtain ⟨x1', x2', x3', x4'⟩ := As.ls_bd K.ok K.le
        obtain ⟨y1', y2', y3', y4'⟩ := As.ls_bd K.ok hL.le
        have CW2 := Lib.hid (fun v (hv : IsM v A V) hX hY => rent_worst A cv V R B ca a C cp ps D v HL.out hv hv0 hX hY)
        have f1 := As.calm_le K hL.le ct
        have CL := Lib.hid (fun v => rless_q (a := As.gtG V a ps D) (n := D) (c := As.gtG V (As.bst V) (As.clP V R) (As.clD V R)) (d := As.clD V R) e1 (by omega) (by omega) (by omega) dd1 (by omega) (by omega) (by omega) f1 v)
        clear f1
        rw [lx, lp] at B1 ⊢
        clear K hL ct hen hzf hv0 x1' x2' x3' x4' y1' y2' y3' y4' HK HV0 HH0 hx hpm hp hq
        generalize (Rp.q (As.lsG V (As.bst V) (As.clP V R) (As.clD V R)) (As.clD V R)).num = x1 at *
        generalize ((Rp.q (As.lsG V (As.bst V) (As.clP V R) (As.clD V R)) (As.clD V R)).den : Int) = x2 at *
        generalize (Rp.q (As.gtG V (As.bst V) (As.clP V R) (As.clD V R)) (As.clD V R)).num = x3 at *
        generalize ((Rp.q (As.gtG V (As.bst V) (As.clP V R) (As.clD V R)) (As.clD V R)).den : Int) = x4 at *
        generalize (Rp.q (As.lsG V a ps D) D).num = y1 at *
        generalize ((Rp.q (As.lsG V a ps D) D).den : Int) = y2 at *
        generalize (Rp.q (As.gtG V a ps D) D).num = y3 at *
        generalize ((Rp.q (As.gtG V a ps D) D).den : Int) = y4 at *
        generalize As.clD V R = dn at *
        generalize As.clP V R = P at *
        have cB00 := B0.out.c 0 rfl
        have cB01 := B0.out.c 1 rfl
        have cB30 := B3.out.c 0 rfl
        have cB31 := B3.out.c 1 rfl
        have cB32 := B3.out.c 2 rfl
        go_wp2_with fail
        refine (CW1.out X c Y d _ HA.out IX.out IY.out).mono ?_
        rintro e w8 ⟨rfl, hb⟩
        replace HA := Lib.hid (HA.out.keep hb)
        replace HIB := Lib.hid (HIB.out.keep hb)
        replace HIC := Lib.hid (HIC.out.keep hb)
        replace B0 := Lib.hid (B0.out.keep hb)
        replace B1 := Lib.hid (B1.out.keep hb)
        replace IX := Lib.hid (IX.out.keep hb)
        replace IY := Lib.hid (IY.out.keep hb)
        replace B3 := Lib.hid (B3.out.keep hb)
        replace HB := Lib.hid (keepB HB.out hb)
        clear cB00 cB01 cB30 cB31 cB32 hb
        clear CW1
        go_upto_region 10 with fail
        refine at_worldQ (fun v => Below w8.heap.size w8 v ∧ BK v (w8.heap.size) [.int .i64 x1, .int .i64 x2] ∧ BK v (w8.heap.size + 1) [.int .i64 x3, .int .i64 x4]) ⟨below_al (below_al (Below.refl _ _) _) _, ((BK.new w8 [.int .i64 x1, .int .i64 x2] 31).al _), (bkAtL (BK.new (w8.alloc (.cells #[.int .i64 x1, .int .i64 x2] 31)) [.int .i64 x3, .int .i64 x4] 31) (by simp only [World.size_alloc]))⟩ (fun U8 hS => ?_)
        obtain ⟨hb, hBX1, hBX2⟩ := hS
        replace HA := Lib.hid (HA.out.keep hb)
        replace HIB := Lib.hid (HIB.out.keep hb)
        replace HIC := Lib.hid (HIC.out.keep hb)
        replace B0 := Lib.hid (B0.out.keep hb)
        replace B1 := Lib.hid (B1.out.keep hb)
        replace IX := Lib.hid (IX.out.keep hb)
        replace IY := Lib.hid (IY.out.keep hb)
        replace B3 := Lib.hid (B3.out.keep hb)
        replace HB := Lib.hid (keepB HB.out hb)
        have BX1 := Lib.hid hBX1
        have BX2 := Lib.hid hBX2
        clear hb hBX1 hBX2
        have cB00 := B0.out.c 0 rfl
        have cB01 := B0.out.c 1 rfl
        have cB10 := B1.out.c 0 rfl
        have cB11 := B1.out.c 1 rfl
        have cB12 := B1.out.c 2 rfl
        go_wp2_with fail
        refine (CW2.out _ HA.out HIB.out HIC.out).mono ?_
        rintro e w9 ⟨rfl, hb⟩
        replace HA := Lib.hid (HA.out.keep hb)
        replace HIB := Lib.hid (HIB.out.keep hb)
        replace HIC := Lib.hid (HIC.out.keep hb)
        replace B0 := Lib.hid (B0.out.keep hb)
        replace B1 := Lib.hid (B1.out.keep hb)
        replace IX := Lib.hid (IX.out.keep hb)
        replace IY := Lib.hid (IY.out.keep hb)
        replace B3 := Lib.hid (B3.out.keep hb)
        replace BX1 := Lib.hid (BX1.out.keep hb)
        replace BX2 := Lib.hid (BX2.out.keep hb)
        replace HB := Lib.hid (keepB HB.out hb)
        clear cB00 cB01 cB10 cB11 cB12 hb
        clear CW2
        go_upto_region 11 with fail
        refine at_worldQ (fun v => Below w9.heap.size w9 v ∧ BK v (w9.heap.size) [.int .i64 y1, .int .i64 y2] ∧ BK v (w9.heap.size + 1) [.int .i64 y3, .int .i64 y4]) ⟨below_al (below_al (Below.refl _ _) _) _, ((BK.new w9 [.int .i64 y1, .int .i64 y2] 31).al _), (bkAtL (BK.new (w9.alloc (.cells #[.int .i64 y1, .int .i64 y2] 31)) [.int .i64 y3, .int .i64 y4] 31) (by simp only [World.size_alloc]))⟩ (fun U9 hS => ?_)
        obtain ⟨hb, hBY1, hBY2⟩ := hS
        replace HA := Lib.hid (HA.out.keep hb)
        replace HIB := Lib.hid (HIB.out.keep hb)
        replace HIC := Lib.hid (HIC.out.keep hb)
        replace B0 := Lib.hid (B0.out.keep hb)
        replace B1 := Lib.hid (B1.out.keep hb)
        replace IX := Lib.hid (IX.out.keep hb)
        replace IY := Lib.hid (IY.out.keep hb)
        replace B3 := Lib.hid (B3.out.keep hb)
        replace BX1 := Lib.hid (BX1.out.keep hb)
        replace BX2 := Lib.hid (BX2.out.keep hb)
        replace HB := Lib.hid (keepB HB.out hb)
        have BY1 := Lib.hid hBY1
        have BY2 := Lib.hid hBY2
        clear hb hBY1 hBY2
        have cBX20 := BX2.out.c 0 rfl
        have cBX21 := BX2.out.c 1 rfl
        have cBY20 := BY2.out.c 0 rfl
        have cBY21 := BY2.out.c 1 rfl
        go_wp2_with fail
        refine (CL.out _).mono ?_
        rintro e w10 ⟨rfl, hb⟩
        replace HA := Lib.hid (HA.out.keep hb)
        replace HIB := Lib.hid (HIB.out.keep hb)
        replace HIC := Lib.hid (HIC.out.keep hb)
        replace B0 := Lib.hid (B0.out.keep hb)
        replace B1 := Lib.hid (B1.out.keep hb)
        replace IX := Lib.hid (IX.out.keep hb)
        replace IY := Lib.hid (IY.out.keep hb)
        replace B3 := Lib.hid (B3.out.keep hb)
        replace BX1 := Lib.hid (BX1.out.keep hb)
        replace BX2 := Lib.hid (BX2.out.keep hb)
        replace BY1 := Lib.hid (BY1.out.keep hb)
        replace BY2 := Lib.hid (BY2.out.keep hb)
        replace HB := Lib.hid (keepB HB.out hb)
        clear cBX20 cBX21 cBY20 cBY21 hb
        go_wp2_with fail
        go_ret
        exact ⟨rfl, HB.out⟩
    · have d3 : (vl0 != 0) = true := by rw [bne_iff_ne]; exact hz0
      have c0 := B0.out.c 0 rfl
      clear HA HIB HIC C6 IX IY CW1
      go_wp2_with fail
      go_ret
      exact ⟨rfl, HB.out⟩
  · rw [decide_eq_false h0] at cF
    have CF := Lib.hid cF
    clear cF h hB hC HIB HIC
    unfold maxLen at hl hx hpm
    go_enter Try.func7, Try.ntmps7
    go_upto_region 1 with fail
    refine at_box2 (fun V0 hbb b0 b1 hsz => ?_)
    clear hsz b1
    replace HA := Lib.hid (HA.out.keep hbb)
    have HB := Lib.hid hbb
    have B0 := Lib.hid b0
    clear hbb b0
    go_wp2_with fail
    refine (alive15_any _).mono ?_
    rintro e w1 ⟨rfl, hb⟩
    replace HA := Lib.hid (HA.out.keep hb)
    replace B0 := Lib.hid (B0.out.keep hb)
    replace HB := Lib.hid (keepB HB.out hb)
    clear hb
    have cB00 := B0.out.c 0 rfl
    have cB01 := B0.out.c 1 rfl
    go_wp2_with fail
    refine (CF.out _ HA.out).mono ?_
    rintro e w2 ⟨rfl, hb⟩
    replace HA := Lib.hid (HA.out.keep hb)
    replace B0 := Lib.hid (B0.out.keep hb)
    replace HB := Lib.hid (keepB HB.out hb)
    clear cB00 cB01 hb
    go_wp2_with fail
    go_ret
    exact ⟨rfl, HB.out⟩
end Go.Proofs.Ytncmffhoodfhjaa
