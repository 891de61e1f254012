/- RentBest's walk. -/
import Derived.Test.YtncmffhoodfhjaaLxj1
namespace Go.Proofs.Ytncmffhoodfhjaa
open Go.RowKit
theorem mul_bd15 {x d a b : Int} (h0 : -a ≤ x) (h1 : x ≤ a) (d0 : 0 ≤ d) (d1 : d ≤ b) (ha : 0 ≤ a) : -(a * b) ≤ x * d ∧ x * d ≤ a * b := by
  have k1 : x * d ≤ a * d := Int.mul_le_mul_of_nonneg_right h1 d0
  have k2 : a * d ≤ a * b := Int.mul_le_mul_of_nonneg_left d1 ha
  have k3 : (-a) * d ≤ x * d := Int.mul_le_mul_of_nonneg_right h0 d0
  rw [Int.neg_mul] at k3
  omega
set_option maxRecDepth 100000 in
set_option maxHeartbeats 8000000 in
theorem rentbest_walk (A : Option Addr) (cv : Nat) (V : List (List Int)) (R : Int) (B : Option Addr) (ca : Nat) (xs : List Int) (C : Option Addr) (cp : Nat) (ps : List Int) (D : Int) (w : World) (hl : V.length ≤ maxLen) (h : IsM w A V) (_hR : I64 R) (hx : xs.length ≤ maxLen) (hB : IsI w B xs) (hpm : ps.length ≤ maxLen) (hC : IsI w C ps) (_hD : I64 D) :
    Calls Try.prog 6 #[.agg #[.slice A V.length cv, .int .i64 R], .agg #[.slice B xs.length ca, .slice C ps.length cp, .int .i64 D]] w fun e w' => e = .returned (.bool true) ∧ Below w.heap.size w w' := by
  have HA := Lib.hid h
  have HIB := Lib.hid hB
  have HIC := Lib.hid hC
  have cF := fun v (hv : IsM v A V) => fit15_any A cv V R v hl hv
  by_cases h0 : As.rchk V R = 0
  · have K := As.fr_ok h0
    have m1 : (As.al (As.bst V)).length = V.length := by rw [As.al_len]; exact K.hb.len
    have CF1 := Lib.hid (fun v (hv : IsM v A V) => rent_fair A cv V R v hl hv h0)
    have C2 := Lib.hid (fun X c Y d v (hv : IsM v A V) hX hY => rent_vld A cv V R _ _ _ X c Y d v hl hv h0 K hX hY)
    have c3 := fun v X c Y d (hv : IsM v A V) hX hY => r14Free_any A cv V R X c (As.al (As.bst V)) Y d (As.frP V R) (As.frD V R) v hl hv (by rw [m1]; exact hl) hX hY (K.vld h0)
    rw [m1, K.le.len, decide_eq_true (K.free h0)] at c3
    have c5 := fun v (hv : IsM v A V) hX hY => r14Valid_any A cv V R B ca xs C cp ps D v hl hv hx hX hY
    have c6 := fun (h0 : As.vld V R xs ps D = 0) v (hv : IsM v A V) hX hY => r14Free_any A cv V R B ca xs C cp ps D v hl hv hx hX hY h0
    have CW1 := Lib.hid (fun X c Y d v (hv : IsM v A V) hX hY => rent_worst A cv V R X c (As.bst V) Y d (As.frP V R) (As.frD V R) v hl hv (K.vld h0) hX hY)
    rw [decide_eq_true h0] at cF
    have CF := Lib.hid cF
    have C3 := Lib.hid c3
    have C5 := Lib.hid c5
    have C6 := Lib.hid c6
    have HK := Lib.hid K
    have HH0 := Lib.hid h0
    have HL := Lib.hid hl
    clear c3 c5 c6 cF h hB hC K
    unfold maxLen at hl hx hpm
    go_enter Try.func6, Try.ntmps6
    go_upto_region 1 with fail
    refine at_box2 (fun V0 hbb b0 b1 hsz => ?_)
    clear hsz
    replace HA := Lib.hid (HA.out.keep hbb)
    replace HIB := Lib.hid (HIB.out.keep hbb)
    replace HIC := Lib.hid (HIC.out.keep hbb)
    have HB := Lib.hid hbb
    have B0 := Lib.hid b0
    have B1 := Lib.hid b1
    clear hbb b0 b1
    go_wp2_with fail
    refine (alive15_any _).mono ?_
    rintro e w1 ⟨rfl, hb⟩
    replace HA := Lib.hid (HA.out.keep hb)
    replace HIB := Lib.hid (HIB.out.keep hb)
    replace HIC := Lib.hid (HIC.out.keep hb)
    replace B0 := Lib.hid (B0.out.keep hb)
    replace B1 := Lib.hid (B1.out.keep hb)
    replace HB := Lib.hid (keepB HB.out hb)
    clear hb
    have cB00 := B0.out.c 0 rfl
    have cB01 := B0.out.c 1 rfl
    go_wp2_with fail
    refine (CF.out _ HA.out).mono ?_
    rintro e w2 ⟨rfl, hb⟩
    replace HA := Lib.hid (HA.out.keep hb)
    replace HIB := Lib.hid (HIB.out.keep hb)
    replace HIC := Lib.hid (HIC.out.keep hb)
    replace B0 := Lib.hid (B0.out.keep hb)
    replace B1 := Lib.hid (B1.out.keep hb)
    replace HB := Lib.hid (keepB HB.out hb)
    clear cB00 cB01 hb
    clear CF
    have cB00 := B0.out.c 0 rfl
    have cB01 := B0.out.c 1 rfl
    go_wp2_with fail
    refine (CF1.out _ HA.out).mono ?_
    rintro e w3 ⟨X, c, Y, d, rfl, hX, hY, hb⟩
    replace HA := Lib.hid (HA.out.keep hb)
    replace HIB := Lib.hid (HIB.out.keep hb)
    replace HIC := Lib.hid (HIC.out.keep hb)
    replace B0 := Lib.hid (B0.out.keep hb)
    replace B1 := Lib.hid (B1.out.keep hb)
    replace HB := Lib.hid (keepB HB.out hb)
    have IX := Lib.hid hX
    have IY := Lib.hid hY
    clear cB00 cB01 hb hX hY
    clear CF1
    go_upto_region 5 with fail
    refine at_worldQ (fun v => Below w3.heap.size w3 v ∧ BK v (w3.heap.size) [.slice X V.length c, .slice Y V.length d, .int .i64 (As.frD V R)]) ⟨below_al (Below.refl _ _) _, BK.new w3 [.slice X V.length c, .slice Y V.length d, .int .i64 (As.frD V R)] 27⟩ (fun U3 hS => ?_)
    obtain ⟨hb, hB3⟩ := hS
    replace HA := Lib.hid (HA.out.keep hb)
    replace HIB := Lib.hid (HIB.out.keep hb)
    replace HIC := Lib.hid (HIC.out.keep hb)
    replace B0 := Lib.hid (B0.out.keep hb)
    replace B1 := Lib.hid (B1.out.keep hb)
    replace IX := Lib.hid (IX.out.keep hb)
    replace IY := Lib.hid (IY.out.keep hb)
    replace HB := Lib.hid (keepB HB.out hb)
    have B3 := Lib.hid hB3
    clear hb hB3
    have cB00 := B0.out.c 0 rfl
    have cB01 := B0.out.c 1 rfl
    have cB30 := B3.out.c 0 rfl
    have cB31 := B3.out.c 1 rfl
    have cB32 := B3.out.c 2 rfl
    go_wp2_with fail
    refine (C2.out X c Y d _ HA.out IX.out IY.out).mono ?_
    rintro e w4a ⟨rfl, hb⟩
    replace HA := Lib.hid (HA.out.keep hb)
    replace HIB := Lib.hid (HIB.out.keep hb)
    replace HIC := Lib.hid (HIC.out.keep hb)
    replace B0 := Lib.hid (B0.out.keep hb)
    replace B1 := Lib.hid (B1.out.keep hb)
    replace IX := Lib.hid (IX.out.keep hb)
    replace IY := Lib.hid (IY.out.keep hb)
    replace B3 := Lib.hid (B3.out.keep hb)
    replace HB := Lib.hid (keepB HB.out hb)
    clear cB00 cB01 cB30 cB31 cB32 hb
    have cB00 := B0.out.c 0 rfl
    have cB01 := B0.out.c 1 rfl
    have cB30 := B3.out.c 0 rfl
    have cB31 := B3.out.c 1 rfl
    have cB32 := B3.out.c 2 rfl
    go_wp2_with fail
    refine (C3.out _ X c Y d HA.out IX.out IY.out).mono ?_
    rintro e w4 ⟨rfl, hb⟩
    replace HA := Lib.hid (HA.out.keep hb)
    replace HIB := Lib.hid (HIB.out.keep hb)
    replace HIC := Lib.hid (HIC.out.keep hb)
    replace B0 := Lib.hid (B0.out.keep hb)
    replace B1 := Lib.hid (B1.out.keep hb)
    replace IX := Lib.hid (IX.out.keep hb)
    replace IY := Lib.hid (IY.out.keep hb)
    replace B3 := Lib.hid (B3.out.keep hb)
    replace HB := Lib.hid (keepB HB.out hb)
    clear cB00 cB01 cB30 cB31 cB32 hb
    clear C2 C3
    by_cases hp : 50 < xs.length
    · have d1 : decide ((50 : Int) < (xs.length : Int)) = true := by rw [decide_eq_true_eq]; omega
      have c0 := B0.out.c 0 rfl
      have c1 := B1.out.c 0 rfl
      have c2 := B1.out.c 1 rfl
      clear HA HIB HIC C5 C6 CW1 IX IY
      go_wp2_with fail
      go_ret
      exact ⟨rfl, HB.out⟩
    have d1 : decide ((50 : Int) < (xs.length : Int)) = false := by rw [decide_eq_false_iff_not]; omega
    by_cases hq : 50 < ps.length
    · have d2 : decide ((50 : Int) < (ps.length : Int)) = true := by rw [decide_eq_true_eq]; omega
      have c0 := B0.out.c 0 rfl
      have c1 := B1.out.c 0 rfl
      have c2 := B1.out.c 1 rfl
      clear HA HIB HIC C5 C6 CW1 IX IY
      go_wp2_with fail
      go_ret
      exact ⟨rfl, HB.out⟩
    have d2 : decide ((50 : Int) < (ps.length : Int)) = false := by rw [decide_eq_false_iff_not]; omega
    have c0 := B0.out.c 0 rfl
    have c1 := B1.out.c 0 rfl
    have c2 := B1.out.c 1 rfl
    generalize hv0 : As.vld V R xs ps D = vl0 at *
    have cB00 := B0.out.c 0 rfl
    have cB01 := B0.out.c 1 rfl
    have cB10 := B1.out.c 0 rfl
    have cB11 := B1.out.c 1 rfl
    have cB12 := B1.out.c 2 rfl
    go_wp2_with fail
    refine (C5.out _ HA.out HIB.out HIC.out).mono ?_
    rintro e w6 ⟨rfl, hb⟩
    replace HA := Lib.hid (HA.out.keep hb)
    replace HIB := Lib.hid (HIB.out.keep hb)
    replace HIC := Lib.hid (HIC.out.keep hb)
    replace B0 := Lib.hid (B0.out.keep hb)
    replace B1 := Lib.hid (B1.out.keep hb)
    replace IX := Lib.hid (IX.out.keep hb)
    replace IY := Lib.hid (IY.out.keep hb)
    replace B3 := Lib.hid (B3.out.keep hb)
    replace HB := Lib.hid (keepB HB.out hb)
    clear c0 c1 c2 cB00 cB01 cB10 cB11 cB12 hb
    clear C5 d1 d2
    by_cases hz0 : vl0 = 0
    · subst hz0
      replace C6 := Lib.hid (C6.out rfl)
      generalize hzf : decide (As.enS V R xs ps D = []) = zf at C6
      have HV0 := Lib.hid hv0
      have cB00 := B0.out.c 0 rfl
      have cB01 := B0.out.c 1 rfl
      have cB10 := B1.out.c 0 rfl
      have cB11 := B1.out.c 1 rfl
      have cB12 := B1.out.c 2 rfl
      go_wp2_with fail
      refine (C6.out _ HA.out HIB.out HIC.out).mono ?_
      rintro e w7 ⟨rfl, hb⟩
      replace HA := Lib.hid (HA.out.keep hb)
      replace HIB := Lib.hid (HIB.out.keep hb)
      replace HIC := Lib.hid (HIC.out.keep hb)
      replace B0 := Lib.hid (B0.out.keep hb)
      replace B1 := Lib.hid (B1.out.keep hb)
      replace IX := Lib.hid (IX.out.keep hb)
      replace IY := Lib.hid (IY.out.keep hb)
      replace B3 := Lib.hid (B3.out.keep hb)
      replace HB := Lib.hid (keepB HB.out hb)
      clear cB00 cB01 cB10 cB11 cB12 hb
      clear C6
      cases zf with
      | false =>
        go_wp2_with fail
        go_ret
        exact ⟨rfl, HB.out⟩
      | true =>
        have hen := of_decide_eq_true hzf
        obtain ⟨a, hxa, hL⟩ := ls_of hv0 HA.out HIB.out HIC.out
        subst hxa
        have ct : As.Cont (As.sc D V) a (As.el ps) := (As.envl_nil hL.le.perm).1 (by rw [As.enS_yes hv0] at hen; exact hen)
        have lx : (As.al a).length = V.length := by rw [As.al_len]; exact hL.la
        have lp := hL.le.len
        have K := HK.out
        have n1 := K.ok.n1
        have n6 := K.ok.n6
        obtain ⟨dd1, dd6⟩ := K.d6
        have e1 := hL.le.d1
        have e60 := hL.le.d60
        obtain ⟨x1', x2', x3', x4'⟩ := As.ls_bd K.ok K.le
        obtain ⟨y1', y2', y3', y4'⟩ := As.ls_bd K.ok hL.le
        have CW2 := Lib.hid (fun v (hv : IsM v A V) hX hY => rent_worst A cv V R B ca a C cp ps D v HL.out hv hv0 hX hY)
        obtain ⟨f1, f2⟩ := As.fair_le K hL.le ct
        have CL := Lib.hid (fun v => rless_q (a := As.lsG V (As.bst V) (As.frP V R) (As.frD V R)) (n := As.frD V R) (c := As.lsG V a ps D) (d := D) dd1 (by omega) (by omega) (by omega) e1 (by omega) (by omega) (by omega) f1 v)
        have HEQ := Lib.hid (show (Rp.q (As.lsG V (As.bst V) (As.frP V R) (As.frD V R)) (As.frD V R)).num = (Rp.q (As.lsG V a ps D) D).num → ((Rp.q (As.lsG V (As.bst V) (As.frP V R) (As.frD V R)) (As.frD V R)).den : Int) = ((Rp.q (As.lsG V a ps D) D).den : Int) → ∀ i, i < V.length → As.gnF V ps D i (a.getD i 0) * As.frD V R = As.gnF V (As.frP V R) (As.frD V R) i ((As.bst V).getD i 0) * D from fun h1 h2 => f2 ((Rp.q_eq_iff dd1 e1).1 (Rp.num_den_inj h1 h2)))
        have HGB1 := Lib.hid (fun i (hi : i < V.length) => As.gnF_bd K.ok hL.le i (hL.lt hi))
        have HLT := Lib.hid (fun i (hi : i < V.length) => hL.lt hi)
        have HBL := Lib.hid (fun i (hi : i < V.length) => As.own_lt K.hb hi)
        have HGB2 := Lib.hid (fun i (hi : i < V.length) => As.gnF_bd K.ok K.le i (As.own_lt K.hb hi))
        have CG1 := Lib.hid (fun v i (hi : i < V.length) (hv : IsM v A V) hX hY => rGain_any A cv V R B ca a C cp ps D i (a.getD i 0) v ⟨K.ok, K.r0, K.r1, hL.le, hv, hX, hY⟩ hi (hL.lt hi))
        have CG2 := Lib.hid (fun v X c Y d i (hi : i < V.length) (hv : IsM v A V) hX hY => rGain_any A cv V R X c (As.bst V) Y d (As.frP V R) (As.frD V R) i ((As.bst V).getD i 0) v ⟨K.ok, K.r0, K.r1, K.le, hv, hX, hY⟩ hi (As.own_lt K.hb hi))
        have LB := Lib.hid (show (As.al (As.bst V)).length = V.length by rw [As.al_len]; exact K.hb.len)
        have LA := Lib.hid lx
        clear f1 f2
        rw [lx, lp] at B1 ⊢
        clear K hL ct hen hzf hv0 x1' x2' x3' x4' y1' y2' y3' y4' HK HV0 HH0 hx hpm hp hq
        generalize (Rp.q (As.lsG V (As.bst V) (As.frP V R) (As.frD V R)) (As.frD V R)).num = x1 at *
        generalize ((Rp.q (As.lsG V (As.bst V) (As.frP V R) (As.frD V R)) (As.frD V R)).den : Int) = x2 at *
        generalize (Rp.q (As.gtG V (As.bst V) (As.frP V R) (As.frD V R)) (As.frD V R)).num = x3 at *
        generalize ((Rp.q (As.gtG V (As.bst V) (As.frP V R) (As.frD V R)) (As.frD V R)).den : Int) = x4 at *
        generalize (Rp.q (As.lsG V a ps D) D).num = y1 at *
        generalize ((Rp.q (As.lsG V a ps D) D).den : Int) = y2 at *
        generalize (Rp.q (As.gtG V a ps D) D).num = y3 at *
        generalize ((Rp.q (As.gtG V a ps D) D).den : Int) = y4 at *
        generalize As.frD V R = dn at *
        generalize As.frP V R = P at *
        have cB00 := B0.out.c 0 rfl
        have cB01 := B0.out.c 1 rfl
        have cB30 := B3.out.c 0 rfl
        have cB31 := B3.out.c 1 rfl
        have cB32 := B3.out.c 2 rfl
        go_wp2_with fail
        refine (CW1.out X c Y d _ HA.out IX.out IY.out).mono ?_
        rintro e w8 ⟨rfl, hb⟩
        replace HA := Lib.hid (HA.out.keep hb)
        replace HIB := Lib.hid (HIB.out.keep hb)
        replace HIC := Lib.hid (HIC.out.keep hb)
        replace B0 := Lib.hid (B0.out.keep hb)
        replace B1 := Lib.hid (B1.out.keep hb)
        replace IX := Lib.hid (IX.out.keep hb)
        replace IY := Lib.hid (IY.out.keep hb)
        replace B3 := Lib.hid (B3.out.keep hb)
        replace HB := Lib.hid (keepB HB.out hb)
        clear cB00 cB01 cB30 cB31 cB32 hb
        clear CW1
        go_upto_region 10 with fail
        refine at_worldQ (fun v => Below w8.heap.size w8 v ∧ BK v (w8.heap.size) [.int .i64 x1, .int .i64 x2] ∧ BK v (w8.heap.size + 1) [.int .i64 x3, .int .i64 x4]) ⟨below_al (below_al (Below.refl _ _) _) _, ((BK.new w8 [.int .i64 x1, .int .i64 x2] 31).al _), (bkAtL (BK.new (w8.alloc (.cells #[.int .i64 x1, .int .i64 x2] 31)) [.int .i64 x3, .int .i64 x4] 31) (by simp only [World.size_alloc]))⟩ (fun U8 hS => ?_)
        obtain ⟨hb, hBX1, hBX2⟩ := hS
        replace HA := Lib.hid (HA.out.keep hb)
        replace HIB := Lib.hid (HIB.out.keep hb)
        replace HIC := Lib.hid (HIC.out.keep hb)
        replace B0 := Lib.hid (B0.out.keep hb)
        replace B1 := Lib.hid (B1.out.keep hb)
        replace IX := Lib.hid (IX.out.keep hb)
        replace IY := Lib.hid (IY.out.keep hb)
        replace B3 := Lib.hid (B3.out.keep hb)
        replace HB := Lib.hid (keepB HB.out hb)
        have BX1 := Lib.hid hBX1
        have BX2 := Lib.hid hBX2
        clear hb hBX1 hBX2
        have cB00 := B0.out.c 0 rfl
        have cB01 := B0.out.c 1 rfl
        have cB10 := B1.out.c 0 rfl
        have cB11 := B1.out.c 1 rfl
        have cB12 := B1.out.c 2 rfl
        go_wp2_with fail
        refine (CW2.out _ HA.out HIB.out HIC.out).mono ?_
        rintro e w9 ⟨rfl, hb⟩
        replace HA := Lib.hid (HA.out.keep hb)
        replace HIB := Lib.hid (HIB.out.keep hb)
        replace HIC := Lib.hid (HIC.out.keep hb)
        replace B0 := Lib.hid (B0.out.keep hb)
        replace B1 := Lib.hid (B1.out.keep hb)
        replace IX := Lib.hid (IX.out.keep hb)
        replace IY := Lib.hid (IY.out.keep hb)
        replace B3 := Lib.hid (B3.out.keep hb)
        replace BX1 := Lib.hid (BX1.out.keep hb)
        replace BX2 := Lib.hid (BX2.out.keep hb)
        replace HB := Lib.hid (keepB HB.out hb)
        clear cB00 cB01 cB10 cB11 cB12 hb
        clear CW2
        go_upto_region 11 with fail
        refine at_worldQ (fun v => Below w9.heap.size w9 v ∧ BK v (w9.heap.size) [.int .i64 y1, .int .i64 y2] ∧ BK v (w9.heap.size + 1) [.int .i64 y3, .int .i64 y4]) ⟨below_al (below_al (Below.refl _ _) _) _, ((BK.new w9 [.int .i64 y1, .int .i64 y2] 31).al _), (bkAtL (BK.new (w9.alloc (.cells #[.int .i64 y1, .int .i64 y2] 31)) [.int .i64 y3, .int .i64 y4] 31) (by simp only [World.size_alloc]))⟩ (fun U9 hS => ?_)
        obtain ⟨hb, hBY1, hBY2⟩ := hS
        replace HA := Lib.hid (HA.out.keep hb)
        replace HIB := Lib.hid (HIB.out.keep hb)
        replace HIC := Lib.hid (HIC.out.keep hb)
        replace B0 := Lib.hid (B0.out.keep hb)
        replace B1 := Lib.hid (B1.out.keep hb)
        replace IX := Lib.hid (IX.out.keep hb)
        replace IY := Lib.hid (IY.out.keep hb)
        replace B3 := Lib.hid (B3.out.keep hb)
        replace BX1 := Lib.hid (BX1.out.keep hb)
        replace BX2 := Lib.hid (BX2.out.keep hb)
        replace HB := Lib.hid (keepB HB.out hb)
        have BY1 := Lib.hid hBY1
        have BY2 := Lib.hid hBY2
        clear hb hBY1 hBY2
        have cBX10 := BX1.out.c 0 rfl
        have cBX11 := BX1.out.c 1 rfl
        have cBY10 := BY1.out.c 0 rfl
        have cBY11 := BY1.out.c 1 rfl
        go_wp2_with fail
        refine (CL.out _).mono ?_
        rintro e w10 ⟨rfl, hb⟩
        replace HA := Lib.hid (HA.out.keep hb)
        replace HIB := Lib.hid (HIB.out.keep hb)
        replace HIC := Lib.hid (HIC.out.keep hb)
        replace B0 := Lib.hid (B0.out.keep hb)
        replace B1 := Lib.hid (B1.out.keep hb)
        replace IX := Lib.hid (IX.out.keep hb)
        replace IY := Lib.hid (IY.out.keep hb)
        replace B3 := Lib.hid (B3.out.keep hb)
        replace BX1 := Lib.hid (BX1.out.keep hb)
        replace BX2 := Lib.hid (BX2.out.keep hb)
        replace BY1 := Lib.hid (BY1.out.keep hb)
        replace BY2 := Lib.hid (BY2.out.keep hb)
        replace HB := Lib.hid (keepB HB.out hb)
        clear cBX10 cBX11 cBY10 cBY11 hb
        have cBX10 := BX1.out.c 0 rfl
        have cBX11 := BX1.out.c 1 rfl
        have cBY10 := BY1.out.c 0 rfl
        have cBY11 := BY1.out.c 1 rfl
        have cB00 := B0.out.c 0 rfl
        have cB01 := B0.out.c 1 rfl
        clear CL
        by_cases hn1 : x1 = y1
        · by_cases hn2 : x2 = y2
          · subst hn1 hn2
            have HG := Lib.hid (HEQ.out rfl rfl)
            clear HEQ
            go_wp2_with fail
            clear cBX10 cBX11 cBY10 cBY11 cB00 cB01
            go_loopw [14] (fun i W => ∃ k : Nat, k ≤ V.length ∧ i = .int .i64 k ∧ Hid (Below w10.heap.size w10 W)) (fun i _ => V.length - (intOf i).toNat)
            case atStart => exact ⟨0, Nat.zero_le _, rfl, Lib.hid (Below.refl _ _)⟩
            case round =>
              obtain ⟨k, hk, rfl, HW⟩ := hrel
              have g0 := (B0.out.keep HW.out).c 0 rfl
              have g1 := (B0.out.keep HW.out).c 1 rfl
              by_cases hlt : k < V.length
              · have g2 := (B1.out.keep HW.out).c 0 rfl
                have g3 := (B1.out.keep HW.out).c 1 rfl
                have g4 := (B1.out.keep HW.out).c 2 rfl
                have g5 := (B3.out.keep HW.out).c 0 rfl
                have g6 := (B3.out.keep HW.out).c 1 rfl
                have g7 := (B3.out.keep HW.out).c 2 rfl
                obtain ⟨q1, o1, hq1, hy1⟩ := list_at (HIB.out.keep HW.out) (j := k) (by rw [LA.out]; exact hlt)
                obtain ⟨q2, o2, hq2, hy2⟩ := list_at (IX.out.keep HW.out) (j := k) (by rw [LB.out]; exact hlt)
                subst hq1
                subst hq2
                have z1 := hy1 k (by rw [LA.out]; exact hlt)
                have z2 := hy2 k (by rw [LB.out]; exact hlt)
                rw [As.el_al] at z1 z2
                have CGa := Lib.hid (fun v (hv : Below wr.heap.size wr v) => CG1.out v k hlt ((HA.out.keep HW.out).keep hv) ((HIB.out.keep HW.out).keep hv) ((HIC.out.keep HW.out).keep hv))
                have CGb := Lib.hid (fun v (hv : Below wr.heap.size wr v) => CG2.out v _ c Y d k hlt ((HA.out.keep HW.out).keep hv) ((IX.out.keep HW.out).keep hv) ((IY.out.keep HW.out).keep hv))
                have m1 := HG.out k hlt
                obtain ⟨r1, r2⟩ := HGB1.out k hlt
                obtain ⟨r3, r4⟩ := HGB2.out k hlt
                have j1 := HLT.out k hlt
                have j2 := HBL.out k hlt
                clear hy1 hy2
                generalize As.gnF V ps D k (a.getD k 0) = ga at *
                generalize As.gnF V P dn k ((As.bst V).getD k 0) = gb at *
                generalize a.getD k 0 = ja at *
                generalize (As.bst V).getD k 0 = jb at *
                obtain ⟨t1, ht1⟩ : ∃ z, ga * dn = z := ⟨_, rfl⟩
                have bnd := mul_bd15 (x := ga) (d := dn) (a := 660000000) (b := 6) (by omega) (by omega) (by omega) (by omega) (by omega)
                have a1 : IntKind.i64.wrap (ga * dn) = t1 := by rw [ht1]; exact IntWalk.i64_in _ (by omega)
                have a2 : IntKind.i64.wrap (gb * D) = t1 := by rw [← m1, ht1]; exact IntWalk.i64_in _ (by omega)
                have n1' : (t1 != t1) = false := bne_self_eq_false _
                have i1 : (k : Int) < (V.length : Int) := by omega
                clear m1 ht1 bnd r1 r2 r3 r4 dd1 dd6 e1 e60
                go_wp2_with fail
                go_upto_region 18 with fail
                refine wp_region_noPanic ?_
                refine wp_region_held_drew (S := (Below wr.heap.size wr)) (by kernel_rfl) ((Below.refl _ _).drew) (fun hHeld => ?_)
                refine at_anyH (Below wr.heap.size wr) hHeld (fun wr0 hNew => ?_)
                clear hHeld
                have hHeld := hNew
                clear hNew
                have KCr := fun (w : World) (hSw : (Below wr.heap.size wr) w) => And.intro (keepC hSw z1) (And.intro (keepC hSw z2) (And.intro (keepC hSw g0) (And.intro (keepC hSw g1) (And.intro (keepC hSw g2) (And.intro (keepC hSw g3) (And.intro (keepC hSw g4) (And.intro (keepC hSw g5) (And.intro (keepC hSw g6) (keepC hSw g7)))))))))
                refine tkm 0 rfl hHeld (fun w hSw => by have kc := KCr w hSw; go_simp <;> with_reducible rfl) ?_
                try simp only [PPz]
                refine tkm 1 rfl hHeld (fun w hSw => by have kc := KCr w hSw; go_simp <;> with_reducible rfl) ?_
                try simp only [PPz]
                refine tkd 2 ?_
                try simp only [PPz]
                refine tkd 3 ?_
                try simp only [PPz]
                refine tkm 4 rfl hHeld (fun w hSw => by have kc := KCr w hSw; go_simp <;> with_reducible rfl) ?_
                try simp only [PPz]
                refine tkd 5 ?_
                try simp only [PPz]
                refine tkd 6 ?_
                try simp only [PPz]
                refine tkm 7 rfl hHeld (fun w hSw => by have kc := KCr w hSw; go_simp <;> with_reducible rfl) ?_
                try simp only [PPz]
                refine tkd 9 ?_
                try simp only [PPz]
                refine tkm 10 rfl hHeld (fun w hSw => by have kc := KCr w hSw; go_simp <;> with_reducible rfl) ?_
                try simp only [PPz]
                refine tkm 12 rfl hHeld (fun w hSw => by have kc := KCr w hSw; go_simp <;> with_reducible rfl) ?_
                try simp only [PPz]
                refine tkm 13 rfl hHeld (fun w hSw => by have kc := KCr w hSw; go_simp <;> with_reducible rfl) ?_
                try simp only [PPz]
                refine tkd 14 ?_
                try simp only [PPz]
                refine tkd 15 ?_
                try simp only [PPz]
                refine tkm 16 rfl hHeld (fun w hSw => by have kc := KCr w hSw; go_simp <;> with_reducible rfl) ?_
                try simp only [PPz]
                refine tkd 17 ?_
                try simp only [PPz]
                refine tkd 18 ?_
                try simp only [PPz]
                refine tkm 19 rfl hHeld (fun w hSw => by have kc := KCr w hSw; go_simp <;> with_reducible rfl) ?_
                try simp only [PPz]
                refine tkd 21 ?_
                try simp only [PPz]
                refine tkm 22 rfl hHeld (fun w hSw => by have kc := KCr w hSw; go_simp <;> with_reducible rfl) ?_
                try simp only [PPz]
                refine rdy1 8 rfl (fun K hK => ?_)
                go_simp
                refine (CGa.out _ hHeld).mono ?_
                rintro e wr21 ⟨rfl, hb3⟩
                go_wp2_with fail
                refine hK.out _ _ (keepB hHeld hb3) (fun hNew => ?_)
                clear hb3
                clear hHeld hK K
                have hHeld := hNew
                clear hNew
                try simp only [PPz]
                refine tkd 11 ?_
                try simp only [PPz]
                refine rdy1 20 rfl (fun K hK => ?_)
                go_simp
                refine (CGb.out _ hHeld).mono ?_
                rintro e wr23 ⟨rfl, hb3⟩
                go_wp2_with fail
                refine hK.out _ _ (keepB hHeld hb3) (fun hNew => ?_)
                clear hb3
                clear hHeld hK K
                have hHeld := hNew
                clear hNew
                try simp only [PPz]
                refine tkd 23 ?_
                try simp only [PPz]
                refine tkd 24 ?_
                try simp only [PPz]
                refine wpAnyH_done (by kernel_rfl) ?_ _
                refine NoPanic.normal ?_
                have HN := Lib.hid (keepB HW.out hHeld)
                clear hHeld
                clear a1 a2 z1 z2 g0 g1 g2 g3 g4 g5 g6 g7
                go_wp2_with fail
                go_roundw
                case rel => exact ⟨k + 1, by omega, by go_num, HN⟩
                case measure => simp [intOf]; omega
              · obtain rfl : k = V.length := by omega
                go_wp2_with fail
                go_ret
                exact ⟨rfl, keepB HB.out HW.out⟩
          · have d2 : (x2 == y2) = false := by rw [beq_eq_false_iff_ne]; exact hn2
            have d3 : (x2 != y2) = true := by rw [bne_iff_ne]; exact hn2
            subst hn1
            go_wp2_with fail
            go_ret
            exact ⟨rfl, HB.out⟩
        · have d2 : (x1 == y1) = false := by rw [beq_eq_false_iff_ne]; exact hn1
          have d3 : (x1 != y1) = true := by rw [bne_iff_ne]; exact hn1
          go_wp2_with fail
          go_ret
          exact ⟨rfl, HB.out⟩
    · have d3 : (vl0 != 0) = true := by rw [bne_iff_ne]; exact hz0
      have c0 := B0.out.c 0 rfl
      clear HA HIB HIC C6 IX IY CW1
      go_wp2_with fail
      go_ret
      exact ⟨rfl, HB.out⟩
  · rw [decide_eq_false h0] at cF
    have CF := Lib.hid cF
    clear cF h hB hC HIB HIC
    unfold maxLen at hl hx hpm
    go_enter Try.func6, Try.ntmps6
    go_upto_region 1 with fail
    refine at_box2 (fun V0 hbb b0 b1 hsz => ?_)
    clear hsz b1
    replace HA := Lib.hid (HA.out.keep hbb)
    have HB := Lib.hid hbb
    have B0 := Lib.hid b0
    clear hbb b0
    go_wp2_with fail
    refine (alive15_any _).mono ?_
    rintro e w1 ⟨rfl, hb⟩
    replace HA := Lib.hid (HA.out.keep hb)
    replace B0 := Lib.hid (B0.out.keep hb)
    replace HB := Lib.hid (keepB HB.out hb)
    clear hb
    have cB00 := B0.out.c 0 rfl
    have cB01 := B0.out.c 1 rfl
    go_wp2_with fail
    refine (CF.out _ HA.out).mono ?_
    rintro e w2 ⟨rfl, hb⟩
    replace HA := Lib.hid (HA.out.keep hb)
    replace B0 := Lib.hid (B0.out.keep hb)
    replace HB := Lib.hid (keepB HB.out hb)
    clear cB00 cB01 hb
    go_wp2_with fail
    go_ret
    exact ⟨rfl, HB.out⟩
end Go.Proofs.Ytncmffhoodfhjaa
