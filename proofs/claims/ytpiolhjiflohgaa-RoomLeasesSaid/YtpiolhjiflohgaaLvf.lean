/- The reference of layer 14: Check, Valid. -/
import Derived.Test.YtpiolhjiflohgaaLvc
import Derived.Test.YtpiolhjiflohgaaAsr
import Derived.Deep.QuietTactic
import Derived.BigQuiet
namespace Go.Proofs.Ytpiolhjiflohgaa
open Go.RowKit
set_option maxHeartbeats 2000000 in
theorem r14Check_any (A : Option Addr) (cv : Nat) (V : List (List Int)) (R : Int) (w : World) (hl : V.length ≤ maxLen) (h : IsM w A V) :
    Calls Try.prog 18 #[.agg #[.slice A V.length cv, .int .i64 R]] w fun e w' => e = .returned (.int .i64 (As.rchk V R)) ∧ Below w.heap.size w w' := by
  have CK := fun v (hv : Below w.heap.size w v) => rCheck_any A cv V v hl (h.keep hv)
  rcases As.rchk_cases V R with ⟨h1, h2, h3, h4⟩ | ⟨h1, h2, h3⟩ | ⟨h1, h2, h3⟩
  · rw [h1]
    simp only [h2] at CK
    have CK' := Lib.hid CK
    have d1 : decide (R < 0) = false := by rw [decide_eq_false_iff_not]; omega
    have d2 : decide (10000000 < R) = false := by rw [decide_eq_false_iff_not]; omega
    clear CK h1 h2 h3 h4 h
    go_enter Try.func18, Try.ntmps18
    go_upto_region 1 with fail
    refine at_box1 (fun V0 hbb b0 hsz => ?_)
    clear hsz
    have c0 := b0.c 0 rfl
    have c1 := b0.c 1 rfl
    go_wp2_with fail
    refine (CK'.out _ hbb).mono ?_
    rintro e w1 ⟨rfl, hb1⟩
    replace c0 := keepC hb1 c0
    replace c1 := keepC hb1 c1
    replace b0 := b0.keep hb1
    replace hbb := keepB hbb hb1
    clear hb1
    go_wp2_with fail
    go_ret
    exact ⟨rfl, hbb⟩
  · rw [h1]
    simp only [h2] at CK
    have CK' := Lib.hid CK
    clear CK h1 h2 h
    by_cases hR : R < 0
    · have d1 : decide (R < 0) = true := by rw [decide_eq_true_eq]; exact hR
      clear h3 hR
      go_enter Try.func18, Try.ntmps18
      go_upto_region 1 with fail
      refine at_box1 (fun V0 hbb b0 hsz => ?_)
      clear hsz
      have c0 := b0.c 0 rfl
      have c1 := b0.c 1 rfl
      go_wp2_with fail
      refine (CK'.out _ hbb).mono ?_
      rintro e w1 ⟨rfl, hb1⟩
      replace c0 := keepC hb1 c0
      replace c1 := keepC hb1 c1
      replace b0 := b0.keep hb1
      replace hbb := keepB hbb hb1
      clear hb1
      go_wp2_with fail
      go_ret
      exact ⟨rfl, hbb⟩
    · have d1 : decide (R < 0) = false := by rw [decide_eq_false_iff_not]; exact hR
      have d2 : decide (10000000 < R) = true := by rw [decide_eq_true_eq]; omega
      clear h3 hR
      go_enter Try.func18, Try.ntmps18
      go_upto_region 1 with fail
      refine at_box1 (fun V0 hbb b0 hsz => ?_)
      clear hsz
      have c0 := b0.c 0 rfl
      have c1 := b0.c 1 rfl
      go_wp2_with fail
      refine (CK'.out _ hbb).mono ?_
      rintro e w1 ⟨rfl, hb1⟩
      replace c0 := keepC hb1 c0
      replace c1 := keepC hb1 c1
      replace b0 := b0.keep hb1
      replace hbb := keepB hbb hb1
      clear hb1
      go_wp2_with fail
      go_ret
      exact ⟨rfl, hbb⟩
  · rw [h1]
    generalize As.chk V = c at *
    have CK' := Lib.hid CK
    clear CK h1 h3 h
    go_enter Try.func18, Try.ntmps18
    go_upto_region 1 with fail
    refine at_box1 (fun V0 hbb b0 hsz => ?_)
    clear hsz
    have c0 := b0.c 0 rfl
    have c1 := b0.c 1 rfl
    go_wp2_with fail
    refine (CK'.out _ hbb).mono ?_
    rintro e w1 ⟨rfl, hb1⟩
    replace c0 := keepC hb1 c0
    replace c1 := keepC hb1 c1
    replace b0 := b0.keep hb1
    replace hbb := keepB hbb hb1
    clear hb1
    go_wp2_with fail
    refine (CK'.out _ hbb).mono ?_
    rintro e w1 ⟨rfl, hb1⟩
    replace c0 := keepC hb1 c0
    replace c1 := keepC hb1 c1
    replace b0 := b0.keep hb1
    replace hbb := keepB hbb hb1
    clear hb1
    go_wp2_with fail
    go_ret
    exact ⟨rfl, hbb⟩
namespace As
theorem leB_no {n : Nat} {R : Int} {xs ps : List Int} {D : Int} {j : Nat} (hj : j < n) (h : prB D (el ps j) = false) : leB n R xs ps D = false := by
  unfold leB
  have : (List.range n).all (fun j => prB D (el ps j)) = false := by rw [List.all_eq_false]; exact ⟨j, by simpa using hj, by rw [h]; simp⟩
  rw [this]
  simp
theorem leB_end {n : Nat} {R : Int} {xs ps : List Int} {D : Int} (ha : isA xs n = true) (hp : ps.length = n) (d1 : 1 ≤ D) (d2 : D ≤ 60) (h : ∀ j, j < n → prB D (el ps j) = true) : leB n R xs ps D = decide (sm (el ps) (List.range n) = D * R) := by
  unfold leB
  have : (List.range n).all (fun j => prB D (el ps j)) = true := by rw [List.all_eq_true]; intro j hj; exact h j (by simpa using hj)
  rw [this, ha, decide_eq_true hp, decide_eq_true d1, decide_eq_true d2]
  simp
theorem prB_bd {D x : Int} (h : prB D x = true) (d1 : 1 ≤ D) (d2 : D ≤ 60) : -1000000000 ≤ x ∧ x ≤ 1000000000 := by
  unfold prB at h
  simp only [Bool.and_eq_true, decide_eq_true_eq] at h
  omega
theorem vld_leB {V : List (List Int)} {R : Int} {xs ps : List Int} {D : Int} (h0 : rchk V R = 0) : vld V R xs ps D = if leB V.length R xs ps D = true then 0 else 8 := by unfold vld; rw [if_pos h0]
end As
set_option maxRecDepth 100000 in
set_option maxHeartbeats 4000000 in
theorem r14Valid_any (A : Option Addr) (cv : Nat) (V : List (List Int)) (R : Int) (B : Option Addr) (ca : Nat) (xs : List Int) (C : Option Addr) (cp : Nat) (ps : List Int) (D : Int) (w : World) (hl : V.length ≤ maxLen) (h : IsM w A V) (hx : xs.length ≤ maxLen) (hB : IsI w B xs) (hC : IsI w C ps) :
    Calls Try.prog 26 #[.agg #[.slice A V.length cv, .int .i64 R], .agg #[.slice B xs.length ca, .slice C ps.length cp, .int .i64 D]] w fun e w' => e = .returned (.int .i64 (As.vld V R xs ps D)) ∧ Below w.heap.size w w' := by
  have CK := fun v (hv : Below w.heap.size w v) => r14Check_any A cv V R v hl (h.keep hv)
  have CV := fun v (hv : Below w.heap.size w v) => rAssigned_any B ca xs V.length v hx (hB.keep hv)
  rcases As.rchk_two V R with ⟨h0, hc, r0, r1⟩ | ⟨h1, h2⟩
  · rw [h0] at CK
    have CK' := Lib.hid CK
    have n6 := (As.chk_ok hc).n6
    by_cases ha : As.isA xs V.length = true
    · rw [ha] at CV
      have CV' := Lib.hid CV
      by_cases hpl : ps.length = V.length
      · have dl : ((ps.length : Int) != V.length) = false := by rw [bne_eq_false_iff_eq]; omega
        by_cases e1 : 1 ≤ D
        · by_cases e2 : D ≤ 60
          · have d1 : decide (D < 1) = false := by rw [decide_eq_false_iff_not]; omega
            have d2 : decide (60 < D) = false := by rw [decide_eq_false_iff_not]; omega
            have m1 : D * R ≤ 60 * 10000000 := Int.mul_le_mul e2 r1 (by omega) (by omega)
            have m0 : 0 ≤ D * R := Int.mul_nonneg (by omega) r0
            obtain ⟨y, hy⟩ : ∃ y, D * R = y := ⟨_, rfl⟩
            have hw : IntKind.i64.wrap (D * R) = y := by rw [IntWalk.i64_in _ (by omega)]; exact hy
            have HV := Lib.hid (As.vld_leB (xs := xs) (ps := ps) (D := D) h0)
            have HNo := Lib.hid (fun j hj hh => @As.leB_no V.length R xs ps D j hj hh)
            have HEnd := Lib.hid (fun hh => @As.leB_end V.length R xs ps D ha hpl e1 e2 hh)
            have HPB := Lib.hid (fun x hh => @As.prB_bd D x hh e1 e2)
            have HY := Lib.hid hy
            have HC := Lib.hid hC
            have HPL := Lib.hid hpl
            rw [hpl] at dl
            clear CK CV h0 hc ha h hB hC m0 m1 hy
            rw [hpl]
            go_enter Try.func26, Try.ntmps26
            go_upto_region 1 with fail
            refine at_box2 (fun V0 hbb b0 b1 hsz => ?_)
            clear hsz
            have c0 := b0.c 0 rfl
            have c1 := b0.c 1 rfl
            have k0 := b1.c 0 rfl
            have k1 := b1.c 1 rfl
            have k2 := b1.c 2 rfl
            go_wp2_with fail
            refine (CK'.out _ hbb).mono ?_
            rintro e w1 ⟨rfl, hb1⟩
            replace c0 := keepC hb1 c0
            replace c1 := keepC hb1 c1
            replace k0 := keepC hb1 k0
            replace k1 := keepC hb1 k1
            replace k2 := keepC hb1 k2
            replace b0 := b0.keep hb1
            replace b1 := b1.keep hb1
            replace hbb := keepB hbb hb1
            clear hb1
            go_wp2_with fail
            refine (CV'.out _ hbb).mono ?_
            rintro e w1 ⟨rfl, hb1⟩
            replace c0 := keepC hb1 c0
            replace c1 := keepC hb1 c1
            replace k0 := keepC hb1 k0
            replace k1 := keepC hb1 k1
            replace k2 := keepC hb1 k2
            replace b0 := b0.keep hb1
            replace b1 := b1.keep hb1
            replace hbb := keepB hbb hb1
            clear hb1
            go_wp2_with fail
            clear dl
            go_loopw [5, 6] (fun s i W => ∃ k : Nat, k ≤ V.length ∧ i = .int .i64 k ∧ s = .int .i64 (As.sm (As.el ps) (List.range k)) ∧ Hid (∀ j, j < k → As.prB D (As.el ps j) = true) ∧ Hid (Below w1.heap.size w1 W)) (fun _ i _ => V.length - (intOf i).toNat)
            case atStart => exact ⟨0, Nat.zero_le _, rfl, rfl, Lib.hid (fun j hj => absurd hj (Nat.not_lt_zero _)), Lib.hid (Below.refl _ _)⟩
            case round =>
              obtain ⟨k, hk, rfl, rfl, HOK, HW⟩ := hrel
              have z1 := keepC HW.out k1
              have z2 := keepC HW.out k2
              have y1 := keepC HW.out c1
              have HBB := Lib.hid (keepB hbb HW.out)
              have HSB := Lib.hid (As.sm_el_bd (ps := ps) (M := 1000000000) (n := k) (fun j hj => HPB.out _ (HOK.out j hj)) k (Nat.le_refl _))
              by_cases hlt : k < V.length
              · obtain ⟨bb, bo, hCe, hcs⟩ := list_at HC.out (j := k) (by rw [HPL.out]; exact hlt)
                subst hCe
                have x0 := keepC HBB.out (hcs k (by rw [HPL.out]; exact hlt))
                have HN := Lib.hid (HNo.out k hlt)
                have HP := Lib.hid (show As.prB D (As.el ps k) = (decide (-10000000 * D ≤ As.el ps k) && decide (As.el ps k ≤ 10000000 * D)) from rfl)
                have ET := Lib.hid (As.sm_range_succ (As.el ps) k)
                obtain ⟨q1, q2⟩ := HC.out.bd k
                obtain ⟨s1, s2⟩ := HSB.out
                have s3 : -6000000000 ≤ As.sm (As.el ps) (List.range k) := by omega
                have s4 : As.sm (As.el ps) (List.range k) ≤ 6000000000 := by omega
                have w1' : IntKind.i64.wrap (-10000000 * D) = -10000000 * D := IntWalk.i64_in _ (by omega)
                have w2' : IntKind.i64.wrap (10000000 * D) = 10000000 * D := IntWalk.i64_in _ (by omega)
                clear hcs s1 s2 HNo
                generalize hxx : As.el ps k = x at *
                have HX := Lib.hid hxx
                generalize As.sm (As.el ps) (List.range k) = s at *
                clear hxx hbb k0 k1 k2 c0 c1 b0 b1
                by_cases h1 : x < -10000000 * D
                · have t1 : decide (x < -10000000 * D) = true := decide_eq_true h1
                  have EB := Lib.hid (HN.out (by rw [HP.out, decide_eq_false (by omega), Bool.false_and]))
                  clear h1 HN HP
                  go_wp2_with fail
                  go_quiet (fail)
                  go_wp2_with fail
                  go_ret
                  exact ⟨by rw [HV.out, EB.out]; rfl, by first | exact HBB.out | exact HBB.out.drew | exact below_drewN HBB.out _⟩
                · have t1 : decide (x < -10000000 * D) = false := decide_eq_false h1
                  by_cases h2 : 10000000 * D < x
                  · have t2 : decide (10000000 * D < x) = true := decide_eq_true h2
                    have EB := Lib.hid (HN.out (by rw [HP.out, decide_eq_false (p := x ≤ 10000000 * D) (by omega), Bool.and_false]))
                    clear h1 h2 HN HP
                    go_wp2_with fail
                    go_quiet (fail)
                    go_wp2_with fail
                    go_ret
                    exact ⟨by rw [HV.out, EB.out]; rfl, by first | exact HBB.out | exact HBB.out.drew | exact below_drewN HBB.out _⟩
                  · have t2 : decide (10000000 * D < x) = false := decide_eq_false h2
                    have EB := Lib.hid (show As.prB D x = true by rw [HP.out, decide_eq_true (show -10000000 * D ≤ x by omega), decide_eq_true (show x ≤ 10000000 * D by omega)]; rfl)
                    obtain ⟨q3, q4⟩ := HPB.out x EB.out
                    clear h1 h2 HN HP q1 q2
                    go_wp2_with fail
                    go_quiet (fail)
                    go_wp2_with fail
                    go_roundw
                    case rel => exact ⟨k + 1, by omega, by go_num, by rw [ET.out], Lib.hid (fun j hj => (Nat.lt_succ_iff_lt_or_eq.1 hj).elim (HOK.out j) (fun e => by rw [e, HX.out]; exact EB.out)), Lib.hid (by first | exact HW.out | exact HW.out.drew | exact below_drewN HW.out _)⟩
                    case measure => simp [intOf]; omega
              · obtain rfl : k = V.length := by omega
                have HE := Lib.hid (HEnd.out HOK.out)
                obtain ⟨s1, s2⟩ := HSB.out
                clear hbb k0 k1 k2 c0 c1 b0 b1 HNo HEnd HC HPL
                generalize As.sm (As.el ps) (List.range V.length) = s at *
                by_cases hs : s = y
                · have t1 : (s != y) = false := by rw [bne_eq_false_iff_eq]; exact hs
                  have HS := Lib.hid hs
                  clear hs s1 s2
                  go_wp2_with fail
                  go_ret
                  exact ⟨by rw [HV.out, HE.out, HS.out, HY.out, decide_eq_true rfl]; rfl, HBB.out⟩
                · have t1 : (s != y) = true := by rw [bne_iff_ne]; exact hs
                  have HS := Lib.hid hs
                  clear hs s1 s2
                  go_wp2_with fail
                  go_ret
                  exact ⟨by rw [HV.out, HE.out, HY.out, decide_eq_false HS.out]; rfl, HBB.out⟩
          · rw [As.vld_no h0 (by rw [As.leB_eq, decide_eq_false e2]; simp)]
            have d1 : decide (D < 1) = false := by rw [decide_eq_false_iff_not]; omega
            have d2 : decide (60 < D) = true := by rw [decide_eq_true_eq]; omega
            clear CK CV h0 hc ha h hB hC hpl
            go_enter Try.func26, Try.ntmps26
            go_upto_region 1 with fail
            refine at_box2 (fun V0 hbb b0 b1 hsz => ?_)
            clear hsz
            have c0 := b0.c 0 rfl
            have c1 := b0.c 1 rfl
            have k0 := b1.c 0 rfl
            have k1 := b1.c 1 rfl
            have k2 := b1.c 2 rfl
            go_wp2_with fail
            refine (CK'.out _ hbb).mono ?_
            rintro e w1 ⟨rfl, hb1⟩
            replace c0 := keepC hb1 c0
            replace c1 := keepC hb1 c1
            replace k0 := keepC hb1 k0
            replace k1 := keepC hb1 k1
            replace k2 := keepC hb1 k2
            replace b0 := b0.keep hb1
            replace b1 := b1.keep hb1
            replace hbb := keepB hbb hb1
            clear hb1
            go_wp2_with fail
            refine (CV'.out _ hbb).mono ?_
            rintro e w1 ⟨rfl, hb1⟩
            replace c0 := keepC hb1 c0
            replace c1 := keepC hb1 c1
            replace k0 := keepC hb1 k0
            replace k1 := keepC hb1 k1
            replace k2 := keepC hb1 k2
            replace b0 := b0.keep hb1
            replace b1 := b1.keep hb1
            replace hbb := keepB hbb hb1
            clear hb1
            go_wp2_with fail
            go_ret
            exact ⟨rfl, hbb⟩
        · rw [As.vld_no h0 (by rw [As.leB_eq, decide_eq_false e1]; simp)]
          have d1 : decide (D < 1) = true := by rw [decide_eq_true_eq]; omega
          clear CK CV h0 hc ha h hB hC hpl
          go_enter Try.func26, Try.ntmps26
          go_upto_region 1 with fail
          refine at_box2 (fun V0 hbb b0 b1 hsz => ?_)
          clear hsz
          have c0 := b0.c 0 rfl
          have c1 := b0.c 1 rfl
          have k0 := b1.c 0 rfl
          have k1 := b1.c 1 rfl
          have k2 := b1.c 2 rfl
          go_wp2_with fail
          refine (CK'.out _ hbb).mono ?_
          rintro e w1 ⟨rfl, hb1⟩
          replace c0 := keepC hb1 c0
          replace c1 := keepC hb1 c1
          replace k0 := keepC hb1 k0
          replace k1 := keepC hb1 k1
          replace k2 := keepC hb1 k2
          replace b0 := b0.keep hb1
          replace b1 := b1.keep hb1
          replace hbb := keepB hbb hb1
          clear hb1
          go_wp2_with fail
          refine (CV'.out _ hbb).mono ?_
          rintro e w1 ⟨rfl, hb1⟩
          replace c0 := keepC hb1 c0
          replace c1 := keepC hb1 c1
          replace k0 := keepC hb1 k0
          replace k1 := keepC hb1 k1
          replace k2 := keepC hb1 k2
          replace b0 := b0.keep hb1
          replace b1 := b1.keep hb1
          replace hbb := keepB hbb hb1
          clear hb1
          go_wp2_with fail
          go_ret
          exact ⟨rfl, hbb⟩
      · rw [As.vld_no h0 (by rw [As.leB_eq, As.apB_len hpl]; simp)]
        have dl : ((ps.length : Int) != V.length) = true := by rw [bne_iff_ne]; omega
        clear CK CV h0 hc ha h hB hC hpl
        go_enter Try.func26, Try.ntmps26
        go_upto_region 1 with fail
        refine at_box2 (fun V0 hbb b0 b1 hsz => ?_)
        clear hsz
        have c0 := b0.c 0 rfl
        have c1 := b0.c 1 rfl
        have k0 := b1.c 0 rfl
        have k1 := b1.c 1 rfl
        have k2 := b1.c 2 rfl
        go_wp2_with fail
        refine (CK'.out _ hbb).mono ?_
        rintro e w1 ⟨rfl, hb1⟩
        replace c0 := keepC hb1 c0
        replace c1 := keepC hb1 c1
        replace k0 := keepC hb1 k0
        replace k1 := keepC hb1 k1
        replace k2 := keepC hb1 k2
        replace b0 := b0.keep hb1
        replace b1 := b1.keep hb1
        replace hbb := keepB hbb hb1
        clear hb1
        go_wp2_with fail
        refine (CV'.out _ hbb).mono ?_
        rintro e w1 ⟨rfl, hb1⟩
        replace c0 := keepC hb1 c0
        replace c1 := keepC hb1 c1
        replace k0 := keepC hb1 k0
        replace k1 := keepC hb1 k1
        replace k2 := keepC hb1 k2
        replace b0 := b0.keep hb1
        replace b1 := b1.keep hb1
        replace hbb := keepB hbb hb1
        clear hb1
        go_wp2_with fail
        go_ret
        exact ⟨rfl, hbb⟩
    · have ha : As.isA xs V.length = false := by simpa using ha
      rw [As.vld_no h0 (by rw [As.leB_eq, ha]; rfl)]
      rw [ha] at CV
      have CV' := Lib.hid CV
      clear CK CV h0 hc ha h hB hC
      go_enter Try.func26, Try.ntmps26
      go_upto_region 1 with fail
      refine at_box2 (fun V0 hbb b0 b1 hsz => ?_)
      clear hsz
      have c0 := b0.c 0 rfl
      have c1 := b0.c 1 rfl
      have k0 := b1.c 0 rfl
      have k1 := b1.c 1 rfl
      have k2 := b1.c 2 rfl
      go_wp2_with fail
      refine (CK'.out _ hbb).mono ?_
      rintro e w1 ⟨rfl, hb1⟩
      replace c0 := keepC hb1 c0
      replace c1 := keepC hb1 c1
      replace k0 := keepC hb1 k0
      replace k1 := keepC hb1 k1
      replace k2 := keepC hb1 k2
      replace b0 := b0.keep hb1
      replace b1 := b1.keep hb1
      replace hbb := keepB hbb hb1
      clear hb1
      go_wp2_with fail
      refine (CV'.out _ hbb).mono ?_
      rintro e w1 ⟨rfl, hb1⟩
      replace c0 := keepC hb1 c0
      replace c1 := keepC hb1 c1
      replace k0 := keepC hb1 k0
      replace k1 := keepC hb1 k1
      replace k2 := keepC hb1 k2
      replace b0 := b0.keep hb1
      replace b1 := b1.keep hb1
      replace hbb := keepB hbb hb1
      clear hb1
      go_wp2_with fail
      go_ret
      exact ⟨rfl, hbb⟩
  · rw [As.vld_err h2]
    generalize As.rchk V R = c at *
    have CK' := Lib.hid CK
    clear CK CV h2 h hB hC
    go_enter Try.func26, Try.ntmps26
    go_upto_region 1 with fail
    refine at_box2 (fun V0 hbb b0 b1 hsz => ?_)
    clear hsz
    have c0 := b0.c 0 rfl
    have c1 := b0.c 1 rfl
    have k0 := b1.c 0 rfl
    have k1 := b1.c 1 rfl
    have k2 := b1.c 2 rfl
    go_wp2_with fail
    refine (CK'.out _ hbb).mono ?_
    rintro e w1 ⟨rfl, hb1⟩
    replace c0 := keepC hb1 c0
    replace c1 := keepC hb1 c1
    replace k0 := keepC hb1 k0
    replace k1 := keepC hb1 k1
    replace k2 := keepC hb1 k2
    replace b0 := b0.keep hb1
    replace b1 := b1.keep hb1
    replace hbb := keepB hbb hb1
    clear hb1
    go_wp2_with fail
    refine (CK'.out _ hbb).mono ?_
    rintro e w1 ⟨rfl, hb1⟩
    replace c0 := keepC hb1 c0
    replace c1 := keepC hb1 c1
    replace k0 := keepC hb1 k0
    replace k1 := keepC hb1 k1
    replace k2 := keepC hb1 k2
    replace b0 := b0.keep hb1
    replace b1 := b1.keep hb1
    replace hbb := keepB hbb hb1
    clear hb1
    go_wp2_with fail
    go_ret
    exact ⟨rfl, hbb⟩
end Go.Proofs.Ytpiolhjiflohgaa
