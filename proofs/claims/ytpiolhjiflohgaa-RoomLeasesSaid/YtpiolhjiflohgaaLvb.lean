/- Package room: Valid. -/
import Derived.Test.YtpiolhjiflohgaaLva
import Derived.Deep.RegionHeld3
namespace Go.Proofs.Ytpiolhjiflohgaa
open Go.RowKit
namespace As
theorem valS_no {V : List (List Int)} {xs : List Int} (h0 : chk V = 0) (h : isA xs V.length = false) : valS V xs = (0, 8) := by unfold valS; rw [if_pos h0, h]; rfl
theorem valS_ok {V : List (List Int)} {xs : List Int} (h0 : chk V = 0) (h : isA xs V.length = true) : (valS V xs).2 = 0 := by unfold valS; rw [if_pos h0, if_pos h]
theorem vld_no {V : List (List Int)} {R D : Int} {xs ps : List Int} (h0 : rchk V R = 0) (h : leB V.length R xs ps D = false) : vld V R xs ps D = 8 := by unfold vld; rw [if_pos h0, h]; rfl
theorem vld_yes {V : List (List Int)} {R D : Int} {xs ps : List Int} (h0 : rchk V R = 0) (h : leB V.length R xs ps D = true) : vld V R xs ps D = 0 := by unfold vld; rw [if_pos h0, if_pos h]
theorem vld_err {V : List (List Int)} {R D : Int} {xs ps : List Int} (h0 : rchk V R ≠ 0) : vld V R xs ps D = rchk V R := by unfold vld; rw [if_neg h0]
theorem rchk_two (V : List (List Int)) (R : Int) : (rchk V R = 0 ∧ chk V = 0 ∧ 0 ≤ R ∧ R ≤ 10000000) ∨ ((rchk V R != 0) = true ∧ rchk V R ≠ 0) := by
  rcases rchk_cases V R with h | ⟨h, _⟩ | ⟨h1, h2, h3⟩
  · exact .inl h
  · exact .inr ⟨by rw [h]; rfl, by rw [h]; decide⟩
  · exact .inr ⟨by rw [h1]; exact h2, by rw [h1]; exact h3⟩
theorem pIn_prB (D x : Int) : pIn (10000000 * D) x = prB D x := by
  unfold pIn prB
  rw [show -(10000000 * D) = -10000000 * D by omega]
theorem leB_eq (n : Nat) (R : Int) (xs ps : List Int) (D : Int) : leB n R xs ps D = (isA xs n && (decide (1 ≤ D) && (decide (D ≤ 60) && (apB ps n (10000000 * D) && decide (sm (el ps) (List.range n) = D * R))))) := by
  unfold leB apB
  simp only [pIn_prB]
  generalize isA xs n = b1
  generalize decide (ps.length = n) = b2
  generalize decide (1 ≤ D) = b3
  generalize decide (D ≤ 60) = b4
  generalize (List.range n).all (fun j => prB D (el ps j)) = b5
  generalize decide (sm (el ps) (List.range n) = D * R) = b6
  cases b1 <;> cases b2 <;> cases b3 <;> cases b4 <;> cases b5 <;> cases b6 <;> rfl
theorem apB_bd {ps : List Int} {n : Nat} {D : Int} (h : apB ps n (10000000 * D) = true) (d1 : 1 ≤ D) (d2 : D ≤ 60) : ps.length = n ∧ ∀ j, j < n → -1000000000 ≤ el ps j ∧ el ps j ≤ 1000000000 := by
  unfold apB pIn at h
  simp only [Bool.and_eq_true, decide_eq_true_eq, List.all_eq_true, List.mem_range] at h
  exact ⟨h.1, fun j hj => by have := h.2 j hj; omega⟩
end As
set_option maxRecDepth 100000 in
set_option maxHeartbeats 4000000 in
theorem rmValid_any (A : Option Addr) (cv : Nat) (V : List (List Int)) (R : Int) (B : Option Addr) (ca : Nat) (xs : List Int) (C : Option Addr) (cp : Nat) (ps : List Int) (D : Int) (w : World) (hl : V.length ≤ maxLen) (h : IsM w A V) (hx : xs.length ≤ maxLen) (hB : IsI w B xs) (hpm : ps.length ≤ maxLen) (hC : IsI w C ps) :
    Calls Try.prog 25 #[.agg #[.slice A V.length cv, .int .i64 R], .agg #[.slice B xs.length ca, .slice C ps.length cp, .int .i64 D]] w fun e w' => e = .returned (.int .i64 (As.vld V R xs ps D)) ∧ Below w.heap.size w w' := by
  have CK := fun v (hv : Below w.heap.size w v) => rmCheck_any A cv V R v hl (h.keep hv)
  have CV := fun v (hv : Below w.heap.size w v) => asValue_any A cv V B ca xs v hl (h.keep hv) hx (hB.keep hv)
  have CP := fun v (hv : Below w.heap.size w v) (d1 : 1 ≤ D) (d2 : D ≤ 60) => arePrices_any C cp ps V.length (10000000 * D) (by omega) (by omega) v hpm (hC.keep hv)
  have CS := fun v (hv : Below w.heap.size w v) n6 hn hb => rmSum_any C cp ps V.length hn n6 hb v (hC.keep hv)
  rcases As.rchk_two V R with ⟨h0, hc, r0, r1⟩ | ⟨h1, h2⟩
  · rw [h0] at CK
    have CK' := Lib.hid CK
    have n6 := (As.chk_ok hc).n6
    by_cases ha : As.isA xs V.length = true
    · rw [As.valS_ok hc ha] at CV
      have CV' := Lib.hid CV
      generalize (As.valS V xs).1 = z at *
      by_cases e1 : 1 ≤ D
      · by_cases e2 : D ≤ 60
        · have CP' := Lib.hid (fun v hv => CP v hv e1 e2)
          by_cases hap : As.apB ps V.length (10000000 * D) = true
          · obtain ⟨hpl, hpb⟩ := As.apB_bd hap e1 e2
            have CS' := Lib.hid (fun v hv => CS v hv n6 hpl hpb)
            rw [hap] at CP'
            rw [← hpl] at CS'
            have d1 : decide (D < 1) = false := by rw [decide_eq_false_iff_not]; omega
            have d2 : decide (60 < D) = false := by rw [decide_eq_false_iff_not]; omega
            have m1 : R * D ≤ 10000000 * 60 := Int.mul_le_mul r1 e2 (by omega) (by omega)
            have m0 : 0 ≤ R * D := Int.mul_nonneg r0 (by omega)
            by_cases hs : As.sm (As.el ps) (List.range V.length) = R * D
            · rw [As.vld_yes h0 (by rw [As.leB_eq, ha, hap, decide_eq_true e1, decide_eq_true e2, decide_eq_true (by rw [hs, Int.mul_comm])]; rfl)]
              have d3 : (As.sm (As.el ps) (List.range ps.length) != R * D) = false := by rw [bne_eq_false_iff_eq, hpl]; exact hs
              obtain ⟨y, hy⟩ : ∃ y, R * D = y := ⟨_, rfl⟩
              have hw : IntKind.i64.wrap (R * D) = y := by rw [IntWalk.i64_in _ (by omega)]; exact hy
              rw [hy] at d3
              have HD3 := Lib.hid d3
              generalize As.sm (As.el ps) (List.range ps.length) = s at *
              clear CK CV CP CS h0 hc ha hap hpb hs d3 h hB hC hpl m0 m1 hy
              go_enter Try.func25, Try.ntmps25
              go_upto_region 1 with fail
              refine at_box2 (fun V0 hbb b0 b1 hsz => ?_)
              clear hsz
              have c0 := b0.c 0 rfl
              have c1 := b0.c 1 rfl
              have k0 := b1.c 0 rfl
              have k1 := b1.c 1 rfl
              have k2 := b1.c 2 rfl
              go_wp2_with fail
              refine (CK'.out _ hbb).mono ?_
              rintro e w1 ⟨rfl, hb1⟩
              replace c0 := keepC hb1 c0
              replace c1 := keepC hb1 c1
              replace k0 := keepC hb1 k0
              replace k1 := keepC hb1 k1
              replace k2 := keepC hb1 k2
              replace b0 := b0.keep hb1
              replace b1 := b1.keep hb1
              replace hbb := keepB hbb hb1
              clear hb1
              go_wp2_with fail
              refine (CV'.out _ hbb).mono ?_
              rintro e w1 ⟨rfl, hb1⟩
              replace c0 := keepC hb1 c0
              replace c1 := keepC hb1 c1
              replace k0 := keepC hb1 k0
              replace k1 := keepC hb1 k1
              replace k2 := keepC hb1 k2
              replace b0 := b0.keep hb1
              replace b1 := b1.keep hb1
              replace hbb := keepB hbb hb1
              clear hb1
              go_wp2_with fail
              refine (CP'.out _ hbb).mono ?_
              rintro e w3 ⟨rfl, rfl⟩
              go_upto_region 9 with fail
              go_region_held3 (fun v => Below w.heap.size w v ∧ v.cell? ⟨w.heap.size, 1, none⟩ = some (.int .i64 R) ∧ v.cell? ⟨w.heap.size + 1, 1, none⟩ = some (.slice C ps.length cp) ∧ v.cell? ⟨w.heap.size + 1, 2, none⟩ = some (.int .i64 D))
                (first | (exact ⟨hbb.drew, c1, k1, k2⟩) | (exact ⟨hbb, c1, k1, k2⟩) | assumption)
                (first
                  | (go_at_call 43; refine (CS'.out _ (by first | exact (‹Below w.heap.size w _ ∧ _›).1 | exact hbb.drew | exact hbb)).mono ?_; rintro e w3 ⟨rfl, rfl⟩))
              have d3 := HD3.out
              go_wp2_with fail
              go_ret
              exact ⟨rfl, by first | exact hbb.drew | exact hbb | exact (‹Below w.heap.size w _ ∧ _›).1⟩
            · rw [As.vld_no h0 (by rw [As.leB_eq, decide_eq_false (p := As.sm (As.el ps) (List.range V.length) = D * R) (by rw [Int.mul_comm]; exact hs)]; simp)]
              have d3 : (As.sm (As.el ps) (List.range ps.length) != R * D) = true := by rw [bne_iff_ne, hpl]; exact hs
              obtain ⟨y, hy⟩ : ∃ y, R * D = y := ⟨_, rfl⟩
              have hw : IntKind.i64.wrap (R * D) = y := by rw [IntWalk.i64_in _ (by omega)]; exact hy
              rw [hy] at d3
              have HD3 := Lib.hid d3
              generalize As.sm (As.el ps) (List.range ps.length) = s at *
              clear CK CV CP CS h0 hc ha hap hpb hs d3 h hB hC hpl m0 m1 hy
              go_enter Try.func25, Try.ntmps25
              go_upto_region 1 with fail
              refine at_box2 (fun V0 hbb b0 b1 hsz => ?_)
              clear hsz
              have c0 := b0.c 0 rfl
              have c1 := b0.c 1 rfl
              have k0 := b1.c 0 rfl
              have k1 := b1.c 1 rfl
              have k2 := b1.c 2 rfl
              go_wp2_with fail
              refine (CK'.out _ hbb).mono ?_
              rintro e w1 ⟨rfl, hb1⟩
              replace c0 := keepC hb1 c0
              replace c1 := keepC hb1 c1
              replace k0 := keepC hb1 k0
              replace k1 := keepC hb1 k1
              replace k2 := keepC hb1 k2
              replace b0 := b0.keep hb1
              replace b1 := b1.keep hb1
              replace hbb := keepB hbb hb1
              clear hb1
              go_wp2_with fail
              refine (CV'.out _ hbb).mono ?_
              rintro e w1 ⟨rfl, hb1⟩
              replace c0 := keepC hb1 c0
              replace c1 := keepC hb1 c1
              replace k0 := keepC hb1 k0
              replace k1 := keepC hb1 k1
              replace k2 := keepC hb1 k2
              replace b0 := b0.keep hb1
              replace b1 := b1.keep hb1
              replace hbb := keepB hbb hb1
              clear hb1
              go_wp2_with fail
              refine (CP'.out _ hbb).mono ?_
              rintro e w3 ⟨rfl, rfl⟩
              go_upto_region 9 with fail
              go_region_held3 (fun v => Below w.heap.size w v ∧ v.cell? ⟨w.heap.size, 1, none⟩ = some (.int .i64 R) ∧ v.cell? ⟨w.heap.size + 1, 1, none⟩ = some (.slice C ps.length cp) ∧ v.cell? ⟨w.heap.size + 1, 2, none⟩ = some (.int .i64 D))
                (first | (exact ⟨hbb.drew, c1, k1, k2⟩) | (exact ⟨hbb, c1, k1, k2⟩) | assumption)
                (first
                  | (go_at_call 43; refine (CS'.out _ (by first | exact (‹Below w.heap.size w _ ∧ _›).1 | exact hbb.drew | exact hbb)).mono ?_; rintro e w3 ⟨rfl, rfl⟩))
              have d3 := HD3.out
              go_wp2_with fail
              go_ret
              exact ⟨rfl, by first | exact hbb.drew | exact hbb | exact (‹Below w.heap.size w _ ∧ _›).1⟩
          · have hap : As.apB ps V.length (10000000 * D) = false := by simpa using hap
            rw [As.vld_no h0 (by rw [As.leB_eq, hap]; simp)]
            rw [hap] at CP'
            have d1 : decide (D < 1) = false := by rw [decide_eq_false_iff_not]; omega
            have d2 : decide (60 < D) = false := by rw [decide_eq_false_iff_not]; omega
            clear CK CV CP CS h0 hc ha hap h hB hC
            go_enter Try.func25, Try.ntmps25
            go_upto_region 1 with fail
            refine at_box2 (fun V0 hbb b0 b1 hsz => ?_)
            clear hsz
            have c0 := b0.c 0 rfl
            have c1 := b0.c 1 rfl
            have k0 := b1.c 0 rfl
            have k1 := b1.c 1 rfl
            have k2 := b1.c 2 rfl
            go_wp2_with fail
            refine (CK'.out _ hbb).mono ?_
            rintro e w1 ⟨rfl, hb1⟩
            replace c0 := keepC hb1 c0
            replace c1 := keepC hb1 c1
            replace k0 := keepC hb1 k0
            replace k1 := keepC hb1 k1
            replace k2 := keepC hb1 k2
            replace b0 := b0.keep hb1
            replace b1 := b1.keep hb1
            replace hbb := keepB hbb hb1
            clear hb1
            go_wp2_with fail
            refine (CV'.out _ hbb).mono ?_
            rintro e w1 ⟨rfl, hb1⟩
            replace c0 := keepC hb1 c0
            replace c1 := keepC hb1 c1
            replace k0 := keepC hb1 k0
            replace k1 := keepC hb1 k1
            replace k2 := keepC hb1 k2
            replace b0 := b0.keep hb1
            replace b1 := b1.keep hb1
            replace hbb := keepB hbb hb1
            clear hb1
            go_wp2_with fail
            refine (CP'.out _ hbb).mono ?_
            rintro e w3 ⟨rfl, rfl⟩
            go_wp2_with fail
            go_ret
            exact ⟨rfl, hbb⟩
        · rw [As.vld_no h0 (by rw [As.leB_eq, decide_eq_false e2]; simp)]
          have d1 : decide (D < 1) = false := by rw [decide_eq_false_iff_not]; omega
          have d2 : decide (60 < D) = true := by rw [decide_eq_true_eq]; omega
          clear CK CV CP CS h0 hc ha h hB hC
          go_enter Try.func25, Try.ntmps25
          go_upto_region 1 with fail
          refine at_box2 (fun V0 hbb b0 b1 hsz => ?_)
          clear hsz
          have c0 := b0.c 0 rfl
          have c1 := b0.c 1 rfl
          have k0 := b1.c 0 rfl
          have k1 := b1.c 1 rfl
          have k2 := b1.c 2 rfl
          go_wp2_with fail
          refine (CK'.out _ hbb).mono ?_
          rintro e w1 ⟨rfl, hb1⟩
          replace c0 := keepC hb1 c0
          replace c1 := keepC hb1 c1
          replace k0 := keepC hb1 k0
          replace k1 := keepC hb1 k1
          replace k2 := keepC hb1 k2
          replace b0 := b0.keep hb1
          replace b1 := b1.keep hb1
          replace hbb := keepB hbb hb1
          clear hb1
          go_wp2_with fail
          refine (CV'.out _ hbb).mono ?_
          rintro e w1 ⟨rfl, hb1⟩
          replace c0 := keepC hb1 c0
          replace c1 := keepC hb1 c1
          replace k0 := keepC hb1 k0
          replace k1 := keepC hb1 k1
          replace k2 := keepC hb1 k2
          replace b0 := b0.keep hb1
          replace b1 := b1.keep hb1
          replace hbb := keepB hbb hb1
          clear hb1
          go_wp2_with fail
          go_ret
          exact ⟨rfl, hbb⟩
      · rw [As.vld_no h0 (by rw [As.leB_eq, decide_eq_false e1]; simp)]
        have d1 : decide (D < 1) = true := by rw [decide_eq_true_eq]; omega
        clear CK CV CP CS h0 hc ha h hB hC
        go_enter Try.func25, Try.ntmps25
        go_upto_region 1 with fail
        refine at_box2 (fun V0 hbb b0 b1 hsz => ?_)
        clear hsz
        have c0 := b0.c 0 rfl
        have c1 := b0.c 1 rfl
        have k0 := b1.c 0 rfl
        have k1 := b1.c 1 rfl
        have k2 := b1.c 2 rfl
        go_wp2_with fail
        refine (CK'.out _ hbb).mono ?_
        rintro e w1 ⟨rfl, hb1⟩
        replace c0 := keepC hb1 c0
        replace c1 := keepC hb1 c1
        replace k0 := keepC hb1 k0
        replace k1 := keepC hb1 k1
        replace k2 := keepC hb1 k2
        replace b0 := b0.keep hb1
        replace b1 := b1.keep hb1
        replace hbb := keepB hbb hb1
        clear hb1
        go_wp2_with fail
        refine (CV'.out _ hbb).mono ?_
        rintro e w1 ⟨rfl, hb1⟩
        replace c0 := keepC hb1 c0
        replace c1 := keepC hb1 c1
        replace k0 := keepC hb1 k0
        replace k1 := keepC hb1 k1
        replace k2 := keepC hb1 k2
        replace b0 := b0.keep hb1
        replace b1 := b1.keep hb1
        replace hbb := keepB hbb hb1
        clear hb1
        go_wp2_with fail
        go_ret
        exact ⟨rfl, hbb⟩
    · have ha : As.isA xs V.length = false := by simpa using ha
      rw [As.vld_no h0 (by rw [As.leB_eq, ha]; rfl)]
      rw [As.valS_no hc ha] at CV
      have CV' := Lib.hid CV
      clear CK CV CP CS h0 hc ha h hB hC
      go_enter Try.func25, Try.ntmps25
      go_upto_region 1 with fail
      refine at_box2 (fun V0 hbb b0 b1 hsz => ?_)
      clear hsz
      have c0 := b0.c 0 rfl
      have c1 := b0.c 1 rfl
      have k0 := b1.c 0 rfl
      have k1 := b1.c 1 rfl
      have k2 := b1.c 2 rfl
      go_wp2_with fail
      refine (CK'.out _ hbb).mono ?_
      rintro e w1 ⟨rfl, hb1⟩
      replace c0 := keepC hb1 c0
      replace c1 := keepC hb1 c1
      replace k0 := keepC hb1 k0
      replace k1 := keepC hb1 k1
      replace k2 := keepC hb1 k2
      replace b0 := b0.keep hb1
      replace b1 := b1.keep hb1
      replace hbb := keepB hbb hb1
      clear hb1
      go_wp2_with fail
      refine (CV'.out _ hbb).mono ?_
      rintro e w1 ⟨rfl, hb1⟩
      replace c0 := keepC hb1 c0
      replace c1 := keepC hb1 c1
      replace k0 := keepC hb1 k0
      replace k1 := keepC hb1 k1
      replace k2 := keepC hb1 k2
      replace b0 := b0.keep hb1
      replace b1 := b1.keep hb1
      replace hbb := keepB hbb hb1
      clear hb1
      go_wp2_with fail
      go_ret
      exact ⟨rfl, hbb⟩
  · rw [As.vld_err h2]
    generalize As.rchk V R = c at *
    have CK' := Lib.hid CK
    clear CK CV CP CS h2 h hB hC
    go_enter Try.func25, Try.ntmps25
    go_upto_region 1 with fail
    refine at_box2 (fun V0 hbb b0 b1 hsz => ?_)
    clear hsz
    have c0 := b0.c 0 rfl
    have c1 := b0.c 1 rfl
    have k0 := b1.c 0 rfl
    have k1 := b1.c 1 rfl
    have k2 := b1.c 2 rfl
    go_wp2_with fail
    refine (CK'.out _ hbb).mono ?_
    rintro e w1 ⟨rfl, hb1⟩
    replace c0 := keepC hb1 c0
    replace c1 := keepC hb1 c1
    replace k0 := keepC hb1 k0
    replace k1 := keepC hb1 k1
    replace k2 := keepC hb1 k2
    replace b0 := b0.keep hb1
    replace b1 := b1.keep hb1
    replace hbb := keepB hbb hb1
    clear hb1
    go_wp2_with fail
    go_ret
    exact ⟨rfl, hbb⟩
end Go.Proofs.Ytpiolhjiflohgaa
