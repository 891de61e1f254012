/- Package room: Check, sum, arePrices. Package room: Valid. Package room: gainsAt and its closure; the reference's Gain. Package room: Gains; the reference's Gains. Package room: part; mathematics of Even. -/
import Derived.Test.YtncmffhoodfhjaaYf
import Derived.Deep.RegionHeld3
import Derived.Test.YtncmffhoodfhjaaYd
import Derived.Test.YtncmffhoodfhjaaYc
import Derived.Test.YtncmffhoodfhjaaYk
import Derived.Test.YtncmffhoodfhjaaYa
namespace Go.Proofs.Ytncmffhoodfhjaa
open Go.RowKit
set_option maxHeartbeats 2000000 in
theorem rmCheck_any (A : Option Addr) (cv : Nat) (V : List (List Int)) (R : Int) (w : World) (hl : V.length ≤ maxLen) (h : IsM w A V) :
    Calls Try.prog 24 #[.agg #[.slice A V.length cv, .int .i64 R]] w fun e w' => e = .returned (.int .i64 (As.rchk V R)) ∧ Below w.heap.size w w' := by
  have CK := fun v (hv : Below w.heap.size w v) => asCheck_any A cv V v hl (h.keep hv)
  rcases As.rchk_cases V R with ⟨h1, h2, h3, h4⟩ | ⟨h1, h2, h3⟩ | ⟨h1, h2, h3⟩
  · rw [h1]
    simp only [h2] at CK
    have CK' := Lib.hid CK
    have d1 : decide (R < 0) = false := by rw [decide_eq_false_iff_not]; omega
    have d2 : decide (10000000 < R) = false := by rw [decide_eq_false_iff_not]; omega
    clear CK h1 h2 h3 h4 h
    go_enter Try.func24, Try.ntmps24
    go_upto_region 1 with fail
    refine at_worldQ (fun v => Below w.heap.size w v ∧ BK v w.heap.size [.slice A V.length cv, .int .i64 R]) ⟨below_al (Below.refl _ _) _, BK.new _ _ _⟩ (fun V0 hS => ?_)
    obtain ⟨hb0, b0⟩ := hS
    have c0 := b0.c 0 rfl
    have c1 := b0.c 1 rfl
    go_wp2_with fail
    refine (CK'.out _ hb0).mono ?_
    rintro e w1 ⟨rfl, hb1⟩
    replace c0 := keepC hb1 c0
    replace c1 := keepC hb1 c1
    replace hb0 := keepB hb0 hb1
    clear hb1 b0
    go_wp2_with fail
    go_ret
    exact ⟨rfl, hb0⟩
  · rw [h1]
    simp only [h2] at CK
    have CK' := Lib.hid CK
    clear CK h1 h2 h
    by_cases hR : R < 0
    · have d1 : decide (R < 0) = true := by rw [decide_eq_true_eq]; exact hR
      clear h3 hR
      go_enter Try.func24, Try.ntmps24
      go_upto_region 1 with fail
      refine at_worldQ (fun v => Below w.heap.size w v ∧ BK v w.heap.size [.slice A V.length cv, .int .i64 R]) ⟨below_al (Below.refl _ _) _, BK.new _ _ _⟩ (fun V0 hS => ?_)
      obtain ⟨hb0, b0⟩ := hS
      have c0 := b0.c 0 rfl
      have c1 := b0.c 1 rfl
      go_wp2_with fail
      refine (CK'.out _ hb0).mono ?_
      rintro e w1 ⟨rfl, hb1⟩
      replace c0 := keepC hb1 c0
      replace c1 := keepC hb1 c1
      replace hb0 := keepB hb0 hb1
      clear hb1 b0
      go_wp2_with fail
      go_ret
      exact ⟨rfl, hb0⟩
    · have d1 : decide (R < 0) = false := by rw [decide_eq_false_iff_not]; exact hR
      have d2 : decide (10000000 < R) = true := by rw [decide_eq_true_eq]; omega
      clear h3 hR
      go_enter Try.func24, Try.ntmps24
      go_upto_region 1 with fail
      refine at_worldQ (fun v => Below w.heap.size w v ∧ BK v w.heap.size [.slice A V.length cv, .int .i64 R]) ⟨below_al (Below.refl _ _) _, BK.new _ _ _⟩ (fun V0 hS => ?_)
      obtain ⟨hb0, b0⟩ := hS
      have c0 := b0.c 0 rfl
      have c1 := b0.c 1 rfl
      go_wp2_with fail
      refine (CK'.out _ hb0).mono ?_
      rintro e w1 ⟨rfl, hb1⟩
      replace c0 := keepC hb1 c0
      replace c1 := keepC hb1 c1
      replace hb0 := keepB hb0 hb1
      clear hb1 b0
      go_wp2_with fail
      go_ret
      exact ⟨rfl, hb0⟩
  · rw [h1]
    generalize As.chk V = c at *
    have CK' := Lib.hid CK
    clear CK h1 h3 h
    go_enter Try.func24, Try.ntmps24
    go_upto_region 1 with fail
    refine at_worldQ (fun v => Below w.heap.size w v ∧ BK v w.heap.size [.slice A V.length cv, .int .i64 R]) ⟨below_al (Below.refl _ _) _, BK.new _ _ _⟩ (fun V0 hS => ?_)
    obtain ⟨hb0, b0⟩ := hS
    have c0 := b0.c 0 rfl
    go_wp2_with fail
    refine (CK'.out _ hb0).mono ?_
    rintro e w1 ⟨rfl, hb1⟩
    replace hb0 := keepB hb0 hb1
    clear hb1 b0 c0
    go_wp2_with fail
    go_ret
    exact ⟨rfl, hb0⟩
namespace As
theorem sm_el_bd {ps : List Int} {M : Int} {n : Nat} (h : ∀ j, j < n → -M ≤ el ps j ∧ el ps j ≤ M) : ∀ k, k ≤ n → -(k * M) ≤ sm (el ps) (List.range k) ∧ sm (el ps) (List.range k) ≤ k * M
  | 0, _ => by simp [sm]
  | k + 1, hk => by
    have ih := sm_el_bd h k (by omega)
    have h1 := h k (by omega)
    rw [List.range_succ, sm_append]
    simp only [sm]
    rw [show ((k + 1 : Nat) : Int) = k + 1 from rfl, Int.add_mul]
    omega
theorem sm_range_succ (f : Nat → Int) (k : Nat) : sm f (List.range (k + 1)) = sm f (List.range k) + f k := by
  rw [List.range_succ, sm_append]; simp [sm]
end As
set_option maxHeartbeats 2000000 in
theorem rmSum_any (A : Option Addr) (cap : Nat) (ps : List Int) (n : Nat) (hn : ps.length = n) (n6 : n ≤ 6) (hb : ∀ j, j < n → -1000000000 ≤ As.el ps j ∧ As.el ps j ≤ 1000000000) (w : World) (h : IsI w A ps) :
    Calls Try.prog 59 #[.slice A n cap] w fun e w' => e = .returned (.int .i64 (As.sm (As.el ps) (List.range n))) ∧ w' = w := by
  have HC := Lib.hid h
  have HB := Lib.hid hb
  have HN := Lib.hid hn
  have HS := Lib.hid (fun k hk => As.sm_el_bd hb k hk)
  clear h hb hn
  go_enter Try.func59, Try.ntmps59
  go_wp2_with fail
  go_loop [3, 8] (fun s i => ∃ k : Nat, k ≤ n ∧ i = .int .i64 k ∧ s = .int .i64 (As.sm (As.el ps) (List.range k))) (fun _ i => n - (intOf i).toNat)
  case atStart => exact ⟨0, Nat.zero_le _, rfl, rfl⟩
  case round =>
    obtain ⟨k, hk, rfl, rfl⟩ := hrel
    by_cases hlt : k < n
    · obtain ⟨b, off, rfl, hcs⟩ := HC.out.1 (by rw [HN.out]; omega)
      have c0 := hcs k (by rw [HN.out]; exact hlt)
      have ⟨b1, b2⟩ := HB.out k hlt
      have ⟨s1, s2⟩ := HS.out k hk
      have ET := Lib.hid (As.sm_range_succ (As.el ps) k)
      have s3 : -6000000000 ≤ As.sm (As.el ps) (List.range k) := by omega
      have s4 : As.sm (As.el ps) (List.range k) ≤ 6000000000 := by omega
      clear hcs s1 s2
      generalize As.el ps k = x at *
      generalize As.sm (As.el ps) (List.range k) = s at *
      go_wp2_with fail
      go_round
      case rel => exact ⟨k + 1, by omega, by go_num, by rw [ET.out]⟩
      case measure => simp [intOf]; omega
    · obtain rfl : k = n := by omega
      go_wp2_with fail
      go_ret
      exact ⟨rfl, rfl⟩
namespace As
/-- Is a price within m of 0? -/
def pIn (m x : Int) : Bool := decide (-m ≤ x) && decide (x ≤ m)
/-- arePrices. -/
def apB (ps : List Int) (n : Nat) (m : Int) : Bool := decide (ps.length = n) && (List.range n).all (fun j => pIn m (el ps j))
theorem apB_len {ps : List Int} {n : Nat} {m : Int} (h : ¬ ps.length = n) : apB ps n m = false := by unfold apB; rw [decide_eq_false h, Bool.false_and]
theorem apB_no {ps : List Int} {n : Nat} {m : Int} {k : Nat} (hk : k < n) (h : pIn m (el ps k) = false) : apB ps n m = false := by
  unfold apB; rw [Bool.and_eq_false_iff]; right; rw [List.all_eq_false]; exact ⟨k, by simpa using hk, by rw [h]; simp⟩
theorem apB_yes {ps : List Int} {n : Nat} {m : Int} (hl : ps.length = n) (h : ∀ k, k < n → pIn m (el ps k) = true) : apB ps n m = true := by
  unfold apB; rw [decide_eq_true hl, Bool.true_and, List.all_eq_true]; intro k hk; exact h k (by simpa using hk)
end As
set_option maxHeartbeats 2000000 in
theorem arePrices_any (A : Option Addr) (cap : Nat) (ps : List Int) (n : Nat) (m : Int) (m0 : 0 ≤ m) (m1 : m ≤ 1000000000) (w : World) (hl : ps.length ≤ maxLen) (h : IsI w A ps) :
    Calls Try.prog 58 #[.slice A ps.length cap, .int .i64 n, .int .i64 m] w fun e w' => e = .returned (.bool (As.apB ps n m)) ∧ w' = w := by
  unfold maxLen at hl
  by_cases hn : ps.length = n
  · subst hn
    have HC := Lib.hid h
    have HY := Lib.hid (fun hh => @As.apB_yes ps ps.length m rfl hh)
    have HNo := Lib.hid (fun k hk hh => @As.apB_no ps ps.length m k hk hh)
    clear h
    have e0 : ((ps.length : Int) != ps.length) = false := by simp
    generalize hz : As.apB ps ps.length m = z at *
    clear hz
    go_enter Try.func58, Try.ntmps58
    go_wp2_with fail
    go_loop [15] (fun i => ∃ k : Nat, k ≤ ps.length ∧ i = .int .i64 k ∧ Hid (∀ j, j < k → As.pIn m (As.el ps j) = true)) (fun i => ps.length - (intOf i).toNat)
    case atStart => exact ⟨0, Nat.zero_le _, rfl, Lib.hid (fun j hj => absurd hj (Nat.not_lt_zero _))⟩
    case round =>
      obtain ⟨k, hk, rfl, HOK⟩ := hrel
      by_cases hlt : k < ps.length
      · obtain ⟨b, off, rfl, hcs⟩ := HC.out.1 (by omega)
        have c0 := hcs k hlt
        have bd := HC.out.bd k
        have HN := Lib.hid (HNo.out k hlt)
        clear hcs HNo
        have HP := Lib.hid (show As.pIn m (As.el ps k) = (decide (-m ≤ As.el ps k) && decide (As.el ps k ≤ m)) from rfl)
        obtain ⟨b1, b2⟩ := bd
        generalize hx : As.el ps k = x at *
        have HX := Lib.hid hx
        clear hx
        by_cases h1 : x < -m
        · have d1 : decide (x < -m) = true := decide_eq_true h1
          have EB := Lib.hid (HN.out (by rw [HP.out, decide_eq_false (by omega), Bool.false_and]))
          clear h1 HN HP
          go_wp2_with fail
          go_ret
          exact ⟨by rw [EB.out]; rfl, rfl⟩
        · have d1 : decide (x < -m) = false := decide_eq_false h1
          by_cases h2 : m < x
          · have d2 : decide (m < x) = true := decide_eq_true h2
            have EB := Lib.hid (HN.out (by rw [HP.out, decide_eq_false (p := x ≤ m) (by omega), Bool.and_false]))
            clear h1 h2 HN HP
            go_wp2_with fail
            go_ret
            exact ⟨by rw [EB.out]; rfl, rfl⟩
          · have d2 : decide (m < x) = false := decide_eq_false h2
            have EB := Lib.hid (show As.pIn m x = true by rw [HP.out, decide_eq_true (show -m ≤ x by omega), decide_eq_true (show x ≤ m by omega)]; rfl)
            clear h1 h2 HN HP
            go_wp2_with fail
            go_round
            case rel => exact ⟨k + 1, by omega, by go_num, Lib.hid (fun j hj => (Nat.lt_succ_iff_lt_or_eq.1 hj).elim (HOK.out j) (fun e => by rw [e, HX.out]; exact EB.out))⟩
            case measure => simp [intOf]; omega
      · obtain rfl : k = ps.length := by omega
        have EB := Lib.hid (HY.out HOK.out)
        clear HC HOK HNo HY
        go_wp2_with fail
        go_ret
        exact ⟨by rw [EB.out]; rfl, rfl⟩
  · have e0 : ((ps.length : Int) != n) = true := by rw [bne_iff_ne]; omega
    rw [As.apB_len hn]
    clear hn h
    go_enter Try.func58, Try.ntmps58
    go_wp2_with fail
    go_ret
    exact ⟨rfl, rfl⟩
end Go.Proofs.Ytncmffhoodfhjaa
namespace Go.Proofs.Ytncmffhoodfhjaa
open Go.RowKit
namespace As
theorem valS_no {V : List (List Int)} {xs : List Int} (h0 : chk V = 0) (h : isA xs V.length = false) : valS V xs = (0, 8) := by unfold valS; rw [if_pos h0, h]; rfl
theorem valS_ok {V : List (List Int)} {xs : List Int} (h0 : chk V = 0) (h : isA xs V.length = true) : (valS V xs).2 = 0 := by unfold valS; rw [if_pos h0, if_pos h]
theorem vld_no {V : List (List Int)} {R D : Int} {xs ps : List Int} (h0 : rchk V R = 0) (h : leB V.length R xs ps D = false) : vld V R xs ps D = 8 := by unfold vld; rw [if_pos h0, h]; rfl
theorem vld_yes {V : List (List Int)} {R D : Int} {xs ps : List Int} (h0 : rchk V R = 0) (h : leB V.length R xs ps D = true) : vld V R xs ps D = 0 := by unfold vld; rw [if_pos h0, if_pos h]
theorem vld_err {V : List (List Int)} {R D : Int} {xs ps : List Int} (h0 : rchk V R ≠ 0) : vld V R xs ps D = rchk V R := by unfold vld; rw [if_neg h0]
theorem rchk_two (V : List (List Int)) (R : Int) : (rchk V R = 0 ∧ chk V = 0 ∧ 0 ≤ R ∧ R ≤ 10000000) ∨ ((rchk V R != 0) = true ∧ rchk V R ≠ 0) := by
  rcases rchk_cases V R with h | ⟨h, _⟩ | ⟨h1, h2, h3⟩
  · exact .inl h
  · exact .inr ⟨by rw [h]; rfl, by rw [h]; decide⟩
  · exact .inr ⟨by rw [h1]; exact h2, by rw [h1]; exact h3⟩
theorem pIn_prB (D x : Int) : pIn (10000000 * D) x = prB D x := by
  unfold pIn prB
  rw [show -(10000000 * D) = -10000000 * D by omega]
theorem leB_eq (n : Nat) (R : Int) (xs ps : List Int) (D : Int) : leB n R xs ps D = (isA xs n && (decide (1 ≤ D) && (decide (D ≤ 60) && (apB ps n (10000000 * D) && decide (sm (el ps) (List.range n) = D * R))))) := by
  unfold leB apB
  simp only [pIn_prB]
  generalize isA xs n = b1
  generalize decide (ps.length = n) = b2
  generalize decide (1 ≤ D) = b3
  generalize decide (D ≤ 60) = b4
  generalize (List.range n).all (fun j => prB D (el ps j)) = b5
  generalize decide (sm (el ps) (List.range n) = D * R) = b6
  cases b1 <;> cases b2 <;> cases b3 <;> cases b4 <;> cases b5 <;> cases b6 <;> rfl
theorem apB_bd {ps : List Int} {n : Nat} {D : Int} (h : apB ps n (10000000 * D) = true) (d1 : 1 ≤ D) (d2 : D ≤ 60) : ps.length = n ∧ ∀ j, j < n → -1000000000 ≤ el ps j ∧ el ps j ≤ 1000000000 := by
  unfold apB pIn at h
  simp only [Bool.and_eq_true, decide_eq_true_eq, List.all_eq_true, List.mem_range] at h
  exact ⟨h.1, fun j hj => by have := h.2 j hj; omega⟩
end As
set_option maxRecDepth 100000 in
set_option maxHeartbeats 4000000 in
theorem rmValid_any (A : Option Addr) (cv : Nat) (V : List (List Int)) (R : Int) (B : Option Addr) (ca : Nat) (xs : List Int) (C : Option Addr) (cp : Nat) (ps : List Int) (D : Int) (w : World) (hl : V.length ≤ maxLen) (h : IsM w A V) (hx : xs.length ≤ maxLen) (hB : IsI w B xs) (hpm : ps.length ≤ maxLen) (hC : IsI w C ps) :
    Calls Try.prog 23 #[.agg #[.slice A V.length cv, .int .i64 R], .agg #[.slice B xs.length ca, .slice C ps.length cp, .int .i64 D]] w fun e w' => e = .returned (.int .i64 (As.vld V R xs ps D)) ∧ Below w.heap.size w w' := by
  have CK := fun v (hv : Below w.heap.size w v) => rmCheck_any A cv V R v hl (h.keep hv)
  have CV := fun v (hv : Below w.heap.size w v) => asValue_any A cv V B ca xs v hl (h.keep hv) hx (hB.keep hv)
  have CP := fun v (hv : Below w.heap.size w v) (d1 : 1 ≤ D) (d2 : D ≤ 60) => arePrices_any C cp ps V.length (10000000 * D) (by omega) (by omega) v hpm (hC.keep hv)
  have CS := fun v (hv : Below w.heap.size w v) n6 hn hb => rmSum_any C cp ps V.length hn n6 hb v (hC.keep hv)
  rcases As.rchk_two V R with ⟨h0, hc, r0, r1⟩ | ⟨h1, h2⟩
  · rw [h0] at CK
    have CK' := Lib.hid CK
    have n6 := (As.chk_ok hc).n6
    by_cases ha : As.isA xs V.length = true
    · rw [As.valS_ok hc ha] at CV
      have CV' := Lib.hid CV
      generalize (As.valS V xs).1 = z at *
      by_cases e1 : 1 ≤ D
      · by_cases e2 : D ≤ 60
        · have CP' := Lib.hid (fun v hv => CP v hv e1 e2)
          by_cases hap : As.apB ps V.length (10000000 * D) = true
          · obtain ⟨hpl, hpb⟩ := As.apB_bd hap e1 e2
            have CS' := Lib.hid (fun v hv => CS v hv n6 hpl hpb)
            rw [hap] at CP'
            rw [← hpl] at CS'
            have d1 : decide (D < 1) = false := by rw [decide_eq_false_iff_not]; omega
            have d2 : decide (60 < D) = false := by rw [decide_eq_false_iff_not]; omega
            have m1 : R * D ≤ 10000000 * 60 := Int.mul_le_mul r1 e2 (by omega) (by omega)
            have m0 : 0 ≤ R * D := Int.mul_nonneg r0 (by omega)
            by_cases hs : As.sm (As.el ps) (List.range V.length) = R * D
            · rw [As.vld_yes h0 (by rw [As.leB_eq, ha, hap, decide_eq_true e1, decide_eq_true e2, decide_eq_true (by rw [hs, Int.mul_comm])]; rfl)]
              have d3 : (As.sm (As.el ps) (List.range ps.length) != R * D) = false := by rw [bne_eq_false_iff_eq, hpl]; exact hs
              obtain ⟨y, hy⟩ : ∃ y, R * D = y := ⟨_, rfl⟩
              have hw : IntKind.i64.wrap (R * D) = y := by rw [IntWalk.i64_in _ (by omega)]; exact hy
              rw [hy] at d3
              have HD3 := Lib.hid d3
              generalize As.sm (As.el ps) (List.range ps.length) = s at *
              clear CK CV CP CS h0 hc ha hap hpb hs d3 h hB hC hpl m0 m1 hy
              go_enter Try.func23, Try.ntmps23
              go_upto_region 1 with fail
              refine at_box2 (fun V0 hbb b0 b1 hsz => ?_)
              clear hsz
              have c0 := b0.c 0 rfl
              have c1 := b0.c 1 rfl
              have k0 := b1.c 0 rfl
              have k1 := b1.c 1 rfl
              have k2 := b1.c 2 rfl
              go_wp2_with fail
              refine (CK'.out _ hbb).mono ?_
              rintro e w1 ⟨rfl, hb1⟩
              replace c0 := keepC hb1 c0
              replace c1 := keepC hb1 c1
              replace k0 := keepC hb1 k0
              replace k1 := keepC hb1 k1
              replace k2 := keepC hb1 k2
              replace b0 := b0.keep hb1
              replace b1 := b1.keep hb1
              replace hbb := keepB hbb hb1
              clear hb1
              go_wp2_with fail
              refine (CV'.out _ hbb).mono ?_
              rintro e w1 ⟨rfl, hb1⟩
              replace c0 := keepC hb1 c0
              replace c1 := keepC hb1 c1
              replace k0 := keepC hb1 k0
              replace k1 := keepC hb1 k1
              replace k2 := keepC hb1 k2
              replace b0 := b0.keep hb1
              replace b1 := b1.keep hb1
              replace hbb := keepB hbb hb1
              clear hb1
              go_wp2_with fail
              refine (CP'.out _ hbb).mono ?_
              rintro e w3 ⟨rfl, rfl⟩
              go_upto_region 9 with fail
              go_region_held3 (fun v => Below w.heap.size w v ∧ v.cell? ⟨w.heap.size, 1, none⟩ = some (.int .i64 R) ∧ v.cell? ⟨w.heap.size + 1, 1, none⟩ = some (.slice C ps.length cp) ∧ v.cell? ⟨w.heap.size + 1, 2, none⟩ = some (.int .i64 D))
                (first | (exact ⟨hbb.drew, c1, k1, k2⟩) | (exact ⟨hbb, c1, k1, k2⟩) | assumption)
                (first
                  | (go_at_call 59; refine (CS'.out _ (by first | exact (‹Below w.heap.size w _ ∧ _›).1 | exact hbb.drew | exact hbb)).mono ?_; rintro e w3 ⟨rfl, rfl⟩))
              have d3 := HD3.out
              go_wp2_with fail
              go_ret
              exact ⟨rfl, by first | exact hbb.drew | exact hbb | exact (‹Below w.heap.size w _ ∧ _›).1⟩
            · rw [As.vld_no h0 (by rw [As.leB_eq, decide_eq_false (p := As.sm (As.el ps) (List.range V.length) = D * R) (by rw [Int.mul_comm]; exact hs)]; simp)]
              have d3 : (As.sm (As.el ps) (List.range ps.length) != R * D) = true := by rw [bne_iff_ne, hpl]; exact hs
              obtain ⟨y, hy⟩ : ∃ y, R * D = y := ⟨_, rfl⟩
              have hw : IntKind.i64.wrap (R * D) = y := by rw [IntWalk.i64_in _ (by omega)]; exact hy
              rw [hy] at d3
              have HD3 := Lib.hid d3
              generalize As.sm (As.el ps) (List.range ps.length) = s at *
              clear CK CV CP CS h0 hc ha hap hpb hs d3 h hB hC hpl m0 m1 hy
              go_enter Try.func23, Try.ntmps23
              go_upto_region 1 with fail
              refine at_box2 (fun V0 hbb b0 b1 hsz => ?_)
              clear hsz
              have c0 := b0.c 0 rfl
              have c1 := b0.c 1 rfl
              have k0 := b1.c 0 rfl
              have k1 := b1.c 1 rfl
              have k2 := b1.c 2 rfl
              go_wp2_with fail
              refine (CK'.out _ hbb).mono ?_
              rintro e w1 ⟨rfl, hb1⟩
              replace c0 := keepC hb1 c0
              replace c1 := keepC hb1 c1
              replace k0 := keepC hb1 k0
              replace k1 := keepC hb1 k1
              replace k2 := keepC hb1 k2
              replace b0 := b0.keep hb1
              replace b1 := b1.keep hb1
              replace hbb := keepB hbb hb1
              clear hb1
              go_wp2_with fail
              refine (CV'.out _ hbb).mono ?_
              rintro e w1 ⟨rfl, hb1⟩
              replace c0 := keepC hb1 c0
              replace c1 := keepC hb1 c1
              replace k0 := keepC hb1 k0
              replace k1 := keepC hb1 k1
              replace k2 := keepC hb1 k2
              replace b0 := b0.keep hb1
              replace b1 := b1.keep hb1
              replace hbb := keepB hbb hb1
              clear hb1
              go_wp2_with fail
              refine (CP'.out _ hbb).mono ?_
              rintro e w3 ⟨rfl, rfl⟩
              go_upto_region 9 with fail
              go_region_held3 (fun v => Below w.heap.size w v ∧ v.cell? ⟨w.heap.size, 1, none⟩ = some (.int .i64 R) ∧ v.cell? ⟨w.heap.size + 1, 1, none⟩ = some (.slice C ps.length cp) ∧ v.cell? ⟨w.heap.size + 1, 2, none⟩ = some (.int .i64 D))
                (first | (exact ⟨hbb.drew, c1, k1, k2⟩) | (exact ⟨hbb, c1, k1, k2⟩) | assumption)
                (first
                  | (go_at_call 59; refine (CS'.out _ (by first | exact (‹Below w.heap.size w _ ∧ _›).1 | exact hbb.drew | exact hbb)).mono ?_; rintro e w3 ⟨rfl, rfl⟩))
              have d3 := HD3.out
              go_wp2_with fail
              go_ret
              exact ⟨rfl, by first | exact hbb.drew | exact hbb | exact (‹Below w.heap.size w _ ∧ _›).1⟩
          · have hap : As.apB ps V.length (10000000 * D) = false := by simpa using hap
            rw [As.vld_no h0 (by rw [As.leB_eq, hap]; simp)]
            rw [hap] at CP'
            have d1 : decide (D < 1) = false := by rw [decide_eq_false_iff_not]; omega
            have d2 : decide (60 < D) = false := by rw [decide_eq_false_iff_not]; omega
            clear CK CV CP CS h0 hc ha hap h hB hC
            go_enter Try.func23, Try.ntmps23
            go_upto_region 1 with fail
            refine at_box2 (fun V0 hbb b0 b1 hsz => ?_)
            clear hsz
            have c0 := b0.c 0 rfl
            have c1 := b0.c 1 rfl
            have k0 := b1.c 0 rfl
            have k1 := b1.c 1 rfl
            have k2 := b1.c 2 rfl
            go_wp2_with fail
            refine (CK'.out _ hbb).mono ?_
            rintro e w1 ⟨rfl, hb1⟩
            replace c0 := keepC hb1 c0
            replace c1 := keepC hb1 c1
            replace k0 := keepC hb1 k0
            replace k1 := keepC hb1 k1
            replace k2 := keepC hb1 k2
            replace b0 := b0.keep hb1
            replace b1 := b1.keep hb1
            replace hbb := keepB hbb hb1
            clear hb1
            go_wp2_with fail
            refine (CV'.out _ hbb).mono ?_
            rintro e w1 ⟨rfl, hb1⟩
            replace c0 := keepC hb1 c0
            replace c1 := keepC hb1 c1
            replace k0 := keepC hb1 k0
            replace k1 := keepC hb1 k1
            replace k2 := keepC hb1 k2
            replace b0 := b0.keep hb1
            replace b1 := b1.keep hb1
            replace hbb := keepB hbb hb1
            clear hb1
            go_wp2_with fail
            refine (CP'.out _ hbb).mono ?_
            rintro e w3 ⟨rfl, rfl⟩
            go_wp2_with fail
            go_ret
            exact ⟨rfl, hbb⟩
        · rw [As.vld_no h0 (by rw [As.leB_eq, decide_eq_false e2]; simp)]
          have d1 : decide (D < 1) = false := by rw [decide_eq_false_iff_not]; omega
          have d2 : decide (60 < D) = true := by rw [decide_eq_true_eq]; omega
          clear CK CV CP CS h0 hc ha h hB hC
          go_enter Try.func23, Try.ntmps23
          go_upto_region 1 with fail
          refine at_box2 (fun V0 hbb b0 b1 hsz => ?_)
          clear hsz
          have c0 := b0.c 0 rfl
          have c1 := b0.c 1 rfl
          have k0 := b1.c 0 rfl
          have k1 := b1.c 1 rfl
          have k2 := b1.c 2 rfl
          go_wp2_with fail
          refine (CK'.out _ hbb).mono ?_
          rintro e w1 ⟨rfl, hb1⟩
          replace c0 := keepC hb1 c0
          replace c1 := keepC hb1 c1
          replace k0 := keepC hb1 k0
          replace k1 := keepC hb1 k1
          replace k2 := keepC hb1 k2
          replace b0 := b0.keep hb1
          replace b1 := b1.keep hb1
          replace hbb := keepB hbb hb1
          clear hb1
          go_wp2_with fail
          refine (CV'.out _ hbb).mono ?_
          rintro e w1 ⟨rfl, hb1⟩
          replace c0 := keepC hb1 c0
          replace c1 := keepC hb1 c1
          replace k0 := keepC hb1 k0
          replace k1 := keepC hb1 k1
          replace k2 := keepC hb1 k2
          replace b0 := b0.keep hb1
          replace b1 := b1.keep hb1
          replace hbb := keepB hbb hb1
          clear hb1
          go_wp2_with fail
          go_ret
          exact ⟨rfl, hbb⟩
      · rw [As.vld_no h0 (by rw [As.leB_eq, decide_eq_false e1]; simp)]
        have d1 : decide (D < 1) = true := by rw [decide_eq_true_eq]; omega
        clear CK CV CP CS h0 hc ha h hB hC
        go_enter Try.func23, Try.ntmps23
        go_upto_region 1 with fail
        refine at_box2 (fun V0 hbb b0 b1 hsz => ?_)
        clear hsz
        have c0 := b0.c 0 rfl
        have c1 := b0.c 1 rfl
        have k0 := b1.c 0 rfl
        have k1 := b1.c 1 rfl
        have k2 := b1.c 2 rfl
        go_wp2_with fail
        refine (CK'.out _ hbb).mono ?_
        rintro e w1 ⟨rfl, hb1⟩
        replace c0 := keepC hb1 c0
        replace c1 := keepC hb1 c1
        replace k0 := keepC hb1 k0
        replace k1 := keepC hb1 k1
        replace k2 := keepC hb1 k2
        replace b0 := b0.keep hb1
        replace b1 := b1.keep hb1
        replace hbb := keepB hbb hb1
        clear hb1
        go_wp2_with fail
        refine (CV'.out _ hbb).mono ?_
        rintro e w1 ⟨rfl, hb1⟩
        replace c0 := keepC hb1 c0
        replace c1 := keepC hb1 c1
        replace k0 := keepC hb1 k0
        replace k1 := keepC hb1 k1
        replace k2 := keepC hb1 k2
        replace b0 := b0.keep hb1
        replace b1 := b1.keep hb1
        replace hbb := keepB hbb hb1
        clear hb1
        go_wp2_with fail
        go_ret
        exact ⟨rfl, hbb⟩
    · have ha : As.isA xs V.length = false := by simpa using ha
      rw [As.vld_no h0 (by rw [As.leB_eq, ha]; rfl)]
      rw [As.valS_no hc ha] at CV
      have CV' := Lib.hid CV
      clear CK CV CP CS h0 hc ha h hB hC
      go_enter Try.func23, Try.ntmps23
      go_upto_region 1 with fail
      refine at_box2 (fun V0 hbb b0 b1 hsz => ?_)
      clear hsz
      have c0 := b0.c 0 rfl
      have c1 := b0.c 1 rfl
      have k0 := b1.c 0 rfl
      have k1 := b1.c 1 rfl
      have k2 := b1.c 2 rfl
      go_wp2_with fail
      refine (CK'.out _ hbb).mono ?_
      rintro e w1 ⟨rfl, hb1⟩
      replace c0 := keepC hb1 c0
      replace c1 := keepC hb1 c1
      replace k0 := keepC hb1 k0
      replace k1 := keepC hb1 k1
      replace k2 := keepC hb1 k2
      replace b0 := b0.keep hb1
      replace b1 := b1.keep hb1
      replace hbb := keepB hbb hb1
      clear hb1
      go_wp2_with fail
      refine (CV'.out _ hbb).mono ?_
      rintro e w1 ⟨rfl, hb1⟩
      replace c0 := keepC hb1 c0
      replace c1 := keepC hb1 c1
      replace k0 := keepC hb1 k0
      replace k1 := keepC hb1 k1
      replace k2 := keepC hb1 k2
      replace b0 := b0.keep hb1
      replace b1 := b1.keep hb1
      replace hbb := keepB hbb hb1
      clear hb1
      go_wp2_with fail
      go_ret
      exact ⟨rfl, hbb⟩
  · rw [As.vld_err h2]
    generalize As.rchk V R = c at *
    have CK' := Lib.hid CK
    clear CK CV CP CS h2 h hB hC
    go_enter Try.func23, Try.ntmps23
    go_upto_region 1 with fail
    refine at_box2 (fun V0 hbb b0 b1 hsz => ?_)
    clear hsz
    have c0 := b0.c 0 rfl
    have c1 := b0.c 1 rfl
    have k0 := b1.c 0 rfl
    have k1 := b1.c 1 rfl
    have k2 := b1.c 2 rfl
    go_wp2_with fail
    refine (CK'.out _ hbb).mono ?_
    rintro e w1 ⟨rfl, hb1⟩
    replace c0 := keepC hb1 c0
    replace c1 := keepC hb1 c1
    replace k0 := keepC hb1 k0
    replace k1 := keepC hb1 k1
    replace k2 := keepC hb1 k2
    replace b0 := b0.keep hb1
    replace b1 := b1.keep hb1
    replace hbb := keepB hbb hb1
    clear hb1
    go_wp2_with fail
    go_ret
    exact ⟨rfl, hbb⟩
end Go.Proofs.Ytncmffhoodfhjaa
namespace Go.Proofs.Ytncmffhoodfhjaa
open Go.RowKit
/-- A valid lease of a valid flat, in memory. -/
structure Ls (w : World) (A B C : Option Addr) (V : List (List Int)) (R : Int) (a : List Nat) (ps : List Int) (D : Int) : Prop where
  ok : As.Ok V
  r0 : 0 ≤ R
  r1 : R ≤ 10000000
  le : As.Le14 V.length R a ps D
  hM : IsM w A V
  hB : IsI w B (As.al a)
  hC : IsI w C ps
theorem Ls.keep {w v : World} {A B C : Option Addr} {V : List (List Int)} {R : Int} {a : List Nat} {ps : List Int} {D : Int} (h : Ls w A B C V R a ps D) (hb : Below w.heap.size w v) : Ls v A B C V R a ps D :=
  ⟨h.ok, h.r0, h.r1, h.le, h.hM.keep hb, h.hB.keep hb, h.hC.keep hb⟩
theorem Ls.la {w : World} {A B C : Option Addr} {V : List (List Int)} {R : Int} {a : List Nat} {ps : List Int} {D : Int} (h : Ls w A B C V R a ps D) : a.length = V.length := by simpa using h.le.perm.length_eq
theorem Ls.lt {w : World} {A B C : Option Addr} {V : List (List Int)} {R : Int} {a : List Nat} {ps : List Int} {D : Int} (h : Ls w A B C V R a ps D) {i : Nat} (hi : i < V.length) : a.getD i 0 < V.length := (As.perm_lt h.le.perm).2 i hi
/-- The two boxes that a closure has: the flat and the lease. -/
structure Bx (v : World) (p q : Nat) (A : Option Addr) (cv : Nat) (V : List (List Int)) (R : Int) (B : Option Addr) (ca na : Nat) (C : Option Addr) (cp np : Nat) (D : Int) : Prop where
  p0 : v.cell? ⟨p, 0, none⟩ = some (.slice A V.length cv)
  p1 : v.cell? ⟨p, 1, none⟩ = some (.int .i64 R)
  q0 : v.cell? ⟨q, 0, none⟩ = some (.slice B na ca)
  q1 : v.cell? ⟨q, 1, none⟩ = some (.slice C np cp)
  q2 : v.cell? ⟨q, 2, none⟩ = some (.int .i64 D)
theorem Bx.keep {v w : World} {p q : Nat} {A : Option Addr} {cv : Nat} {V : List (List Int)} {R : Int} {B : Option Addr} {ca na : Nat} {C : Option Addr} {cp np : Nat} {D : Int} (h : Bx v p q A cv V R B ca na C cp np D) (hb : Below v.heap.size v w) : Bx w p q A cv V R B ca na C cp np D :=
  ⟨keepC hb h.p0, keepC hb h.p1, keepC hb h.q0, keepC hb h.q1, keepC hb h.q2⟩
theorem Bx.of {v : World} {p q : Nat} {A : Option Addr} {cv : Nat} {V : List (List Int)} {R : Int} {B : Option Addr} {ca na : Nat} {C : Option Addr} {cp np : Nat} {D : Int} (b0 : BK v p [.slice A V.length cv, .int .i64 R]) (b1 : BK v q [.slice B na ca, .slice C np cp, .int .i64 D]) : Bx v p q A cv V R B ca na C cp np D :=
  ⟨b0.c 0 rfl, b0.c 1 rfl, b1.c 0 rfl, b1.c 1 rfl, b1.c 2 rfl⟩
/-- What gainsAt gives. -/
def GaQ (w : World) (A : Option Addr) (cv : Nat) (V : List (List Int)) (R : Int) (B : Option Addr) (ca na : Nat) (C : Option Addr) (cp np : Nat) (D : Int) (e : Ending) (w' : World) : Prop :=
  ∃ p q, e = .returned (.func (.func 78) #[] #[.pointer (some ⟨p, 0, none⟩), .pointer (some ⟨q, 0, none⟩)]) ∧ Bx w' p q A cv V R B ca na C cp np D ∧ Below w.heap.size w w'
set_option maxHeartbeats 2000000 in
theorem gainsAt_any (A : Option Addr) (cv : Nat) (V : List (List Int)) (R : Int) (B : Option Addr) (ca na : Nat) (C : Option Addr) (cp np : Nat) (D : Int) (w : World) :
    Calls Try.prog 56 #[.agg #[.slice A V.length cv, .int .i64 R], .agg #[.slice B na ca, .slice C np cp, .int .i64 D]] w (GaQ w A cv V R B ca na C cp np D) := by
  go_enter Try.func56, Try.ntmps56
  go_upto_region 1 with fail
  refine at_box2 (fun V0 hbb b0 b1 hsz => ?_)
  clear hsz
  have HB := Lib.hid (Bx.of b0 b1)
  have HBB := Lib.hid hbb
  clear b0 b1 hbb
  go_wp2_with fail
  go_ret
  exact ⟨_, _, rfl, HB.out, HBB.out⟩
namespace As
theorem gn_eq (V : List (List Int)) (ps : List Int) (D : Int) (i j : Nat) : gnF V ps D i j = vl V i j * D - el ps j := rfl
theorem mul_bd {V : List (List Int)} (ok : Ok V) {D : Int} (d1 : 1 ≤ D) (d60 : D ≤ 60) (i j : Nat) : 0 ≤ vl V i j * D ∧ vl V i j * D ≤ 60000000 := by
  have h1 := ok.bd i j
  exact ⟨Int.mul_nonneg h1.1 (by omega), Int.le_trans (Int.mul_le_mul h1.2 d60 (by omega) (by omega)) (by decide)⟩
theorem pr_bd {n : Nat} {R : Int} {a : List Nat} {ps : List Int} {D : Int} (h : Le14 n R a ps D) {j : Nat} (hj : j < n) : -600000000 ≤ el ps j ∧ el ps j ≤ 600000000 := by
  have h1 := h.pb j hj
  have h2 := h.d1
  have h3 := h.d60
  omega
end As
/-- The row i of bids, as a cell and cells. -/
theorem row_at {w : World} {A : Option Addr} {V : List (List Int)} (ok : As.Ok V) (h : IsM w A V) {i : Nat} (hi : i < V.length) :
    ∃ b off rb ro c, A = some ⟨b, off, none⟩ ∧ w.cell? ⟨b, off + i, none⟩ = some (.slice (some ⟨rb, ro, none⟩) V.length c) ∧ ∀ j, j < V.length → w.cell? ⟨rb, ro + j, none⟩ = some (.int .i64 (As.vl V i j)) := by
  obtain ⟨b, off, e, hrows⟩ := h (by omega)
  obtain ⟨Q, c, hc, _, hI⟩ := hrows i hi
  rw [ok.row i hi] at hc
  obtain ⟨rb, ro, rfl, hcs⟩ := hI.1 (by rw [ok.row i hi]; omega)
  exact ⟨b, off, rb, ro, c, e, hc, fun j hj => hcs j (by rw [ok.row i hi]; exact hj)⟩
theorem list_at {w : World} {A : Option Addr} {ps : List Int} (h : IsI w A ps) {j : Nat} (hj : j < ps.length) : ∃ b off, A = some ⟨b, off, none⟩ ∧ ∀ k, k < ps.length → w.cell? ⟨b, off + k, none⟩ = some (.int .i64 (As.el ps k)) := by
  obtain ⟨b, off, e, hc⟩ := h.1 (by omega)
  exact ⟨b, off, e, hc⟩
set_option maxRecDepth 100000 in
set_option maxHeartbeats 2000000 in
theorem rmGain1_any (p q : Nat) (A : Option Addr) (cv : Nat) (V : List (List Int)) (R : Int) (B : Option Addr) (ca : Nat) (a : List Nat) (C : Option Addr) (cp : Nat) (ps : List Int) (D : Int) (i j : Nat) (w : World) (hL : Ls w A B C V R a ps D) (hX : Bx w p q A cv V R B ca V.length C cp V.length D) (hi : i < V.length) (hj : j < V.length) :
    Calls Try.prog 78 #[.int .i64 i, .int .i64 j, .pointer (some ⟨p, 0, none⟩), .pointer (some ⟨q, 0, none⟩)] w fun e w' => e = .returned (.int .i64 (As.gnF V ps D i j)) ∧ Below w.heap.size w w' := by
  obtain ⟨b, off, rb, ro, c, rfl, hc, hcs⟩ := row_at hL.ok hL.hM hi
  obtain ⟨cb, co, rfl, hps⟩ := list_at hL.hC (j := j) (by rw [hL.le.len]; exact hj)
  have x1 := hcs j hj
  have x2 := hps j (by rw [hL.le.len]; exact hj)
  have z0 := hX.p0
  have z1 := hX.q1
  have z2 := hX.q2
  obtain ⟨m0, m1⟩ := As.mul_bd hL.ok hL.le.d1 hL.le.d60 i j
  obtain ⟨q0, q1⟩ := As.pr_bd hL.le hj
  rw [As.gn_eq]
  generalize As.vl V i j = x at *
  generalize As.el ps j = z at *
  obtain ⟨y, hy⟩ : ∃ y, x * D = y := ⟨_, rfl⟩
  have hw : IntKind.i64.wrap (x * D) = y := by rw [IntWalk.i64_in _ (by omega)]; exact hy
  rw [hy] at m0 m1
  have hw2 : IntKind.i64.wrap (y - z) = y - z := IntWalk.i64_in _ (by omega)
  rw [hy]
  clear hcs hps hL hX hy
  go_enter Try.func78, Try.ntmps78
  go_upto_region 1 with fail
  go_region_held3 (fun v => Below w.heap.size w v ∧ v.cell? ⟨p, 0, none⟩ = some (.slice (some ⟨b, off, none⟩) V.length cv) ∧ v.cell? ⟨q, 1, none⟩ = some (.slice (some ⟨cb, co, none⟩) V.length cp) ∧ v.cell? ⟨q, 2, none⟩ = some (.int .i64 D) ∧ v.cell? ⟨b, off + i, none⟩ = some (.slice (some ⟨rb, ro, none⟩) V.length c) ∧ v.cell? ⟨rb, ro + j, none⟩ = some (.int .i64 x) ∧ v.cell? ⟨cb, co + j, none⟩ = some (.int .i64 z))
    (first | (exact ⟨(Below.refl _ _).drew, z0, z1, z2, hc, x1, x2⟩) | (exact ⟨Below.refl _ _, z0, z1, z2, hc, x1, x2⟩))
    (fail)
  go_wp2_with fail
  go_ret
  exact ⟨rfl, by first | exact Below.refl _ _ | exact (Below.refl _ _).drew | exact below_drewN (Below.refl _ _) _ | exact (‹Below w.heap.size w _ ∧ _›).1⟩
set_option maxRecDepth 100000 in
set_option maxHeartbeats 2000000 in
theorem rGain_any (A : Option Addr) (cv : Nat) (V : List (List Int)) (R : Int) (B : Option Addr) (ca : Nat) (a : List Nat) (C : Option Addr) (cp : Nat) (ps : List Int) (D : Int) (i j : Nat) (w : World) (hL : Ls w A B C V R a ps D) (hi : i < V.length) (hj : j < V.length) :
    Calls Try.prog 35 #[.agg #[.slice A V.length cv, .int .i64 R], .agg #[.slice B V.length ca, .slice C V.length cp, .int .i64 D], .int .i64 i, .int .i64 j] w fun e w' => e = .returned (.int .i64 (As.gnF V ps D i j)) ∧ Below w.heap.size w w' := by
  obtain ⟨b, off, rb, ro, c, rfl, hc, hcs⟩ := row_at hL.ok hL.hM hi
  obtain ⟨cb, co, rfl, hps⟩ := list_at hL.hC (j := j) (by rw [hL.le.len]; exact hj)
  have x1 := hcs j hj
  have x2 := hps j (by rw [hL.le.len]; exact hj)
  obtain ⟨m0, m1⟩ := As.mul_bd hL.ok hL.le.d1 hL.le.d60 i j
  obtain ⟨q0, q1⟩ := As.pr_bd hL.le hj
  rw [As.gn_eq]
  generalize As.vl V i j = x at *
  generalize As.el ps j = z at *
  obtain ⟨y, hy⟩ : ∃ y, x * D = y := ⟨_, rfl⟩
  have hw : IntKind.i64.wrap (x * D) = y := by rw [IntWalk.i64_in _ (by omega)]; exact hy
  rw [hy] at m0 m1
  have hw2 : IntKind.i64.wrap (y - z) = y - z := IntWalk.i64_in _ (by omega)
  rw [hy]
  have HC := Lib.hid hc
  have HX1 := Lib.hid x1
  have HX2 := Lib.hid x2
  clear hcs hps hL hy hc x1 x2
  go_enter Try.func35, Try.ntmps35
  go_upto_region 1 with fail
  refine at_box2 (fun V0 hbb b0 b1 hsz => ?_)
  clear hsz
  have c0 := b0.c 0 rfl
  have c1 := b1.c 1 rfl
  have c2 := b1.c 2 rfl
  have hc := keepC hbb HC.out
  have x1 := keepC hbb HX1.out
  have x2 := keepC hbb HX2.out
  go_region_held3 (fun v => Below w.heap.size w v ∧ v.cell? ⟨w.heap.size, 0, none⟩ = some (.slice (some ⟨b, off, none⟩) V.length cv) ∧ v.cell? ⟨w.heap.size + 1, 1, none⟩ = some (.slice (some ⟨cb, co, none⟩) V.length cp) ∧ v.cell? ⟨w.heap.size + 1, 2, none⟩ = some (.int .i64 D) ∧ v.cell? ⟨b, off + i, none⟩ = some (.slice (some ⟨rb, ro, none⟩) V.length c) ∧ v.cell? ⟨rb, ro + j, none⟩ = some (.int .i64 x) ∧ v.cell? ⟨cb, co + j, none⟩ = some (.int .i64 z))
    (first | (exact ⟨hbb.drew, c0, c1, c2, hc, x1, x2⟩) | (exact ⟨hbb, c0, c1, c2, hc, x1, x2⟩))
    (fail)
  go_wp2_with fail
  go_ret
  exact ⟨rfl, by first | exact hbb | exact hbb.drew | exact below_drewN hbb _ | exact (‹Below w.heap.size w _ ∧ _›).1⟩
end Go.Proofs.Ytncmffhoodfhjaa
namespace Go.Proofs.Ytncmffhoodfhjaa
open Go.RowKit
namespace As
/-- What Gains returns. -/
def gnS (V : List (List Int)) (R : Int) (xs ps : List Int) (D : Int) : List Int := if vld V R xs ps D = 0 then gnl V (xs.map Int.toNat) ps D V.length else []
theorem gnl_len (V : List (List Int)) (a : List Nat) (ps : List Int) (D : Int) (k : Nat) : (gnl V a ps D k).length = k := by simp [gnl]
theorem vld_cases (V : List (List Int)) (R : Int) (xs ps : List Int) (D : Int) : vld V R xs ps D = 0 ∨ (vld V R xs ps D != 0) = true ∧ vld V R xs ps D ≠ 0 := by
  by_cases h : vld V R xs ps D = 0
  · exact .inl h
  · exact .inr ⟨by rw [bne_iff_ne]; exact h, h⟩
theorem gnS_no {V : List (List Int)} {R : Int} {xs ps : List Int} {D : Int} (h : vld V R xs ps D ≠ 0) : gnS V R xs ps D = [] := by unfold gnS; rw [if_neg h]
theorem gnS_yes {V : List (List Int)} {R : Int} {a : List Nat} {ps : List Int} {D : Int} (h : vld V R (al a) ps D = 0) : gnS V R (al a) ps D = gnl V a ps D V.length := by unfold gnS; rw [if_pos h, toNat_al]
end As
/-- A valid lease in memory. -/
theorem ls_of {w : World} {A B C : Option Addr} {V : List (List Int)} {R : Int} {xs ps : List Int} {D : Int} (h : As.vld V R xs ps D = 0) (hM : IsM w A V) (hB : IsI w B xs) (hC : IsI w C ps) : ∃ a, xs = As.al a ∧ Ls w A B C V R a ps D := by
  obtain ⟨ok, r0, r1, a, rfl, le⟩ := As.vld_zero h
  exact ⟨a, rfl, ok, r0, r1, le, hM, hB, hC⟩
/-- What Gains gives. -/
def GnQ (w : World) (V : List (List Int)) (R : Int) (xs ps : List Int) (D : Int) (e : Ending) (w' : World) : Prop :=
  ∃ X c, e = .returned (.tuple #[.slice X (As.gnS V R xs ps D).length c, .int .i64 (As.vld V R xs ps D)]) ∧ IsI w' X (As.gnS V R xs ps D) ∧ Below w.heap.size w w'
/-- An int more in a slice of the call's own. -/
theorem own_app {W w3 w6 : World} {v : Value} {o : Obj} {B : Nat} (hB : B = W.heap.size) (hb : Below W.heap.size W w3) (hO : ∀ g, v.ownBlock = some g → B ≤ g) (hg : (w3.alloc o).grownBy w6 v.ownBlock) : Below W.heap.size W w6 := by
  subst hB
  exact (below_al hb o).grown hg (by have := hb.size; simp; omega) hO
theorem gn_i64 {w : World} {A B C : Option Addr} {V : List (List Int)} {R : Int} {a : List Nat} {ps : List Int} {D : Int} (h : Ls w A B C V R a ps D) : ∀ x ∈ As.gnl V a ps D V.length, I64 x := fun x hx => by
  obtain ⟨i, hi, rfl⟩ := List.mem_map.1 hx
  have hi' : i < V.length := by simpa using hi
  have := As.gnF_bd h.ok h.le i (h.lt hi')
  unfold I64; omega
set_option maxRecDepth 100000 in
set_option maxHeartbeats 4000000 in
theorem rmGains_any (A : Option Addr) (cv : Nat) (V : List (List Int)) (R : Int) (B : Option Addr) (ca : Nat) (xs : List Int) (C : Option Addr) (cp : Nat) (ps : List Int) (D : Int) (w : World) (hl : V.length ≤ maxLen) (h : IsM w A V) (hx : xs.length ≤ maxLen) (hB : IsI w B xs) (hpm : ps.length ≤ maxLen) (hC : IsI w C ps) :
    Calls Try.prog 22 #[.agg #[.slice A V.length cv, .int .i64 R], .agg #[.slice B xs.length ca, .slice C ps.length cp, .int .i64 D]] w (GnQ w V R xs ps D) := by
  have CV := fun v (hv : Below w.heap.size w v) => rmValid_any A cv V R B ca xs C cp ps D v hl (h.keep hv) hx (hB.keep hv) hpm (hC.keep hv)
  rcases As.vld_cases V R xs ps D with h0 | ⟨h1, h2⟩
  · rw [h0] at CV
    obtain ⟨a, rfl, hL⟩ := ls_of h0 h hB hC
    have la := hL.la
    have lp := hL.le.len
    have n6 := hL.ok.n6
    have HF := Lib.hid (show ∀ (X : Option Addr) (c Bs : Nat) (w' : World), Own w' Bs (.slice X V.length c) (As.gnl V a ps D V.length) → Below w.heap.size w w' → GnQ w V R (As.al a) ps D (.returned (.tuple #[.slice X V.length c, .int .i64 0])) w' from fun X c Bs w' hO hb => ⟨X, c, by rw [As.gnS_yes h0, As.gnl_len, h0], by
      rw [As.gnS_yes h0]
      exact hO.isI (gn_i64 hL), hb⟩)
    rw [As.al_len, la, lp] at CV ⊢
    have CG := Lib.hid (fun v => gainsAt_any A cv V R B ca V.length C cp V.length D v)
    have CV' := Lib.hid CV
    have HL := Lib.hid hL
    obtain ⟨i0, hi0, hz0, hz1, hz2⟩ := info_parts intInfo
    have HI := Lib.hid hi0
    have HI2 := Lib.hid hz0
    have HI3 := Lib.hid hz1
    have HI4 := Lib.hid hz2
    clear CV h0 h hB hC hL la lp hi0 hz0 hz1 hz2 hx hpm
    go_enter Try.func22, Try.ntmps22
    go_upto_region 1 with fail
    refine at_box2 (fun V0 hbb b0 b1 hsz => ?_)
    clear hsz
    have c0 := b0.c 0 rfl
    have c1 := b0.c 1 rfl
    have k0 := b1.c 0 rfl
    have k1 := b1.c 1 rfl
    have k2 := b1.c 2 rfl
    go_wp2_with fail
    refine (CV'.out _ hbb).mono ?_
    rintro e w1 ⟨rfl, hb1⟩
    replace c0 := keepC hb1 c0
    replace c1 := keepC hb1 c1
    replace k0 := keepC hb1 k0
    replace k1 := keepC hb1 k1
    replace k2 := keepC hb1 k2
    replace hbb := keepB hbb hb1
    clear hb1 b0 b1
    go_wp2_with fail
    refine (CG.out _).mono ?_
    rintro e w2 ⟨p, q, rfl, hX, hb2⟩
    replace k0 := keepC hb2 k0
    have HX := Lib.hid hX
    have HBB := Lib.hid (keepB hbb hb2)
    have HLS := Lib.hid (HL.out.keep (keepB hbb hb2))
    clear hb2 hX c0 c1 k1 k2 hbb
    go_wp2_with fail
    go_loopw [8, 23] (fun v i W => ∃ k : Nat, k ≤ V.length ∧ i = .int .i64 k ∧ Hid (Below w2.heap.size w2 W) ∧ Hid (Own W w2.heap.size v (As.gnl V a ps D k))) (fun _ i _ => V.length - (intOf i).toNat)
    case atStart => exact ⟨0, Nat.zero_le _, rfl, Lib.hid (Below.refl _ _), Lib.hid (Own.nil_ _ _)⟩
    case round =>
      obtain ⟨k, hk, rfl, HW, HO⟩ := hrel
      by_cases hlt : k < V.length
      · obtain ⟨bb, bo, rfl, hcs⟩ := list_at HLS.out.hB (j := k) (by rw [As.al_len, HLS.out.la]; exact hlt)
        have x0 := keepC HW.out (hcs k (by rw [As.al_len, HLS.out.la]; exact hlt))
        rw [As.el_al] at x0
        have hj := HLS.out.lt hlt
        have HG := Lib.hid (rmGain1_any p q A cv V R (some ⟨bb, bo, none⟩) ca a C cp ps D k (a.getD k 0) wr (HLS.out.keep HW.out) (HX.out.keep HW.out) hlt hj)
        have HS := Lib.hid (As.gnl_succ V a ps D k)
        have HLEN := Lib.hid (As.gnl_len V a ps D k)
        clear hcs
        generalize As.gnF V ps D k (a.getD k 0) = x at *
        generalize a.getD k 0 = j at *
        go_wp2_with fail
        refine HG.out.mono ?_
        rintro e w3 ⟨rfl, hb3⟩
        have HO3 := Lib.hid (HO.out.keepB hb3)
        have HW3 := Lib.hid (keepB HW.out hb3)
        have hO := HO3.out
        unfold Own at hO
        rw [HLEN.out] at hO
        have hsz3 := HW3.out.size
        clear hb3 x0
        go_wp2_with (at_builtin; go_loud (refine wpList_append_lies _ rfl _ _ _ rfl w2.heap.size 3 i0 _ 1 8 Try.underlying25 HI.out HI2.out HI3.out HI4.out rfl (by omega) _ k ((As.gnl V a ps D k).map (Value.int .i64)) (by rfl) (World.ownsRow.alloc hO _) ⟨w3.heap.size, 0, none⟩ 1 1 [.int .i64 x] (by rfl) (by rfl) (World.news_of_block (cs := #[.int .i64 x]) (t := 3) (fr := (0, 0)) (heap_alloc_new w3 _)) (by simp [Value.oneCell']) (by omega) (by unfold maxLen; omega) (by omega) (by simp; omega) (w3.heap.size + 1) (by simp) ?_; intro g cap w6 hown1 hgrow hat hglt))
        all_goals exact ⟨⟨k + 1, by omega, by go_num, Lib.hid (own_app rfl HW3.out (fun b hb => (World.ownsRow.lt hO b hb).1) hgrow), Lib.hid (by
          unfold Own
          rw [HS.out, List.length_append, HLEN.out, List.map_append]
          exact hown1)⟩, by simp [intOf]; omega⟩
      · obtain rfl : k = V.length := by omega
        obtain ⟨X, cc, rfl⟩ := HO.out.form
        have hO := HO.out
        rw [As.gnl_len] at hO ⊢
        have HFF := Lib.hid (HF.out X cc _ wr hO (keepB HBB.out HW.out))
        clear hO
        go_wp2_with fail
        go_ret2
        exact HFF.out
  · have HQ := Lib.hid (show ∀ (w' : World), Below w.heap.size w w' → GnQ w V R xs ps D (.returned (.tuple #[.slice none 0 0, .int .i64 (As.vld V R xs ps D)])) w' from fun w' hb => ⟨none, 0, by rw [As.gnS_no h2]; rfl, by rw [As.gnS_no h2]; exact isI_nil _ _, hb⟩)
    generalize As.vld V R xs ps D = c at *
    have CV' := Lib.hid CV
    clear CV h2 h hB hC hl hx hpm
    go_enter Try.func22, Try.ntmps22
    go_upto_region 1 with fail
    refine at_box2 (fun V0 hbb b0 b1 hsz => ?_)
    clear hsz
    have c0 := b0.c 0 rfl
    have c1 := b0.c 1 rfl
    have k0 := b1.c 0 rfl
    have k1 := b1.c 1 rfl
    have k2 := b1.c 2 rfl
    go_wp2_with fail
    refine (CV'.out _ hbb).mono ?_
    rintro e w1 ⟨rfl, hb1⟩
    replace hbb := keepB hbb hb1
    clear hb1 b0 b1 c0 c1 k0 k1 k2
    go_wp2_with fail
    go_ret2
    exact HQ.out _ hbb
end Go.Proofs.Ytncmffhoodfhjaa
namespace Go.Proofs.Ytncmffhoodfhjaa
open Go.RowKit
namespace Rp
theorem q_parts {a n : Int} (h : 1 ≤ n) : ((q a n).den : Int) = n / (Int.gcd n a : Int) ∧ (q a n).num = a / (Int.gcd n a : Int) := by
  constructor
  · unfold q
    rw [Rat.den_divInt, if_neg (by omega)]
    have : n.natAbs = n := Int.natAbs_of_nonneg (by omega)
    rw [Int.natCast_ediv, this]
  · unfold q
    rw [Rat.num_divInt, Int.sign_eq_one_of_pos (by omega), Int.one_mul]
end Rp
namespace As
theorem gcl_even {n : Nat} (n1 : 1 ≤ n) (x : Nat → Int) (c : Int) : gcl n ((List.range n).map fun j => (n : Int) * x j + c) = Int.gcd n c := by
  have h1 : ∀ d : Nat, d ∣ gcl n ((List.range n).map fun j => (n : Int) * x j + c) ↔ d ∣ n ∧ (d : Int) ∣ c := by
    intro d
    rw [gcl_dvs]
    unfold dvs
    constructor
    · rintro ⟨h2, h3⟩
      refine ⟨h2, ?_⟩
      have h4 := h3 ((n : Int) * x 0 + c) (List.mem_map.2 ⟨0, List.mem_range.2 (by omega), rfl⟩)
      have h5 : (d : Int) ∣ (n : Int) * x 0 := Int.dvd_trans (Int.ofNat_dvd.2 h2) (Int.dvd_mul_right _ _)
      exact (Int.dvd_iff_dvd_of_dvd_add h4).1 h5
    · rintro ⟨h2, h3⟩
      refine ⟨h2, fun y hy => ?_⟩
      obtain ⟨j, _, rfl⟩ := List.mem_map.1 hy
      exact Int.dvd_add (Int.dvd_trans (Int.ofNat_dvd.2 h2) (Int.dvd_mul_right _ _)) h3
  have h2 : ∀ d : Nat, d ∣ Int.gcd n c ↔ d ∣ n ∧ (d : Int) ∣ c := by
    intro d
    rw [Int.dvd_gcd_iff, Int.ofNat_dvd]
  refine Nat.dvd_antisymm ?_ ?_
  · exact (h2 _).2 ((h1 _).1 (Nat.dvd_refl _))
  · exact (h1 _).2 ((h2 _).1 (Nat.dvd_refl _))
/-- The even prices by the program's change. -/
theorem even_rd {V : List (List Int)} {b : List Nat} {R : Int} (n1 : 1 ≤ V.length) :
    rdd V.length (evp V b R) = ((Rp.q (R - sm (el (lp V b)) (List.range V.length)) V.length).den : Int) ∧
    ∀ j, j < V.length → el (rdp V.length (evp V b R)) j = el (lp V b) j * ((Rp.q (R - sm (el (lp V b)) (List.range V.length)) V.length).den : Int) + (Rp.q (R - sm (el (lp V b)) (List.range V.length)) V.length).num := by
  have hg := gcl_even n1 (el (lp V b)) (R - sm (el (lp V b)) (List.range V.length))
  have hf : ∀ j, evp V b R j = (V.length : Int) * el (lp V b) j + (R - sm (el (lp V b)) (List.range V.length)) := fun j => by unfold evp; omega
  have hm : (List.range V.length).map (evp V b R) = (List.range V.length).map fun j => (V.length : Int) * el (lp V b) j + (R - sm (el (lp V b)) (List.range V.length)) := List.map_congr_left fun j _ => hf j
  generalize R - sm (el (lp V b)) (List.range V.length) = c at *
  obtain ⟨p1, p2⟩ := Rp.q_parts (a := c) (n := V.length) (by omega)
  unfold rdd rdp
  rw [hm, hg, p1, p2]
  have g1 : (Int.gcd (V.length : Int) c : Int) ∣ (V.length : Int) := Int.gcd_dvd_left _ _
  have g2 : (Int.gcd (V.length : Int) c : Int) ∣ c := Int.gcd_dvd_right _ _
  refine ⟨by rw [Int.natCast_ediv], fun j hj => ?_⟩
  have : el ((List.range V.length).map fun j => evp V b R j / (Int.gcd (V.length : Int) c : Int)) j = evp V b R j / (Int.gcd (V.length : Int) c : Int) := by unfold el; simp [hj]
  rw [this, hf, Int.add_ediv_of_dvd_right g2, Int.mul_comm (V.length : Int), Int.mul_ediv_assoc _ g1]
/-- What Even returns. -/
def evA (V : List (List Int)) (R : Int) : List Nat := if rchk V R = 0 then bst V else []
def evP (V : List (List Int)) (R : Int) : List Int := if rchk V R = 0 then rdp V.length (evp V (bst V) R) else []
def evD (V : List (List Int)) (R : Int) : Int := if rchk V R = 0 then rdd V.length (evp V (bst V) R) else 0
theorem rdp_len (n : Nat) (p : Nat → Int) : (rdp n p).length = n := by simp [rdp]
end As
/-- What Even gives. -/
def EvQ (V : List (List Int)) (R : Int) (w : World) (e : Ending) (w' : World) : Prop :=
  ∃ X c Y d, e = .returned (.tuple #[.agg #[.slice X (As.evA V R).length c, .slice Y (As.evP V R).length d, .int .i64 (As.evD V R)], .int .i64 (As.rchk V R)]) ∧ IsI w' X (As.al (As.evA V R)) ∧ IsI w' Y (As.evP V R) ∧ Below w.heap.size w w'
set_option maxRecDepth 100000 in
set_option maxHeartbeats 2000000 in
theorem rmPart_any (c n : Int) (h1 : 1 ≤ n) (h2 : n ≤ 1000) (c0 : -100000000000000000 ≤ c) (c1 : c ≤ 100000000000000000) (w : World) :
    Calls Try.prog 46 #[.int .i64 c, .int .i64 n] w fun e w' => e = .returned (.agg #[.int .i64 (Rp.q c n).num, .int .i64 ((Rp.q c n).den : Int)]) ∧ Below w.heap.size w w' := by
  have cm := fun v => Make_any c n (by omega) (by omega) (by omega) (by omega) v
  rw [Rp.makeS_q h1 (by omega) (by omega) (by omega)] at cm
  have CM := Lib.hid cm
  generalize (Rp.q c n).num = x at *
  generalize ((Rp.q c n).den : Int) = y at *
  clear cm
  go_enter Try.func46, Try.ntmps46
  go_wp2_with fail
  refine (CM.out _).mono ?_
  rintro e w3 ⟨rfl, hb3⟩
  have b0 := (BK.new w [Value.int .i64 0, .int .i64 0] 31).keep hb3
  have hbb := keepB (below_al (Below.refl _ _) _) hb3
  have hl := b0.lt
  clear hb3
  go_upto_region 2 with fail
  refine at_worldQ (fun v => Below w.heap.size w v ∧ BK v w.heap.size [.int .i64 0, .int .i64 0] ∧ BK v w3.heap.size [.int .i64 x, .int .i64 y]) ⟨below_al hbb _, b0.al _, BK.new _ _ _⟩ (fun V hS => ?_)
  obtain ⟨hbV, b1, b2⟩ := hS
  have z0 := b2.c 0 rfl
  have z1 := b2.c 1 rfl
  have y0 := b1.c 0 rfl
  have y1 := b1.c 1 rfl
  have f0 := b1.f 0 rfl
  have f1 := b1.f 1 rfl
  clear hbb b0
  go_wp2_with fail
  have bb := (b1.set 0 (.int .i64 x)).set 1 (.int .i64 y)
  have r0 := bb.c 0 rfl
  have r1 := bb.c 1 rfl
  exact bodyPost_ret (v := .agg #[.int .i64 x, .int .i64 y]) (by simp [results, Try.results46, go_sem, r0, r1]) rfl ⟨rfl, below_set (below_set hbV (Nat.le_refl _) _) (Nat.le_refl _) _⟩
end Go.Proofs.Ytncmffhoodfhjaa
