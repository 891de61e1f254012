/- Package room: Check, sum, arePrices. -/
import Derived.Test.YtpiolhjiflohgaaRoe
namespace Go.Proofs.Ytpiolhjiflohgaa
open Go.RowKit
set_option maxHeartbeats 2000000 in
theorem rmCheck_any (A : Option Addr) (cv : Nat) (V : List (List Int)) (R : Int) (w : World) (hl : V.length ≤ maxLen) (h : IsM w A V) :
    Calls Try.prog 17 #[.agg #[.slice A V.length cv, .int .i64 R]] w fun e w' => e = .returned (.int .i64 (As.rchk V R)) ∧ Below w.heap.size w w' := by
  have CK := fun v (hv : Below w.heap.size w v) => asCheck_any A cv V v hl (h.keep hv)
  rcases As.rchk_cases V R with ⟨h1, h2, h3, h4⟩ | ⟨h1, h2, h3⟩ | ⟨h1, h2, h3⟩
  · rw [h1]
    simp only [h2] at CK
    have CK' := Lib.hid CK
    have d1 : decide (R < 0) = false := by rw [decide_eq_false_iff_not]; omega
    have d2 : decide (10000000 < R) = false := by rw [decide_eq_false_iff_not]; omega
    clear CK h1 h2 h3 h4 h
    go_enter Try.func17, Try.ntmps17
    go_upto_region 1 with fail
    refine at_worldQ (fun v => Below w.heap.size w v ∧ BK v w.heap.size [.slice A V.length cv, .int .i64 R]) ⟨below_al (Below.refl _ _) _, BK.new _ _ _⟩ (fun V0 hS => ?_)
    obtain ⟨hb0, b0⟩ := hS
    have c0 := b0.c 0 rfl
    have c1 := b0.c 1 rfl
    go_wp2_with fail
    refine (CK'.out _ hb0).mono ?_
    rintro e w1 ⟨rfl, hb1⟩
    replace c0 := keepC hb1 c0
    replace c1 := keepC hb1 c1
    replace hb0 := keepB hb0 hb1
    clear hb1 b0
    go_wp2_with fail
    go_ret
    exact ⟨rfl, hb0⟩
  · rw [h1]
    simp only [h2] at CK
    have CK' := Lib.hid CK
    clear CK h1 h2 h
    by_cases hR : R < 0
    · have d1 : decide (R < 0) = true := by rw [decide_eq_true_eq]; exact hR
      clear h3 hR
      go_enter Try.func17, Try.ntmps17
      go_upto_region 1 with fail
      refine at_worldQ (fun v => Below w.heap.size w v ∧ BK v w.heap.size [.slice A V.length cv, .int .i64 R]) ⟨below_al (Below.refl _ _) _, BK.new _ _ _⟩ (fun V0 hS => ?_)
      obtain ⟨hb0, b0⟩ := hS
      have c0 := b0.c 0 rfl
      have c1 := b0.c 1 rfl
      go_wp2_with fail
      refine (CK'.out _ hb0).mono ?_
      rintro e w1 ⟨rfl, hb1⟩
      replace c0 := keepC hb1 c0
      replace c1 := keepC hb1 c1
      replace hb0 := keepB hb0 hb1
      clear hb1 b0
      go_wp2_with fail
      go_ret
      exact ⟨rfl, hb0⟩
    · have d1 : decide (R < 0) = false := by rw [decide_eq_false_iff_not]; exact hR
      have d2 : decide (10000000 < R) = true := by rw [decide_eq_true_eq]; omega
      clear h3 hR
      go_enter Try.func17, Try.ntmps17
      go_upto_region 1 with fail
      refine at_worldQ (fun v => Below w.heap.size w v ∧ BK v w.heap.size [.slice A V.length cv, .int .i64 R]) ⟨below_al (Below.refl _ _) _, BK.new _ _ _⟩ (fun V0 hS => ?_)
      obtain ⟨hb0, b0⟩ := hS
      have c0 := b0.c 0 rfl
      have c1 := b0.c 1 rfl
      go_wp2_with fail
      refine (CK'.out _ hb0).mono ?_
      rintro e w1 ⟨rfl, hb1⟩
      replace c0 := keepC hb1 c0
      replace c1 := keepC hb1 c1
      replace hb0 := keepB hb0 hb1
      clear hb1 b0
      go_wp2_with fail
      go_ret
      exact ⟨rfl, hb0⟩
  · rw [h1]
    generalize As.chk V = c at *
    have CK' := Lib.hid CK
    clear CK h1 h3 h
    go_enter Try.func17, Try.ntmps17
    go_upto_region 1 with fail
    refine at_worldQ (fun v => Below w.heap.size w v ∧ BK v w.heap.size [.slice A V.length cv, .int .i64 R]) ⟨below_al (Below.refl _ _) _, BK.new _ _ _⟩ (fun V0 hS => ?_)
    obtain ⟨hb0, b0⟩ := hS
    have c0 := b0.c 0 rfl
    go_wp2_with fail
    refine (CK'.out _ hb0).mono ?_
    rintro e w1 ⟨rfl, hb1⟩
    replace hb0 := keepB hb0 hb1
    clear hb1 b0 c0
    go_wp2_with fail
    go_ret
    exact ⟨rfl, hb0⟩
namespace As
theorem sm_el_bd {ps : List Int} {M : Int} {n : Nat} (h : ∀ j, j < n → -M ≤ el ps j ∧ el ps j ≤ M) : ∀ k, k ≤ n → -(k * M) ≤ sm (el ps) (List.range k) ∧ sm (el ps) (List.range k) ≤ k * M
  | 0, _ => by simp [sm]
  | k + 1, hk => by
    have ih := sm_el_bd h k (by omega)
    have h1 := h k (by omega)
    rw [List.range_succ, sm_append]
    simp only [sm]
    rw [show ((k + 1 : Nat) : Int) = k + 1 from rfl, Int.add_mul]
    omega
theorem sm_range_succ (f : Nat → Int) (k : Nat) : sm f (List.range (k + 1)) = sm f (List.range k) + f k := by
  rw [List.range_succ, sm_append]; simp [sm]
end As
set_option maxHeartbeats 2000000 in
theorem rmSum_any (A : Option Addr) (cap : Nat) (ps : List Int) (n : Nat) (hn : ps.length = n) (n6 : n ≤ 6) (hb : ∀ j, j < n → -1000000000 ≤ As.el ps j ∧ As.el ps j ≤ 1000000000) (w : World) (h : IsI w A ps) :
    Calls Try.prog 43 #[.slice A n cap] w fun e w' => e = .returned (.int .i64 (As.sm (As.el ps) (List.range n))) ∧ w' = w := by
  have HC := Lib.hid h
  have HB := Lib.hid hb
  have HN := Lib.hid hn
  have HS := Lib.hid (fun k hk => As.sm_el_bd hb k hk)
  clear h hb hn
  go_enter Try.func43, Try.ntmps43
  go_wp2_with fail
  go_loop [3, 8] (fun s i => ∃ k : Nat, k ≤ n ∧ i = .int .i64 k ∧ s = .int .i64 (As.sm (As.el ps) (List.range k))) (fun _ i => n - (intOf i).toNat)
  case atStart => exact ⟨0, Nat.zero_le _, rfl, rfl⟩
  case round =>
    obtain ⟨k, hk, rfl, rfl⟩ := hrel
    by_cases hlt : k < n
    · obtain ⟨b, off, rfl, hcs⟩ := HC.out.1 (by rw [HN.out]; omega)
      have c0 := hcs k (by rw [HN.out]; exact hlt)
      have ⟨b1, b2⟩ := HB.out k hlt
      have ⟨s1, s2⟩ := HS.out k hk
      have ET := Lib.hid (As.sm_range_succ (As.el ps) k)
      have s3 : -6000000000 ≤ As.sm (As.el ps) (List.range k) := by omega
      have s4 : As.sm (As.el ps) (List.range k) ≤ 6000000000 := by omega
      clear hcs s1 s2
      generalize As.el ps k = x at *
      generalize As.sm (As.el ps) (List.range k) = s at *
      go_wp2_with fail
      go_round
      case rel => exact ⟨k + 1, by omega, by go_num, by rw [ET.out]⟩
      case measure => simp [intOf]; omega
    · obtain rfl : k = n := by omega
      go_wp2_with fail
      go_ret
      exact ⟨rfl, rfl⟩
namespace As
/-- Is a price within m of 0? -/
def pIn (m x : Int) : Bool := decide (-m ≤ x) && decide (x ≤ m)
/-- arePrices. -/
def apB (ps : List Int) (n : Nat) (m : Int) : Bool := decide (ps.length = n) && (List.range n).all (fun j => pIn m (el ps j))
theorem apB_len {ps : List Int} {n : Nat} {m : Int} (h : ¬ ps.length = n) : apB ps n m = false := by unfold apB; rw [decide_eq_false h, Bool.false_and]
theorem apB_no {ps : List Int} {n : Nat} {m : Int} {k : Nat} (hk : k < n) (h : pIn m (el ps k) = false) : apB ps n m = false := by
  unfold apB; rw [Bool.and_eq_false_iff]; right; rw [List.all_eq_false]; exact ⟨k, by simpa using hk, by rw [h]; simp⟩
theorem apB_yes {ps : List Int} {n : Nat} {m : Int} (hl : ps.length = n) (h : ∀ k, k < n → pIn m (el ps k) = true) : apB ps n m = true := by
  unfold apB; rw [decide_eq_true hl, Bool.true_and, List.all_eq_true]; intro k hk; exact h k (by simpa using hk)
end As
set_option maxHeartbeats 2000000 in
theorem arePrices_any (A : Option Addr) (cap : Nat) (ps : List Int) (n : Nat) (m : Int) (m0 : 0 ≤ m) (m1 : m ≤ 1000000000) (w : World) (hl : ps.length ≤ maxLen) (h : IsI w A ps) :
    Calls Try.prog 54 #[.slice A ps.length cap, .int .i64 n, .int .i64 m] w fun e w' => e = .returned (.bool (As.apB ps n m)) ∧ w' = w := by
  unfold maxLen at hl
  by_cases hn : ps.length = n
  · subst hn
    have HC := Lib.hid h
    have HY := Lib.hid (fun hh => @As.apB_yes ps ps.length m rfl hh)
    have HNo := Lib.hid (fun k hk hh => @As.apB_no ps ps.length m k hk hh)
    clear h
    have e0 : ((ps.length : Int) != ps.length) = false := by simp
    generalize hz : As.apB ps ps.length m = z at *
    clear hz
    go_enter Try.func54, Try.ntmps54
    go_wp2_with fail
    go_loop [15] (fun i => ∃ k : Nat, k ≤ ps.length ∧ i = .int .i64 k ∧ Hid (∀ j, j < k → As.pIn m (As.el ps j) = true)) (fun i => ps.length - (intOf i).toNat)
    case atStart => exact ⟨0, Nat.zero_le _, rfl, Lib.hid (fun j hj => absurd hj (Nat.not_lt_zero _))⟩
    case round =>
      obtain ⟨k, hk, rfl, HOK⟩ := hrel
      by_cases hlt : k < ps.length
      · obtain ⟨b, off, rfl, hcs⟩ := HC.out.1 (by omega)
        have c0 := hcs k hlt
        have bd := HC.out.bd k
        have HN := Lib.hid (HNo.out k hlt)
        clear hcs HNo
        have HP := Lib.hid (show As.pIn m (As.el ps k) = (decide (-m ≤ As.el ps k) && decide (As.el ps k ≤ m)) from rfl)
        obtain ⟨b1, b2⟩ := bd
        generalize hx : As.el ps k = x at *
        have HX := Lib.hid hx
        clear hx
        by_cases h1 : x < -m
        · have d1 : decide (x < -m) = true := decide_eq_true h1
          have EB := Lib.hid (HN.out (by rw [HP.out, decide_eq_false (by omega), Bool.false_and]))
          clear h1 HN HP
          go_wp2_with fail
          go_ret
          exact ⟨by rw [EB.out]; rfl, rfl⟩
        · have d1 : decide (x < -m) = false := decide_eq_false h1
          by_cases h2 : m < x
          · have d2 : decide (m < x) = true := decide_eq_true h2
            have EB := Lib.hid (HN.out (by rw [HP.out, decide_eq_false (p := x ≤ m) (by omega), Bool.and_false]))
            clear h1 h2 HN HP
            go_wp2_with fail
            go_ret
            exact ⟨by rw [EB.out]; rfl, rfl⟩
          · have d2 : decide (m < x) = false := decide_eq_false h2
            have EB := Lib.hid (show As.pIn m x = true by rw [HP.out, decide_eq_true (show -m ≤ x by omega), decide_eq_true (show x ≤ m by omega)]; rfl)
            clear h1 h2 HN HP
            go_wp2_with fail
            go_round
            case rel => exact ⟨k + 1, by omega, by go_num, Lib.hid (fun j hj => (Nat.lt_succ_iff_lt_or_eq.1 hj).elim (HOK.out j) (fun e => by rw [e, HX.out]; exact EB.out))⟩
            case measure => simp [intOf]; omega
      · obtain rfl : k = ps.length := by omega
        have EB := Lib.hid (HY.out HOK.out)
        clear HC HOK HNo HY
        go_wp2_with fail
        go_ret
        exact ⟨by rw [EB.out]; rfl, rfl⟩
  · have e0 : ((ps.length : Int) != n) = true := by rw [bne_iff_ne]; omega
    rw [As.apB_len hn]
    clear hn h
    go_enter Try.func54, Try.ntmps54
    go_wp2_with fail
    go_ret
    exact ⟨rfl, rfl⟩
end Go.Proofs.Ytpiolhjiflohgaa
