/- The reference of layer 16: Check. -/
import Derived.Test.YtfpaefnaidppmaaGdv
namespace Go.Proofs.Ytfpaefnaidppmaa
open Go.RowKit
namespace As
theorem isLo_len {xs : List Int} {n lo hi : Int} (h : ¬ (xs.length : Int) = n) : isLo xs n lo hi = false := by unfold isLo; rw [decide_eq_false h, Bool.false_and]
theorem isLo_bad {xs : List Int} {n lo hi : Int} {k : Nat} (hk : k < xs.length) (h : obad (el xs k) lo hi = true) : isLo xs n lo hi = false := by unfold isLo; rw [anyO_yes hk h]; simp
theorem isLo_good {xs : List Int} {n lo hi : Int} (hl : (xs.length : Int) = n) (h : ∀ k, k < xs.length → obad (el xs k) lo hi = false) : isLo xs n lo hi = true := by unfold isLo; rw [anyO_no h, decide_eq_true hl]; rfl
end As
set_option maxRecDepth 100000 in
set_option maxHeartbeats 8000000 in
theorem rgCheck_any (A : Option Addr) (cap : Nat) (V : List (List Int)) (w : World) (hl : V.length ≤ maxLen) (h : IsM w A V) :
    Calls Try.prog 18 #[.agg #[.slice A V.length cap]] w fun e w' => e = .returned (.int .i64 (As.gchk V)) ∧ Below w.heap.size w w' := by
  have HC := Lib.hid h
  clear h
  unfold maxLen at hl
  unfold As.gchk
  by_cases h6 : 6 < V.length
  · rw [if_pos h6]
    have d6 : decide ((6 : Int) < (V.length : Int)) = true := decide_eq_true (by omega)
    go_enter Try.func18, Try.ntmps18
    go_upto_region 1 with fail
    refine at_box1 (fun V0 hbb b0 hsz => ?_)
    clear hsz
    have c0 := b0.c 0 rfl
    go_wp2_with fail
    go_ret
    exact ⟨rfl, hbb⟩
  · rw [if_neg h6]
    have d6 : decide ((6 : Int) < (V.length : Int)) = false := decide_eq_false (by omega)
    have HBG := Lib.hid (show V.any (fun r => decide (10 < r.length)) = As.gbig V from rfl)
    have HYES := Lib.hid (fun k hk hh => @As.gbig_yes V k hk hh)
    have HNO := Lib.hid (fun hh => @As.gbig_no V hh)
    have HRY := Lib.hid (fun hh => @As.rows_yes V hh)
    have HRN := Lib.hid (fun k hk hh => @As.rows_no V k hk hh)
    have HM := Lib.hid (show As.gm V = (V.getD 0 []).length from rfl)
    generalize hz : (if V.any (fun r => decide (10 < r.length)) = true then (4 : Int) else if V.any (As.gbad (As.gm V)) = true then 8 else if V.length < 1 then 8 else 0) = z
    have HZ := Lib.hid hz
    clear hz h6
    go_enter Try.func18, Try.ntmps18
    go_upto_region 1 with fail
    refine at_box1 (fun V0 hbb b0 hsz => ?_)
    clear hsz
    have c0 := b0.c 0 rfl
    have C0 := Lib.hid c0
    have HBB := Lib.hid hbb
    clear hbb b0
    go_wp2_with fail
    go_loop [4] (fun i => ∃ k : Nat, k ≤ V.length ∧ i = .int .i64 k ∧ Hid (∀ j, j < k → decide ((10 : Int) < ((V.getD j []).length : Int)) = false)) (fun i => V.length - (intOf i).toNat)
    case atStart => exact ⟨0, Nat.zero_le _, rfl, Lib.hid (fun j hj => absurd hj (Nat.not_lt_zero _))⟩
    case round =>
      obtain ⟨k, hk, rfl, HOK⟩ := hrel
      by_cases hlt : k < V.length
      · obtain ⟨b, off, rfl, hrows⟩ := HC.out (by omega)
        obtain ⟨R, c, hc, hrl, -⟩ := hrows k hlt
        have x0 := keepC HBB.out hc
        have i1 : (k : Int) < (V.length : Int) := by omega
        have HL := Lib.hid hrl
        clear hrows hc hrl
        by_cases hh : decide ((10 : Int) < ((V.getD k []).length : Int)) = true
        · have EB := Lib.hid (HYES.out k hlt hh)
          generalize (V.getD k []).length = q at *
          go_wp2_with fail
          go_ret
          exact ⟨by rw [← HZ.out, HBG.out, EB.out]; rfl, HBB.out⟩
        · have hh : decide ((10 : Int) < ((V.getD k []).length : Int)) = false := by simpa using hh
          have EB := Lib.hid hh
          generalize hq : (V.getD k []).length = q at x0 hh
          clear hq
          go_wp2_with fail
          go_round
          case rel => exact ⟨k + 1, by omega, by go_num, Lib.hid (fun j hj => (Nat.lt_succ_iff_lt_or_eq.1 hj).elim (HOK.out j) (fun e => e ▸ EB.out))⟩
          case measure => simp [intOf]; omega
      · obtain rfl : k = V.length := by omega
        have EB := Lib.hid (HNO.out HOK.out)
        clear HOK HYES HNO
        go_wp2_with fail
        clear c0
        go_loopw [5, 6] (fun i _ W => ∃ k : Nat, k ≤ V.length ∧ i = .int .i64 k ∧ Hid (∀ j, j < k → As.isLo (V.getD j []) (As.gm V : Int) 0 1000 = true) ∧ Hid (Below V0.heap.size V0 W)) (fun i _ _ => V.length - (intOf i).toNat)
        case atStart => exact ⟨0, Nat.zero_le _, rfl, Lib.hid (fun j hj => absurd hj (Nat.not_lt_zero _)), Lib.hid (Below.refl _ _)⟩
        case round =>
          obtain ⟨k, hk, rfl, HOK, HW⟩ := hrel
          by_cases hlt : k < V.length
          · obtain ⟨b, off, rfl, hrows⟩ := HC.out (by omega)
            obtain ⟨R, c, hc, hrl, hI⟩ := hrows k hlt
            obtain ⟨R0, q0, hc0, -, -⟩ := hrows 0 (by omega)
            rw [← HM.out, Nat.add_zero] at hc0
            have HK := Lib.hid (fun v (hv : Below V0.heap.size V0 v) => (show v.cell? ⟨w.heap.size, 0, none⟩ = some (.slice (some ⟨b, off, none⟩) V.length cap) ∧ v.cell? ⟨b, off + k, none⟩ = some (.slice R (V.getD k []).length c) ∧ v.cell? ⟨b, off, none⟩ = some (.slice R0 (As.gm V) q0) from ⟨keepC hv C0.out, keepC (keepB HBB.out hv) hc, keepC (keepB HBB.out hv) hc0⟩))
            have HI := Lib.hid (hI.keep HBB.out)
            have HRNK := Lib.hid (HRN.out k hlt)
            have HLB := Lib.hid (fun (hh : ¬ ((V.getD k []).length : Int) = (As.gm V : Int)) => HRN.out k hlt (As.isLo_len hh))
            have HEB := Lib.hid (fun j (hj : j < (V.getD k []).length) hh => HRN.out k hlt (As.isLo_bad (xs := V.getD k []) (n := (As.gm V : Int)) (lo := 0) (hi := 1000) hj hh))
            have HGD := Lib.hid (fun (hl : ((V.getD k []).length : Int) = (As.gm V : Int)) hh => As.isLo_good (xs := V.getD k []) (n := (As.gm V : Int)) (lo := 0) (hi := 1000) hl hh)
            unfold maxLen at hrl
            obtain ⟨q, hq⟩ : ∃ q, (V.getD k []).length = q := ⟨_, rfl⟩
            have HQ := Lib.hid hq
            rw [hq] at HK HLB HEB HGD hrl
            have i1 : (k : Int) < (V.length : Int) := by omega
            have i2 : (0 : Int) < (V.length : Int) := by omega
            have i3 : 0 < V.length := by omega
            have hWW := HW.out
            clear hrows hc hc0 hI hq
            by_cases hqm : (q : Int) = (As.gm V : Int)
            · have e1 : ((q : Int) != (As.gm V : Int)) = false := by rw [bne_eq_false_iff_eq]; exact hqm
              have HGQ := Lib.hid (HGD.out hqm)
              clear HGD HLB hqm
              generalize As.gm V = gmv at *
              go_upto_region 12 with fail
              go_region_held3 (fun v => v.cell? ⟨w.heap.size, 0, none⟩ = some (.slice (some ⟨b, off, none⟩) V.length cap) ∧ v.cell? ⟨b, off + k, none⟩ = some (.slice R q c) ∧ v.cell? ⟨b, off, none⟩ = some (.slice R0 gmv q0))
                (first | (exact HK.out _ (by assumption)) | (exact HK.out _ (Below.drew (by assumption))))
                (fail)
              all_goals
                have HWD := Lib.hid (Below.drew hWW)
                obtain ⟨u0, u1, u2⟩ := HK.out _ HWD.out
                clear hWW
                go_wp2_with fail
                clear u0 u1 u2
                go_loopw [6] (fun i W => ∃ m : Nat, m ≤ q ∧ i = .int .i64 m ∧ Hid (∀ j, j < m → As.obad (As.el (V.getD k []) j) 0 1000 = false) ∧ Hid (Below V0.heap.size V0 W)) (fun i _ => q - (intOf i).toNat)
                case atStart => exact ⟨0, Nat.zero_le _, rfl, Lib.hid (fun j hj => absurd hj (Nat.not_lt_zero _)), HWD⟩
                case round =>
                  clear HWD HW
                  obtain ⟨m, hm, rfl, HOKM, HW⟩ := hrel
                  obtain ⟨u0, u1, u2⟩ := HK.out _ HW.out
                  by_cases hltm : m < q
                  · obtain ⟨rb, ro, rfl, hcs⟩ := HI.out.1 (by rw [HQ.out]; omega)
                    have u3 := keepC HW.out (hcs m (by rw [HQ.out]; exact hltm))
                    have HEBM := Lib.hid (HEB.out m hltm)
                    have HOB := Lib.hid (show As.obad (As.el (V.getD k []) m) 0 1000 = (decide (As.el (V.getD k []) m < 0) || decide (1000 < As.el (V.getD k []) m)) from rfl)
                    have i4 : (m : Int) < (q : Int) := by omega
                    clear hcs
                    by_cases g1 : As.el (V.getD k []) m < 0
                    · have d1 : decide (As.el (V.getD k []) m < 0) = true := decide_eq_true g1
                      have EN := Lib.hid (HEBM.out (by rw [HOB.out, d1]; rfl))
                      clear HEBM HOB g1
                      generalize As.el (V.getD k []) m = y at *
                      go_wp2_with fail
                      go_ret
                      exact ⟨by rw [← HZ.out, HBG.out, EB.out, EN.out]; rfl, keepB HBB.out HW.out⟩
                    · have d1 : decide (As.el (V.getD k []) m < 0) = false := decide_eq_false g1
                      by_cases g2 : 1000 < As.el (V.getD k []) m
                      · have d2 : decide (1000 < As.el (V.getD k []) m) = true := decide_eq_true g2
                        have EN := Lib.hid (HEBM.out (by rw [HOB.out, d1, d2]; rfl))
                        clear HEBM HOB g1 g2
                        generalize As.el (V.getD k []) m = y at *
                        go_wp2_with fail
                        go_ret
                        exact ⟨by rw [← HZ.out, HBG.out, EB.out, EN.out]; rfl, keepB HBB.out HW.out⟩
                      · have d2 : decide (1000 < As.el (V.getD k []) m) = false := decide_eq_false g2
                        have EN := Lib.hid (show As.obad (As.el (V.getD k []) m) 0 1000 = false by rw [HOB.out, d1, d2]; rfl)
                        clear HEBM HOB g1 g2
                        generalize As.el (V.getD k []) m = y at u3 d1 d2
                        go_wp2_with fail
                        go_roundw
                        case rel => exact ⟨m + 1, by omega, by go_num, Lib.hid (fun j hj => (Nat.lt_succ_iff_lt_or_eq.1 hj).elim (HOKM.out j) (fun e => e ▸ EN.out)), HW⟩
                        case measure => simp [intOf]; omega
                  · obtain rfl : m = q := by omega
                    have EN := Lib.hid (HGQ.out HOKM.out)
                    go_wp2_with fail
                    go_roundw
                    case rel => exact ⟨k + 1, by omega, by go_num, Lib.hid (fun j hj => (Nat.lt_succ_iff_lt_or_eq.1 hj).elim (HOK.out j) (fun e => e ▸ EN.out)), HW⟩
                    case measure => simp [intOf]; omega
            · have e1 : ((q : Int) != (As.gm V : Int)) = true := by rw [bne_iff_ne]; exact hqm
              have EN := Lib.hid (HLB.out hqm)
              clear HGD HLB HEB hqm
              generalize As.gm V = gmv at *
              go_upto_region 12 with fail
              go_region_held3 (fun v => v.cell? ⟨w.heap.size, 0, none⟩ = some (.slice (some ⟨b, off, none⟩) V.length cap) ∧ v.cell? ⟨b, off + k, none⟩ = some (.slice R q c) ∧ v.cell? ⟨b, off, none⟩ = some (.slice R0 gmv q0))
                (first | (exact HK.out _ (by assumption)) | (exact HK.out _ (Below.drew (by assumption))))
                (fail)
              all_goals
                go_wp2_with fail
                go_ret
                exact ⟨by rw [← HZ.out, HBG.out, EB.out, EN.out]; rfl, keepB HBB.out (by first | exact HW.out | exact HW.out.drew)⟩
          · obtain rfl : k = V.length := by omega
            have EN := Lib.hid (HRY.out HOK.out)
            by_cases h0 : V.length < 1
            · have d1 : decide ((V.length : Int) < 1) = true := decide_eq_true (by omega)
              have HE := Lib.hid (show z = 8 by rw [← HZ.out, HBG.out, EB.out, EN.out, if_neg (by decide), if_neg (by decide), if_pos h0])
              clear h0
              go_wp2_with fail
              go_ret
              exact ⟨by rw [HE.out]; rfl, keepB HBB.out HW.out⟩
            · have d1 : decide ((V.length : Int) < 1) = false := decide_eq_false (by omega)
              have HE := Lib.hid (show z = 0 by rw [← HZ.out, HBG.out, EB.out, EN.out, if_neg (by decide), if_neg (by decide), if_neg h0])
              clear h0
              go_wp2_with fail
              go_ret
              exact ⟨by rw [HE.out]; rfl, keepB HBB.out HW.out⟩
end Go.Proofs.Ytfpaefnaidppmaa
