/- Package goods: Check. -/
import Derived.Test.YtfpaefnaidppmaaGda
namespace Go.Proofs.Ytfpaefnaidppmaa
open Go.RowKit
namespace As
/-- Has a row too many values? -/
def gbig (V : List (List Int)) : Bool := V.any (fun r => decide (10 < r.length))
theorem gbig_yes {V : List (List Int)} {k : Nat} (hk : k < V.length) (h : decide ((10 : Int) < ((V.getD k []).length : Int)) = true) : gbig V = true := by
  unfold gbig
  rw [List.any_eq_true]
  have := of_decide_eq_true h
  exact ⟨_, getD_memL hk [], decide_eq_true (by omega)⟩
theorem gbig_no {V : List (List Int)} (h : ∀ k, k < V.length → decide ((10 : Int) < ((V.getD k []).length : Int)) = false) : gbig V = false := by
  unfold gbig
  rw [List.any_eq_false]
  intro r hr
  obtain ⟨k, hk, rfl⟩ := List.mem_iff_getElem.1 hr
  have := of_decide_eq_false (h k hk)
  rw [getD_lt hk] at this
  rw [decide_eq_true_eq]
  omega
theorem gbad_eq (m : Nat) (r : List Int) : gbad m r = !isLo r (m : Int) 0 1000 := by
  unfold gbad isLo
  rw [anyO_any, Bool.not_and, Bool.not_not]
  congr 1
  · by_cases e : r.length = m
    · rw [decide_eq_false (fun h => h e), decide_eq_true (by omega)]; rfl
    · rw [decide_eq_true e, decide_eq_false (by omega)]; rfl
  · congr 1
    funext x
    unfold obad
    rw [Bool.decide_or]
theorem rows_yes {V : List (List Int)} (h : ∀ k, k < V.length → isLo (V.getD k []) (gm V : Int) 0 1000 = true) : V.any (gbad (gm V)) = false := by
  rw [List.any_eq_false]
  intro r hr
  obtain ⟨k, hk, rfl⟩ := List.mem_iff_getElem.1 hr
  have := h k hk
  rw [getD_lt hk] at this
  rw [gbad_eq, this]; decide
theorem rows_no {V : List (List Int)} {k : Nat} (hk : k < V.length) (h : isLo (V.getD k []) (gm V : Int) 0 1000 = false) : V.any (gbad (gm V)) = true := by
  rw [List.any_eq_true]
  exact ⟨_, getD_memL hk [], by rw [gbad_eq, h]; rfl⟩
end As
set_option maxHeartbeats 1000000 in
theorem gBig1_any (A : Option Addr) (n cap : Nat) (w : World) :
    Calls Try.prog 37 #[.slice A n cap] w fun e w' => e = .returned (.bool (decide ((10 : Int) < (n : Int)))) ∧ Below w.heap.size w w' := by
  generalize hz : decide ((10 : Int) < (n : Int)) = z
  go_enter Try.func37, Try.ntmps37
  go_wp2_with fail
  go_ret
  exact ⟨by rw [← hz]; rfl, Below.refl _ _⟩
set_option linter.unusedSimpArgs false in
set_option maxHeartbeats 2000000 in
theorem gIndexR_any (A : Option Addr) (cap : Nat) (V : List (List Int)) (w : World) (hl : V.length ≤ maxLen) (h : IsM w A V) :
    Calls Try.prog 43 #[.slice A V.length cap, .func (.func 37) #[] #[]] w fun e w' => ∃ z : Int, e = .returned (.int .i64 z) ∧ (As.gbig V = true → 0 ≤ z) ∧ (As.gbig V = false → z = -1) ∧ Below w.heap.size w w' := by
  unfold maxLen at hl
  have HC := Lib.hid h
  clear h
  go_enter Try.func43, Try.ntmps43
  go_wp2_with fail
  go_loopw [5, 8] (fun _ i W => ∃ k : Nat, k ≤ V.length ∧ i = .int .i64 k ∧ (∀ j, j < k → decide ((10 : Int) < ((V.getD j []).length : Int)) = false) ∧ Below w.heap.size w W) (fun _ i _ => V.length - (intOf i).toNat)
  case atStart => exact ⟨0, Nat.zero_le _, rfl, fun j hj => absurd hj (Nat.not_lt_zero _), Below.refl _ _⟩
  case round =>
    obtain ⟨k, hk, rfl, hok, hbb⟩ := hrel
    have HOK := Lib.hid hok
    clear hok
    by_cases hlt : k < V.length
    · obtain ⟨b, off, rfl, hcs⟩ := HC.out (by omega)
      obtain ⟨R, c, hc, -, -⟩ := hcs k hlt
      have c0 := keepC hbb hc
      clear hcs hc
      have hv := gBig1_any R (V.getD k []).length c wr
      by_cases hh : decide ((10 : Int) < ((V.getD k []).length : Int)) = true
      · rw [hh] at hv
        have HV := Lib.hid hv
        have EB := Lib.hid (As.gbig_yes hlt hh)
        clear hv hh
        generalize (V.getD k []).length = n at *
        go_wp2_with fail
        refine HV.out.mono ?_
        rintro e w1 ⟨rfl, hb1⟩
        replace hbb := keepB hbb hb1
        clear hb1
        go_wp2_with fail
        go_ret
        first
          | exact ⟨fun _ => by omega, fun h => (by rw [EB.out] at h; cases h), hbb⟩
          | exact ⟨_, rfl, fun _ => by omega, fun h => (by rw [EB.out] at h; cases h), hbb⟩
      · have hh : decide ((10 : Int) < ((V.getD k []).length : Int)) = false := by simpa using hh
        rw [hh] at hv
        have HV := Lib.hid hv
        have EB := Lib.hid hh
        clear hv hh
        generalize (V.getD k []).length = n at HV c0
        go_wp2_with fail
        refine HV.out.mono ?_
        rintro e w1 ⟨rfl, hb1⟩
        replace hbb := keepB hbb hb1
        clear hb1 c0
        go_wp2_with fail
        go_roundw
        case rel => exact ⟨k + 1, by omega, by go_num, fun j hj => (Nat.lt_succ_iff_lt_or_eq.1 hj).elim (HOK.out j) (fun e => e ▸ EB.out), hbb⟩
        case measure => simp [intOf]; omega
    · obtain rfl : k = V.length := by omega
      have EB := Lib.hid (As.gbig_no HOK.out)
      clear HC HOK
      go_wp2_with fail
      go_ret
      first
        | exact ⟨fun h => (by rw [EB.out] at h; cases h), fun _ => rfl, hbb⟩
        | exact ⟨_, rfl, fun h => (by rw [EB.out] at h; cases h), fun _ => rfl, hbb⟩
set_option maxHeartbeats 1000000 in
theorem gContainsR_any (A : Option Addr) (cap : Nat) (V : List (List Int)) (w : World) (hl : V.length ≤ maxLen) (h : IsM w A V) :
    Calls Try.prog 38 #[.slice A V.length cap, .func (.func 37) #[] #[]] w fun e w' => e = .returned (.bool (As.gbig V)) ∧ Below w.heap.size w w' := by
  have IX := Lib.hid (gIndexR_any A cap V w hl h)
  generalize hz : As.gbig V = b at *
  clear hl h hz
  go_enter Try.func38, Try.ntmps38
  go_wp2_with fail
  refine IX.out.mono ?_
  rintro e w1 ⟨z, rfl, h1, h2, hb1⟩
  cases b
  · obtain rfl := h2 rfl
    clear h1 h2
    go_wp2_with fail
    go_ret
    exact ⟨rfl, hb1⟩
  · have h3 := h1 rfl
    have hd : decide ((0 : Int) ≤ z) = true := decide_eq_true h3
    clear h1 h2
    go_wp2_with fail
    go_ret
    exact ⟨rfl, hb1⟩
set_option maxRecDepth 100000 in
set_option maxHeartbeats 4000000 in
theorem gCheck_any (A : Option Addr) (cap : Nat) (V : List (List Int)) (w : World) (hl : V.length ≤ maxLen) (h : IsM w A V) :
    Calls Try.prog 17 #[.agg #[.slice A V.length cap]] w fun e w' => e = .returned (.int .i64 (As.gchk V)) ∧ Below w.heap.size w w' := by
  have HC := Lib.hid h
  have CR := Lib.hid (fun v (hv : Below w.heap.size w v) => gContainsR_any A cap V v hl (h.keep hv))
  clear h
  unfold maxLen at hl
  unfold As.gchk
  by_cases h6 : 6 < V.length
  · rw [if_pos h6]
    have d6 : decide ((6 : Int) < (V.length : Int)) = true := decide_eq_true (by omega)
    go_enter Try.func17, Try.ntmps17
    go_upto_region 1 with fail
    refine at_box1 (fun V0 hbb b0 hsz => ?_)
    clear hsz
    have c0 := b0.c 0 rfl
    go_wp2_with fail
    go_ret
    exact ⟨rfl, hbb⟩
  · rw [if_neg h6]
    have d6 : decide ((6 : Int) < (V.length : Int)) = false := decide_eq_false (by omega)
    change Calls _ _ _ _ fun e w' => e = .returned (.int .i64 (if As.gbig V = true then 4 else if V.any (As.gbad (As.gm V)) = true then 8 else if V.length < 1 then 8 else 0)) ∧ _
    cases hb : As.gbig V with
    | true =>
      rw [hb] at CR
      rw [if_pos rfl]
      go_enter Try.func17, Try.ntmps17
      go_upto_region 1 with fail
      refine at_box1 (fun V0 hbb b0 hsz => ?_)
      clear hsz
      have c0 := b0.c 0 rfl
      go_wp2_with fail
      refine (CR.out _ hbb).mono ?_
      rintro e w1 ⟨rfl, hb1⟩
      replace hbb := keepB hbb hb1
      clear hb1 b0 c0
      go_wp2_with fail
      go_ret
      exact ⟨rfl, hbb⟩
    | false =>
      rw [hb] at CR
      rw [if_neg (by decide)]
      by_cases h0 : V.length = 0
      · have e0 : ((V.length : Int) == 0) = true := by rw [beq_iff_eq]; omega
        have hz : (if V.any (As.gbad (As.gm V)) = true then (8 : Int) else if V.length < 1 then 8 else 0) = 8 := by
          split
          · rfl
          · rw [if_pos (by omega)]
        rw [hz]
        clear hz h0
        go_enter Try.func17, Try.ntmps17
        go_upto_region 1 with fail
        refine at_box1 (fun V0 hbb b0 hsz => ?_)
        clear hsz
        have c0 := b0.c 0 rfl
        go_wp2_with fail
        refine (CR.out _ hbb).mono ?_
        rintro e w1 ⟨rfl, hb1⟩
        replace hbb := keepB hbb hb1
        replace c0 := keepC hb1 c0
        clear hb1 b0
        go_wp2_with fail
        go_ret
        exact ⟨rfl, hbb⟩
      · rw [if_neg (show ¬ V.length < 1 by omega)]
        have e0 : ((V.length : Int) == 0) = false := by rw [beq_eq_false_iff_ne]; omega
        generalize hz : (if V.any (As.gbad (As.gm V)) = true then (8 : Int) else 0) = z
        have HZ := Lib.hid hz
        have HM := Lib.hid (show As.gm V = (V.getD 0 []).length from rfl)
        clear hz
        go_enter Try.func17, Try.ntmps17
        go_upto_region 1 with fail
        refine at_box1 (fun V0 hbb b0 hsz => ?_)
        clear hsz
        have c0 := b0.c 0 rfl
        go_wp2_with fail
        refine (CR.out _ hbb).mono ?_
        rintro e w1 ⟨rfl, hb1⟩
        replace hbb := keepB hbb hb1
        replace c0 := keepC hb1 c0
        clear hb1 b0
        have C0 := Lib.hid c0
        have HBB := Lib.hid hbb
        go_wp2_with fail
        obtain ⟨b, off, rfl, hrows⟩ := HC.out (by omega)
        have HR := Lib.hid hrows
        clear hrows HC CR c0 hbb
        go_loopw [5, 23] (fun _ i W => ∃ k : Nat, k ≤ V.length ∧ i = .int .i64 k ∧ (∀ j, j < k → As.isLo (V.getD j []) (As.gm V : Int) 0 1000 = true) ∧ Below w1.heap.size w1 W) (fun _ i _ => V.length - (intOf i).toNat)
        case atStart => exact ⟨0, Nat.zero_le _, rfl, fun j hj => absurd hj (Nat.not_lt_zero _), Below.refl _ _⟩
        case round =>
          obtain ⟨k, hk, rfl, hok, hbb⟩ := hrel
          have HOK := Lib.hid hok
          clear hok
          by_cases hlt : k < V.length
          · obtain ⟨R, c, hc, hrl, hI⟩ := HR.out k hlt
            obtain ⟨R0, cc0, hc0, -, -⟩ := HR.out 0 (by omega)
            rw [← HM.out, Nat.add_zero] at hc0
            replace hc := keepC (keepB HBB.out hbb) hc
            replace hc0 := keepC (keepB HBB.out hbb) hc0
            have c0 := keepC hbb C0.out
            have hv := gisList_any R c (V.getD k []) (As.gm V : Int) 0 1000 wr hrl (hI.keep (keepB HBB.out hbb))
            clear hI
            by_cases hh : As.isLo (V.getD k []) (As.gm V : Int) 0 1000 = true
            · have EB := Lib.hid hh
              rw [hh] at hv
              have HV := Lib.hid hv
              clear hh hv hrl
              generalize (V.getD k []).length = q at hc HV
              go_wp2_with fail
              refine HV.out.mono ?_
              rintro e w1 ⟨rfl, hb1⟩
              replace hbb := keepB hbb hb1
              clear hb1 hc hc0 c0
              go_wp2_with fail
              go_roundw
              case rel => exact ⟨k + 1, by omega, by go_num, fun j hj => (Nat.lt_succ_iff_lt_or_eq.1 hj).elim (HOK.out j) (fun e => e ▸ EB.out), hbb⟩
              case measure => simp [intOf]; omega
            · have hh : As.isLo (V.getD k []) (As.gm V : Int) 0 1000 = false := by simpa using hh
              have EB := Lib.hid (As.rows_no hlt hh)
              rw [hh] at hv
              have HV := Lib.hid hv
              clear hh hv hrl
              generalize (V.getD k []).length = q at hc HV
              go_wp2_with fail
              refine HV.out.mono ?_
              rintro e w1 ⟨rfl, hb1⟩
              replace hbb := keepB hbb hb1
              clear hb1 hc hc0 c0
              go_wp2_with fail
              go_ret
              exact ⟨by rw [← HZ.out, EB.out]; rfl, keepB HBB.out hbb⟩
          · obtain rfl : k = V.length := by omega
            have EB := Lib.hid (As.rows_yes HOK.out)
            clear HR HOK
            go_wp2_with fail
            go_ret
            exact ⟨by rw [← HZ.out, EB.out]; rfl, keepB HBB.out hbb⟩
end Go.Proofs.Ytfpaefnaidppmaa
