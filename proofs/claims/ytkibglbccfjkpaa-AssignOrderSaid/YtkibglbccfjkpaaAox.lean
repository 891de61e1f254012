/- AssignOrder's walk, all ways. -/
import Derived.Test.YtkibglbccfjkpaaAow
namespace Go.Proofs.Ytkibglbccfjkpaa
open Go.RowKit
set_option maxRecDepth 100000 in
set_option maxHeartbeats 4000000 in
theorem aorder_walk (A : Option Addr) (cv : Nat) (V : List (List Int)) (B : Option Addr) (ca : Nat) (xs : List Int) (item more : Int) (w : World) (hl : V.length ≤ maxLen) (h : IsM w A V) (hx : xs.length ≤ maxLen) (hB : IsI w B xs) (hi1 : -9223372036854775808 ≤ item) (hi2 : item ≤ 9223372036854775807) (hm1 : -9223372036854775808 ≤ more) (hm2 : more ≤ 9223372036854775807) :
    Calls Try.prog 9 #[.slice A V.length cv, .slice B xs.length ca, .int .i64 item, .int .i64 more] w fun e w' => e = .returned (.bool true) ∧ Below w.heap.size w w' := by
  have CAl := Lib.hid (asAlive_any w)
  have CF := fun v (hv : Below w.heap.size w v) => fit_any A cv V v hl (h.keep hv)
  have CA := fun v (hv : Below w.heap.size w v) => rAssigned_any B ca xs V.length v hx (hB.keep hv)
  by_cases h0 : As.ftB V = true
  · by_cases ha : As.isA xs V.length = true
    · by_cases hg : (0 ≤ item ∧ item < V.length) ∧ 0 ≤ more ∧ more ≤ 1000000
      · obtain ⟨a, rfl, hp⟩ := As.isA_perm ha
        obtain ⟨it, rfl⟩ : ∃ it : Nat, item = (it : Int) := ⟨item.toNat, by omega⟩
        rw [As.al_len, (As.perm_lt hp).1]
        exact aorder_core A cv V B ca a it more w hl h hB (by unfold As.ftB at h0; simpa using h0) hp (by omega) hg.2.1 hg.2.2
      · rw [ha] at CA
        rw [h0] at CF
        have HF := Lib.hid CF
        have HA := Lib.hid CA
        clear CF CA h0 ha h hB hx
        unfold maxLen at hl
        by_cases c1 : item < 0
        · have d1 : decide (item < 0) = true := by rw [decide_eq_true_eq]; omega
          clear hg
          go_enter Try.func9, Try.ntmps9
          go_wp2_with fail
          refine CAl.out.mono ?_
          rintro e w1 ⟨rfl, hbb⟩
          go_wp2_with fail
          refine (HF.out _ hbb).mono ?_
          rintro e w2 ⟨rfl, hb2⟩
          replace hbb := keepB hbb hb2
          clear hb2
          go_wp2_with fail
          refine (HA.out _ hbb).mono ?_
          rintro e w3 ⟨rfl, hb3⟩
          replace hbb := keepB hbb hb3
          clear hb3
          go_wp2_with fail
          go_ret
          exact ⟨rfl, hbb⟩
        · by_cases c2 : (V.length : Int) ≤ item
          · have d1 : decide (item < 0) = false := by rw [decide_eq_false_iff_not]; omega
            have d2 : decide ((V.length : Int) ≤ item) = true := by rw [decide_eq_true_eq]; omega
            clear hg
            go_enter Try.func9, Try.ntmps9
            go_wp2_with fail
            refine CAl.out.mono ?_
            rintro e w1 ⟨rfl, hbb⟩
            go_wp2_with fail
            refine (HF.out _ hbb).mono ?_
            rintro e w2 ⟨rfl, hb2⟩
            replace hbb := keepB hbb hb2
            clear hb2
            go_wp2_with fail
            refine (HA.out _ hbb).mono ?_
            rintro e w3 ⟨rfl, hb3⟩
            replace hbb := keepB hbb hb3
            clear hb3
            go_wp2_with fail
            go_ret
            exact ⟨rfl, hbb⟩
          · by_cases c3 : more < 0
            · have d1 : decide (item < 0) = false := by rw [decide_eq_false_iff_not]; omega
              have d2 : decide ((V.length : Int) ≤ item) = false := by rw [decide_eq_false_iff_not]; omega
              have d3 : decide (more < 0) = true := by rw [decide_eq_true_eq]; omega
              clear hg
              go_enter Try.func9, Try.ntmps9
              go_wp2_with fail
              refine CAl.out.mono ?_
              rintro e w1 ⟨rfl, hbb⟩
              go_wp2_with fail
              refine (HF.out _ hbb).mono ?_
              rintro e w2 ⟨rfl, hb2⟩
              replace hbb := keepB hbb hb2
              clear hb2
              go_wp2_with fail
              refine (HA.out _ hbb).mono ?_
              rintro e w3 ⟨rfl, hb3⟩
              replace hbb := keepB hbb hb3
              clear hb3
              go_wp2_with fail
              go_ret
              exact ⟨rfl, hbb⟩
            · have d1 : decide (item < 0) = false := by rw [decide_eq_false_iff_not]; omega
              have d2 : decide ((V.length : Int) ≤ item) = false := by rw [decide_eq_false_iff_not]; omega
              have d3 : decide (more < 0) = false := by rw [decide_eq_false_iff_not]; omega
              have d4 : decide (1000000 < more) = true := by rw [decide_eq_true_eq]; omega
              clear hg
              go_enter Try.func9, Try.ntmps9
              go_wp2_with fail
              refine CAl.out.mono ?_
              rintro e w1 ⟨rfl, hbb⟩
              go_wp2_with fail
              refine (HF.out _ hbb).mono ?_
              rintro e w2 ⟨rfl, hb2⟩
              replace hbb := keepB hbb hb2
              clear hb2
              go_wp2_with fail
              refine (HA.out _ hbb).mono ?_
              rintro e w3 ⟨rfl, hb3⟩
              replace hbb := keepB hbb hb3
              clear hb3
              go_wp2_with fail
              go_ret
              exact ⟨rfl, hbb⟩
    · have ha : As.isA xs V.length = false := by simpa using ha
      rw [ha] at CA
      rw [h0] at CF
      have HF := Lib.hid CF
      have HA := Lib.hid CA
      clear CF CA h0 ha h hB hl hx
      go_enter Try.func9, Try.ntmps9
      go_wp2_with fail
      refine CAl.out.mono ?_
      rintro e w1 ⟨rfl, hbb⟩
      go_wp2_with fail
      refine (HF.out _ hbb).mono ?_
      rintro e w2 ⟨rfl, hb2⟩
      replace hbb := keepB hbb hb2
      clear hb2
      go_wp2_with fail
      refine (HA.out _ hbb).mono ?_
      rintro e w3 ⟨rfl, hb3⟩
      replace hbb := keepB hbb hb3
      clear hb3
      go_wp2_with fail
      go_ret
      exact ⟨rfl, hbb⟩
  · have h0 : As.ftB V = false := by simpa using h0
    rw [h0] at CF
    have HF := Lib.hid CF
    clear CF CA h0 h hB hl hx
    go_enter Try.func9, Try.ntmps9
    go_wp2_with fail
    refine CAl.out.mono ?_
    rintro e w1 ⟨rfl, hbb⟩
    go_wp2_with fail
    refine (HF.out _ hbb).mono ?_
    rintro e w2 ⟨rfl, hb2⟩
    replace hbb := keepB hbb hb2
    clear hb2
    go_wp2_with fail
    go_ret
    exact ⟨rfl, hbb⟩
end Go.Proofs.Ytkibglbccfjkpaa
