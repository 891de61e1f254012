/- AssignBest's walk, whole. -/
import Derived.Test.YtkibglbccfjkpaaAsu
namespace Go.Proofs.Ytkibglbccfjkpaa
open Go.RowKit
set_option maxRecDepth 100000 in
set_option maxHeartbeats 4000000 in
theorem abest_walk (A : Option Addr) (cv : Nat) (V : List (List Int)) (B : Option Addr) (ca : Nat) (xs : List Int) (C : Option Addr) (cp : Nat) (ps : List Int) (w : World) (hl : V.length ≤ maxLen) (h : IsM w A V) (hx : xs.length ≤ maxLen) (hB : IsI w B xs) (hpm : ps.length ≤ maxLen) (hC : IsI w C ps) :
    Calls Try.prog 6 #[.slice A V.length cv, .slice B xs.length ca, .slice C ps.length cp] w fun e w' => e = .returned (.bool true) ∧ Below w.heap.size w w' := by
  have CAl := Lib.hid (asAlive_any w)
  have CF := fun v (hv : Below w.heap.size w v) => fit_any A cv V v hl (h.keep hv)
  have CA := fun v (hv : Below w.heap.size w v) => rAssigned_any B ca xs V.length v hx (hB.keep hv)
  by_cases h0 : As.ftB V = true
  · by_cases ha : As.isA xs V.length = true
    · obtain ⟨a, rfl, hp⟩ := As.isA_perm ha
      have hc : As.chk V = 0 := by unfold As.ftB at h0; simpa using h0
      rw [As.al_len, (As.perm_lt hp).1]
      exact best_core A cv V B ca a C cp ps w hl h hB hpm hC hc hp
    · have ha : As.isA xs V.length = false := by simpa using ha
      rw [ha] at CA
      rw [h0] at CF
      have HF := Lib.hid CF
      have HA := Lib.hid CA
      clear CF CA h0 ha h hB hC hl hx hpm
      go_enter Try.func6, Try.ntmps6
      go_wp2_with fail
      refine CAl.out.mono ?_
      rintro e w1 ⟨rfl, hbb⟩
      go_wp2_with fail
      refine (HF.out _ hbb).mono ?_
      rintro e w2 ⟨rfl, hb2⟩
      replace hbb := keepB hbb hb2
      clear hb2
      go_wp2_with fail
      refine (HA.out _ hbb).mono ?_
      rintro e w3 ⟨rfl, hb3⟩
      replace hbb := keepB hbb hb3
      clear hb3
      go_wp2_with fail
      go_ret
      exact ⟨rfl, hbb⟩
  · have h0 : As.ftB V = false := by simpa using h0
    rw [h0] at CF
    have HF := Lib.hid CF
    clear CF CA h0 h hB hC hl hx hpm
    go_enter Try.func6, Try.ntmps6
    go_wp2_with fail
    refine CAl.out.mono ?_
    rintro e w1 ⟨rfl, hbb⟩
    go_wp2_with fail
    refine (HF.out _ hbb).mono ?_
    rintro e w2 ⟨rfl, hb2⟩
    replace hbb := keepB hbb hb2
    clear hb2
    go_wp2_with fail
    go_ret
    exact ⟨rfl, hbb⟩
end Go.Proofs.Ytkibglbccfjkpaa
