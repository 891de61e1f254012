/- AssignAsks' walk. -/
import Derived.Test.YtkibglbccfjkpaaAse
import Derived.Test.YtkibglbccfjkpaaAst
namespace Go.Proofs.Ytkibglbccfjkpaa
open Go.RowKit
set_option maxRecDepth 100000 in
set_option maxHeartbeats 2000000 in
theorem asks_walk (A : Option Addr) (cv : Nat) (V : List (List Int)) (B : Option Addr) (ca : Nat) (xs : List Int) (C : Option Addr) (cp : Nat) (ps : List Int) (w : World) (hl : V.length ≤ maxLen) (h : IsM w A V) (hx : xs.length ≤ maxLen) (hB : IsI w B xs) (hpm : ps.length ≤ maxLen) (hC : IsI w C ps) :
    Calls Try.prog 4 #[.slice A V.length cv, .slice B xs.length ca, .slice C ps.length cp] w fun e w' => e = .returned (.bool true) ∧ Below w.heap.size w w' := by
  have CG := Lib.hid (rGreat_any A cv V w hl h)
  have C1 := Lib.hid (fun v (hv : Below w.heap.size w v) => asValue_any A cv V B ca xs v hl (h.keep hv) hx (hB.keep hv))
  have C2 := Lib.hid (fun v (hv : Below w.heap.size w v) => rValue_any A cv V B ca xs v hl (h.keep hv) hx (hB.keep hv))
  have C3 := Lib.hid (fun v (hv : Below w.heap.size w v) => asProves_any A cv V B ca xs C cp ps v hl (h.keep hv) hx (hB.keep hv) hpm (hC.keep hv))
  have C4 := Lib.hid (fun v (hv : Below w.heap.size w v) => rProves_any A cv V B ca xs C cp ps v hl (h.keep hv) hx (hB.keep hv) hpm (hC.keep hv))
  clear h hB hC
  unfold maxLen at hl hx hpm
  generalize (As.valS V xs).1 = n1 at *
  generalize (As.valS V xs).2 = n2 at *
  generalize (As.prvS V xs ps).1 = z1 at *
  generalize (As.prvS V xs ps).2 = n3 at *
  go_enter Try.func4, Try.ntmps4
  go_wp2_with fail
  refine CG.out.mono ?_
  rintro e w1 ⟨z, rfl, -, hb1⟩
  cases z
  · by_cases h1 : 50 < xs.length
    · have d1 : decide ((50 : Int) < (xs.length : Int)) = true := by rw [decide_eq_true_eq]; omega
      go_wp2_with fail
      go_ret
      exact ⟨rfl, hb1⟩
    · have d1 : decide ((50 : Int) < (xs.length : Int)) = false := by rw [decide_eq_false_iff_not]; omega
      by_cases h2 : 50 < ps.length
      · have d2 : decide ((50 : Int) < (ps.length : Int)) = true := by rw [decide_eq_true_eq]; omega
        go_wp2_with fail
        go_ret
        exact ⟨rfl, hb1⟩
      · have d2 : decide ((50 : Int) < (ps.length : Int)) = false := by rw [decide_eq_false_iff_not]; omega
        go_wp2_with fail
        refine (C1.out _ hb1).mono ?_
        rintro e w2 ⟨rfl, hb2⟩
        have hbb := keepB hb1 hb2
        clear hb1 hb2
        go_wp2_with fail
        refine (C2.out _ hbb).mono ?_
        rintro e w3 ⟨rfl, hb3⟩
        replace hbb := keepB hbb hb3
        clear hb3
        go_wp2_with fail
        refine (C3.out _ hbb).mono ?_
        rintro e w4 ⟨rfl, hb4⟩
        replace hbb := keepB hbb hb4
        clear hb4
        go_wp2_with fail
        refine (C4.out _ hbb).mono ?_
        rintro e w5 ⟨rfl, hb5⟩
        replace hbb := keepB hbb hb5
        clear hb5
        go_wp2_with fail
        go_ret
        exact ⟨rfl, hbb⟩
  · go_wp2_with fail
    go_ret
    exact ⟨rfl, hb1⟩
end Go.Proofs.Ytkibglbccfjkpaa
