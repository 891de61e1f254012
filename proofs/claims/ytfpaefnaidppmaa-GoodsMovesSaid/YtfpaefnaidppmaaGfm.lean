/- The law GoodsMoves. -/
import Derived.Test.YtfpaefnaidppmaaGec4
import Derived.Test.YtfpaefnaidppmaaGeb
namespace Go.Proofs.Ytfpaefnaidppmaa
open Go.RowKit
namespace As
theorem psS_le (V : List (List Int)) (a o : List Int) : (psS V a o).length ≤ a.length := by
  unfold psS
  split
  · split
    · rw [List.length_map]; exact Nat.le_refl _
    · simp
  · simp
theorem gvS_le (V : List (List Int)) (a : List Int) (g x : Int) : (gvS V a g x).length ≤ a.length := by
  unfold gvS
  split
  · split
    · rw [List.length_set]; exact Nat.le_refl _
    · simp
  · simp
end As
set_option maxRecDepth 100000 in
set_option maxHeartbeats 8000000 in
theorem goodsmoves_walk (A : Option Addr) (cv : Nat) (V : List (List Int)) (B : Option Addr) (ca : Nat) (a : List Int) (O : Option Addr) (co : Nat) (os : List Int) (g x : Int) (w : World) (hl : V.length ≤ maxLen) (h : IsM w A V) (ha : a.length ≤ maxLen) (hB : IsI w B a) (ho : os.length ≤ maxLen) (hO : IsI w O os) (_ : -9223372036854775808 ≤ g) (_ : g ≤ 9223372036854775807) (x1 : -9223372036854775808 ≤ x) (x2 : x ≤ 9223372036854775807) :
    Calls Try.prog 4 #[.agg #[.slice A V.length cv], .slice B a.length ca, .slice O os.length co, .int .i64 g, .int .i64 x] w fun e w' => e = .returned (.bool true) ∧ Below w.heap.size w w' := by
  have CF := Lib.hid (fun v (hv : Below w.heap.size w v) => rgGreat_any A cv V B ca a.length v hl (h.keep hv) ha)
  have CP := Lib.hid (fun v (hv : Below w.heap.size w v) => gPass_any A cv V B ca a O co os v hl (h.keep hv) ha (hB.keep hv) ho (hO.keep hv))
  have CQ := Lib.hid (fun v (hv : Below w.heap.size w v) => rgPass_any A cv V B ca a O co os v hl (h.keep hv) ha (hB.keep hv) ho (hO.keep hv))
  have CG := Lib.hid (fun v (hv : Below w.heap.size w v) => gGive_any A cv V B ca a g x v hl (h.keep hv) ha (hB.keep hv) ⟨x1, x2⟩)
  have CH := Lib.hid (fun v (hv : Below w.heap.size w v) => rgGive_any A cv V B ca a g x v hl (h.keep hv) ha (hB.keep hv) ⟨x1, x2⟩)
  have S1 := Lib.hid (fun v X c Y d (hX : IsI v X (As.psS V a os)) (hY : IsI v Y (As.psS V a os)) => same_eq X c Y d (As.psS V a os) v (Nat.le_trans (As.psS_le V a os) ha) hX hY)
  have S2 := Lib.hid (fun v X c Y d (hX : IsI v X (As.gvS V a g x)) (hY : IsI v Y (As.gvS V a g x)) => same_eq X c Y d (As.gvS V a g x) v (Nat.le_trans (As.gvS_le V a g x) ha) hX hY)
  unfold GrGQ at CF
  unfold LsQ at CP CQ CG CH
  have e1 : (As.psE V a os == As.psE V a os) = true := by simp
  have e2 : (As.gvE V a g x == As.gvE V a g x) = true := by simp
  clear h hB hO hl ha
  generalize As.psE V a os = c1 at *
  generalize As.gvE V a g x = c2 at *
  generalize As.psS V a os = l1 at *
  generalize As.gvS V a g x = l2 at *
  unfold maxLen at ho
  go_enter Try.func4, Try.ntmps4
  go_upto_region 1 with fail
  refine at_box1 (fun V0 hbb b0 hsz => ?_)
  clear hsz
  have c0 := b0.c 0 rfl
  go_wp2_with fail
  refine (CF.out _ hbb).mono ?_
  rintro e w1 ⟨z, rfl, -, hb1⟩
  replace c0 := keepC hb1 c0
  replace hbb := keepB hbb hb1
  clear hb1 b0 CF
  cases z with
  | true =>
    go_wp2_with fail
    go_ret
    exact ⟨rfl, hbb⟩
  | false =>
    by_cases h5 : 50 < os.length
    · have d5 : decide ((50 : Int) < (os.length : Int)) = true := decide_eq_true (by omega)
      go_wp2_with fail
      go_ret
      exact ⟨rfl, hbb⟩
    · have d5 : decide ((50 : Int) < (os.length : Int)) = false := decide_eq_false (by omega)
      go_wp2_with fail
      refine (CP.out _ hbb).mono ?_
      rintro e w2 ⟨X, cx, rfl, hX, hb2⟩
      have HX := Lib.hid hX
      replace c0 := keepC hb2 c0
      replace hbb := keepB hbb hb2
      clear hb2 hX
      go_wp2_with fail
      refine (CQ.out _ hbb).mono ?_
      rintro e w3 ⟨Y, cy, rfl, hY, hb3⟩
      have HY := Lib.hid hY
      replace HX := Lib.hid (HX.out.keep hb3)
      replace c0 := keepC hb3 c0
      replace hbb := keepB hbb hb3
      clear hb3 hY
      go_wp2_with fail
      refine (CG.out _ hbb).mono ?_
      rintro e w4 ⟨Z, cz, rfl, hZ, hb4⟩
      have HZ := Lib.hid hZ
      replace HX := Lib.hid (HX.out.keep hb4)
      replace HY := Lib.hid (HY.out.keep hb4)
      replace c0 := keepC hb4 c0
      replace hbb := keepB hbb hb4
      clear hb4 hZ
      go_wp2_with fail
      refine (CH.out _ hbb).mono ?_
      rintro e w5 ⟨U, cu, rfl, hU, hb5⟩
      have HU := Lib.hid hU
      replace HX := Lib.hid (HX.out.keep hb5)
      replace HY := Lib.hid (HY.out.keep hb5)
      replace HZ := Lib.hid (HZ.out.keep hb5)
      replace hbb := keepB hbb hb5
      clear hb5 hU c0
      go_wp2_with fail
      refine (S1.out _ X cx Y cy HX.out HY.out).mono ?_
      rintro e w6 ⟨rfl, hb6⟩
      replace HZ := Lib.hid (HZ.out.keep hb6)
      replace HU := Lib.hid (HU.out.keep hb6)
      replace hbb := keepB hbb hb6
      clear hb6
      go_wp2_with fail
      refine (S2.out _ Z cz U cu HZ.out HU.out).mono ?_
      rintro e w7 ⟨rfl, hb7⟩
      replace hbb := keepB hbb hb7
      clear hb7
      go_wp2_with fail
      go_ret
      exact ⟨rfl, hbb⟩
end Go.Proofs.Ytfpaefnaidppmaa
