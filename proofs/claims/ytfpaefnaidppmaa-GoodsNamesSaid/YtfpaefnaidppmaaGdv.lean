/- Package goods: Valid. -/
import Derived.Test.YtfpaefnaidppmaaGdb
import Derived.Deep.RegionHeld3
namespace Go.Proofs.Ytfpaefnaidppmaa
open Go.RowKit
namespace As
theorem gvld_no {V : List (List Int)} {a : List Int} (h : gchk V ≠ 0) : gvld V a = gchk V := by unfold gvld; rw [if_pos h]
theorem gvld_yes {V : List (List Int)} {a : List Int} (h : gchk V = 0) : gvld V a = if isLo a (gm V : Int) (-1) ((V.length : Int) - 1) = true then 0 else 8 := by
  unfold gvld
  rw [if_neg (fun x => x h)]
  have e : isLo a (gm V : Int) (-1) ((V.length : Int) - 1) = (decide (a.length = gm V) && !a.any (gout V.length)) := by
    unfold isLo
    rw [anyO_any]
    congr 1
    · by_cases h : a.length = gm V
      · rw [decide_eq_true h, decide_eq_true (by omega)]
      · rw [decide_eq_false h, decide_eq_false (by omega)]
    · congr 2
      funext x
      unfold obad gout
      congr 1
      by_cases h : (V.length : Int) ≤ x
      · rw [decide_eq_true h, decide_eq_true (by omega)]
      · rw [decide_eq_false h, decide_eq_false (by omega)]
  rw [e]
  by_cases h1 : a.length = gm V
  · rw [if_neg (fun x => x h1), decide_eq_true h1, Bool.true_and]
    cases a.any (gout V.length) <;> rfl
  · rw [if_pos h1, decide_eq_false h1, Bool.false_and, if_neg (by decide)]
theorem gchk_ne {V : List (List Int)} : gchk V = 0 ∨ (gchk V != 0) = true ∧ gchk V ≠ 0 := by
  by_cases h : gchk V = 0
  · exact .inl h
  · exact .inr ⟨by rw [bne_iff_ne]; exact h, h⟩
theorem gvld_ne {V : List (List Int)} {a : List Int} : gvld V a = 0 ∨ (gvld V a != 0) = true ∧ gvld V a ≠ 0 := by
  by_cases h : gvld V a = 0
  · exact .inl h
  · exact .inr ⟨by rw [bne_iff_ne]; exact h, h⟩
end As
set_option maxRecDepth 100000 in
set_option maxHeartbeats 4000000 in
theorem gValid_any (A : Option Addr) (cv : Nat) (V : List (List Int)) (B : Option Addr) (ca : Nat) (a : List Int) (w : World) (hl : V.length ≤ maxLen) (h : IsM w A V) (ha : a.length ≤ maxLen) (hB : IsI w B a) :
    Calls Try.prog 19 #[.agg #[.slice A V.length cv], .slice B a.length ca] w fun e w' => e = .returned (.int .i64 (As.gvld V a)) ∧ Below w.heap.size w w' := by
  have CK := Lib.hid (fun v (hv : Below w.heap.size w v) => gCheck_any A cv V v hl (h.keep hv))
  rcases As.gchk_ne (V := V) with h0 | ⟨h1, h2⟩
  · have ok := As.gchk_ok h0
    have n1 := ok.n1
    have n6 := ok.n6
    obtain ⟨b, off, rfl, hrows⟩ := h (by omega)
    obtain ⟨R, c, hc, hrl, hI⟩ := hrows 0 (by omega)
    rw [Nat.add_zero] at hc
    have HC := Lib.hid hc
    have CL := Lib.hid (fun v (hv : Below w.heap.size w v) => gisList_any B ca a (As.gm V : Int) (-1) ((V.length : Int) - 1) v ha (hB.keep hv))
    have HM : (V.getD 0 []).length = As.gm V := rfl
    rw [HM] at HC
    rw [As.gvld_yes h0]
    rw [h0] at CK
    have hw : IntKind.i64.wrap ((V.length : Int) - 1) = (V.length : Int) - 1 := IntWalk.i64_in _ (by omega)
    generalize As.isLo a (As.gm V : Int) (-1) ((V.length : Int) - 1) = z at *
    clear hrows hc hrl hI HM h0 ok hB h
    go_enter Try.func19, Try.ntmps19
    go_upto_region 1 with fail
    refine at_box1 (fun V0 hbb b0 hsz => ?_)
    clear hsz
    have c0 := b0.c 0 rfl
    go_wp2_with fail
    refine (CK.out _ hbb).mono ?_
    rintro e w1 ⟨rfl, hb1⟩
    replace hbb := keepB hbb hb1
    replace c0 := keepC hb1 c0
    have x0 := keepC hbb HC.out
    clear hb1 b0
    have HBB := Lib.hid hbb
    have HK := Lib.hid (fun v (hv : Below w1.heap.size w1 v) => (show Below w.heap.size w v ∧ v.cell? ⟨w.heap.size, 0, none⟩ = some (.slice (some ⟨b, off, none⟩) V.length cv) ∧ v.cell? ⟨b, off, none⟩ = some (.slice R (As.gm V) c) from ⟨keepB hbb hv, keepC hv c0, keepC hv x0⟩))
    have hb0 := Below.refl w1.heap.size w1
    have i1 : (0 : Int) < (V.length : Int) := by omega
    have i2 : 0 < V.length := by omega
    clear c0 x0 hbb
    go_upto_region 4 with fail
    go_region_held3 (fun v => Below w.heap.size w v ∧ v.cell? ⟨w.heap.size, 0, none⟩ = some (.slice (some ⟨b, off, none⟩) V.length cv) ∧ v.cell? ⟨b, off, none⟩ = some (.slice R (As.gm V) c))
      (first | (exact HK.out _ (by assumption)) | (exact HK.out _ (Below.drew (by assumption))))
      (first
        | (go_at_call 39; refine (CL.out _ (by first | exact HBB.out | exact HBB.out.drew)).mono ?_; rintro e w3 ⟨rfl, hb3⟩; have hw3 : Below w1.heap.size w1 w3 := (by first | exact hb3 | exact keepB (Below.refl _ _).drew hb3)))
    all_goals
      cases z
      · go_wp2_with fail
        go_ret
        exact ⟨rfl, keepB HBB.out hw3⟩
      · go_wp2_with fail
        go_ret
        exact ⟨rfl, keepB HBB.out hw3⟩
  · rw [As.gvld_no h2]
    generalize As.gchk V = c at *
    clear h2 h hB hl ha
    go_enter Try.func19, Try.ntmps19
    go_upto_region 1 with fail
    refine at_box1 (fun V0 hbb b0 hsz => ?_)
    clear hsz
    have c0 := b0.c 0 rfl
    go_wp2_with fail
    refine (CK.out _ hbb).mono ?_
    rintro e w1 ⟨rfl, hb1⟩
    replace hbb := keepB hbb hb1
    clear hb1 b0 c0
    go_wp2_with fail
    go_ret
    exact ⟨rfl, hbb⟩
end Go.Proofs.Ytfpaefnaidppmaa
