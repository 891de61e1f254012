/- The walk of the law PieceSets: it answers true. -/
import Derived.Test.YtomokdepndclpaaPrset
namespace Go.Proofs.Ytomokdepndclpaa
open Go.RowKit
namespace Pc
theorem mem_pairs : ∀ (n : Nat) (l : List Rat), l.length ≤ n → ∀ r, r ∈ ends (pairs l) → r ∈ l := by
  intro n
  induction n with
  | zero => intro l h r hr; have : l = [] := List.eq_nil_of_length_eq_zero (by omega); subst this; simp [pairs, ends] at hr
  | succ n ih =>
    intro l h r hr
    match l, h with
    | [], _ => simp [pairs, ends] at hr
    | [_], _ => simp [pairs, ends] at hr
    | p :: q :: l, h =>
      simp only [List.length_cons] at h
      simp only [pairs, ends, List.mem_cons] at hr ⊢
      rcases hr with h1 | h1 | h1
      · exact .inl h1
      · exact .inr (.inl h1)
      · exact .inr (.inr (ih l (by omega) r h1))
theorem setS_fit (f : Bool → Bool → Bool) (xs ys : List Raw) : (∀ r ∈ ends (setS f xs ys).1, Fit r) ∧ (setS f xs ys).1.length ≤ 120 := by
  by_cases hx : chk xs = 0
  · by_cases hy : chk ys = 0
    · obtain ⟨La, rfl, gA⟩ := chk_good hx
      obtain ⟨Lb, rfl, gB⟩ := chk_good hy
      rw [setS_both hx hy]
      have hs := swp_fit f gA gB
      unfold ofE
      split
      · exact ⟨by simp [ends], by simp⟩
      · refine ⟨fun r hr => hs.1 r (mem_pairs _ _ (Nat.le_refl _) r hr), ?_⟩
        rw [pairs_len _ _ (Nat.le_refl _)]
        have := hs.2
        omega
    · rw [setS_second hx hy]
      exact ⟨by simp [ends], by simp⟩
  · rw [setS_first hx]
    exact ⟨by simp [ends], by simp⟩
end Pc
theorem isS_res {w V : World} {e : TypeId} {A : Option Addr} {cap : Nat} {f : Bool → Bool → Bool} {xs ys : List Raw} (h : Acc w w.heap.size e 4 (.slice A (Pc.setS f xs ys).1.length cap) (Pc.setS f xs ys).1.length (Pc.cells4 (Pc.setS f xs ys).1) V) : IsS V A ((Pc.setS f xs ys).1.map Pc.raw) :=
  isS_row h.row rfl (Pc.setS_fit f xs ys).1 (by have := (Pc.setS_fit f xs ys).2; unfold maxLen; omega)
set_option linter.unusedSimpArgs false in
set_option linter.unusedVariables false in
set_option maxHeartbeats 8000000 in
set_option maxRecDepth 100000 in
theorem sets_walk (A : Option Addr) (ca : Nat) (xs : List Raw) (B : Option Addr) (cb : Nat) (ys : List Raw) (w : World) (hlx : xs.length ≤ maxLen) (ha : IsS w A xs) (hly : ys.length ≤ maxLen) (hb : IsS w B ys) :
    Calls Try.prog 8 #[.slice A xs.length ca, .slice B ys.length cb] w fun e w' => e = .returned (.bool true) ∧ Below w.heap.size w w' := by
  have gx := fun v => rpGreat_any A xs.length ca v
  have gy := fun v => rpGreat_any B ys.length cb v
  have C1 := Lib.hid (fun v (hv : Below w.heap.size w v) => pUnion_any A B ca cb xs ys v (ha.keep hv) (hb.keep hv))
  have C2 := Lib.hid (fun v (hv : Below w.heap.size w v) => rUnion_any A B ca cb xs ys v (ha.keep hv) (hb.keep hv))
  have C3 := Lib.hid (fun v (hv : Below w.heap.size w v) => pMeet_any A B ca cb xs ys v (ha.keep hv) (hb.keep hv))
  have C4 := Lib.hid (fun v (hv : Below w.heap.size w v) => rMeet_any A B ca cb xs ys v (ha.keep hv) (hb.keep hv))
  have C5 := Lib.hid (fun v (hv : Below w.heap.size w v) => pMinus_any A B ca cb xs ys v (ha.keep hv) (hb.keep hv))
  have C6 := Lib.hid (fun v (hv : Below w.heap.size w v) => rMinus_any A B ca cb xs ys v (ha.keep hv) (hb.keep hv))
  have S0 := Lib.hid (fun Z Z' c c' v h1 h2 => rpSame_any Z Z' c c' ((Pc.setS (fun x y => x || y) xs ys).1.map Pc.raw) v h1 h2)
  have S1 := Lib.hid (fun Z Z' c c' v h1 h2 => rpSame_any Z Z' c c' ((Pc.setS (fun x y => x && y) xs ys).1.map Pc.raw) v h1 h2)
  have S2 := Lib.hid (fun Z Z' c c' v h1 h2 => rpSame_any Z Z' c c' ((Pc.setS (fun x y => x && !y) xs ys).1.map Pc.raw) v h1 h2)
  clear ha hb
  by_cases g1 : Pc.greatB xs.length = true
  · rw [g1] at gx
    have GX := Lib.hid gx
    clear gx gy g1 hlx hly
    go_enter Try.func8, Try.ntmps8
    go_wp2_with fail
    refine (GX.out _).mono ?_
    rintro e w1 ⟨rfl, hb1⟩
    go_wp2_with fail
    go_ret
    exact ⟨rfl, hb1⟩
  · have g1 : Pc.greatB xs.length = false := by simpa using g1
    rw [g1] at gx
    have GX := Lib.hid gx
    by_cases g2 : Pc.greatB ys.length = true
    · rw [g2] at gy
      have GY := Lib.hid gy
      clear gx gy g1 g2 hlx hly
      go_enter Try.func8, Try.ntmps8
      go_wp2_with fail
      refine (GX.out _).mono ?_
      rintro e w1 ⟨rfl, hb1⟩
      go_wp2_with fail
      refine (GY.out _).mono ?_
      rintro e w2 ⟨rfl, hb2⟩
      go_wp2_with fail
      go_ret
      exact ⟨rfl, keepB hb1 hb2⟩
    · have g2 : Pc.greatB ys.length = false := by simpa using g2
      rw [g2] at gy
      have GY := Lib.hid gy
      clear gx gy g1 g2 hlx hly
      go_enter Try.func8, Try.ntmps8
      go_wp2_with fail
      refine (GX.out _).mono ?_
      rintro e w1 ⟨rfl, hb1⟩
      go_wp2_with fail
      refine (GY.out _).mono ?_
      rintro e w2 ⟨rfl, hb2⟩
      have hbb := keepB hb1 hb2
      clear hb1 hb2
      go_wp2_with fail
      refine (C1.out _ hbb).mono ?_
      rintro e x1 ⟨v1, rfl, hv1⟩
      obtain ⟨Z1, c1, rfl, -⟩ := row_cap hv1.row
      have q1 := isS_res hv1
      have hb3 := hv1.bb
      clear hv1 C1
      replace hbb := keepB hbb hb3
      clear hb3
      go_wp2_with fail
      refine (C2.out _ hbb).mono ?_
      rintro e x2 ⟨v2, rfl, hv2⟩
      obtain ⟨Z2, c2, rfl, -⟩ := row_cap hv2.row
      have q2 := isS_res hv2
      have hb3 := hv2.bb
      clear hv2 C2
      replace q1 := q1.keep hb3
      replace hbb := keepB hbb hb3
      clear hb3
      go_wp2_with fail
      refine (C3.out _ hbb).mono ?_
      rintro e x3 ⟨v3, rfl, hv3⟩
      obtain ⟨Z3, c3, rfl, -⟩ := row_cap hv3.row
      have q3 := isS_res hv3
      have hb3 := hv3.bb
      clear hv3 C3
      replace q1 := q1.keep hb3
      replace q2 := q2.keep hb3
      replace hbb := keepB hbb hb3
      clear hb3
      go_wp2_with fail
      refine (C4.out _ hbb).mono ?_
      rintro e x4 ⟨v4, rfl, hv4⟩
      obtain ⟨Z4, c4, rfl, -⟩ := row_cap hv4.row
      have q4 := isS_res hv4
      have hb3 := hv4.bb
      clear hv4 C4
      replace q1 := q1.keep hb3
      replace q2 := q2.keep hb3
      replace q3 := q3.keep hb3
      replace hbb := keepB hbb hb3
      clear hb3
      go_wp2_with fail
      refine (C5.out _ hbb).mono ?_
      rintro e x5 ⟨v5, rfl, hv5⟩
      obtain ⟨Z5, c5, rfl, -⟩ := row_cap hv5.row
      have q5 := isS_res hv5
      have hb3 := hv5.bb
      clear hv5 C5
      replace q1 := q1.keep hb3
      replace q2 := q2.keep hb3
      replace q3 := q3.keep hb3
      replace q4 := q4.keep hb3
      replace hbb := keepB hbb hb3
      clear hb3
      go_wp2_with fail
      refine (C6.out _ hbb).mono ?_
      rintro e x6 ⟨v6, rfl, hv6⟩
      obtain ⟨Z6, c6, rfl, -⟩ := row_cap hv6.row
      have q6 := isS_res hv6
      have hb3 := hv6.bb
      clear hv6 C6
      replace q1 := q1.keep hb3
      replace q2 := q2.keep hb3
      replace q3 := q3.keep hb3
      replace q4 := q4.keep hb3
      replace q5 := q5.keep hb3
      replace hbb := keepB hbb hb3
      clear hb3
      have SS0 := S0.out Z1 Z2 c1 c2
      rw [List.length_map] at SS0
      generalize Pc.setS (fun x y => x || y) xs ys = R0 at *
      have ST0 := Lib.hid SS0
      clear SS0 S0
      have SS1 := S1.out Z3 Z4 c3 c4
      rw [List.length_map] at SS1
      generalize Pc.setS (fun x y => x && y) xs ys = R1 at *
      have ST1 := Lib.hid SS1
      clear SS1 S1
      have SS2 := S2.out Z5 Z6 c5 c6
      rw [List.length_map] at SS2
      generalize Pc.setS (fun x y => x && !y) xs ys = R2 at *
      have ST2 := Lib.hid SS2
      clear SS2 S2
      go_wp2_with fail
      refine (ST0.out _ q1 q2).mono ?_
      rintro e y0 ⟨rfl, hb3⟩
      replace q3 := q3.keep hb3
      replace q4 := q4.keep hb3
      replace q5 := q5.keep hb3
      replace q6 := q6.keep hb3
      replace hbb := keepB hbb hb3
      clear hb3
      go_wp2_with fail
      refine (ST1.out _ q3 q4).mono ?_
      rintro e y1 ⟨rfl, hb3⟩
      replace q5 := q5.keep hb3
      replace q6 := q6.keep hb3
      replace hbb := keepB hbb hb3
      clear hb3
      go_wp2_with fail
      refine (ST2.out _ q5 q6).mono ?_
      rintro e y2 ⟨rfl, hb3⟩
      replace hbb := keepB hbb hb3
      clear hb3
      go_wp2_with fail
      go_ret
      exact ⟨by first | rfl | simp, hbb⟩
end Go.Proofs.Ytomokdepndclpaa
