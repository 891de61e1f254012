/- Layer 13's law: Same of equal lists, fit, given, equal. -/
import Derived.Test.YtkibglbccfjkpaaAsr
namespace Go.Proofs.Ytkibglbccfjkpaa
open Go.RowKit
set_option maxRecDepth 100000 in
set_option maxHeartbeats 2000000 in
theorem same_eq (A : Option Addr) (ca : Nat) (B : Option Addr) (cb : Nat) (xs : List Int) (w : World) (hl : xs.length ≤ maxLen) (hA : IsI w A xs) (hB : IsI w B xs) :
    Calls Try.prog 20 #[.slice A xs.length ca, .slice B xs.length cb] w fun e w' => e = .returned (.bool true) ∧ Below w.heap.size w w' := by
  unfold maxLen at hl
  have HA := Lib.hid hA
  have HB := Lib.hid hB
  clear hA hB
  have e0 : ((xs.length : Int) != xs.length) = false := by simp
  go_enter Try.func20, Try.ntmps20
  go_wp2_with fail
  go_loopw [5] (fun i W => ∃ k : Nat, k ≤ xs.length ∧ i = .int .i64 k ∧ Below w.heap.size w W) (fun i _ => xs.length - (intOf i).toNat)
  case atStart => exact ⟨0, Nat.zero_le _, rfl, Below.refl _ _⟩
  case round =>
    obtain ⟨k, hk, rfl, hbb⟩ := hrel
    by_cases hlt : k < xs.length
    · obtain ⟨b1, o1, rfl, h1⟩ := HA.out.1 (by omega)
      obtain ⟨b2, o2, rfl, h2⟩ := HB.out.1 (by omega)
      have c1 := keepC hbb (h1 k hlt)
      have c2 := keepC hbb (h2 k hlt)
      clear h1 h2
      generalize As.el xs k = x at *
      have d1 : (x != x) = false := by simp
      have i1 : (k : Int) < (xs.length : Int) := by omega
      go_wp2_with fail
      go_quiet (fail)
      go_wp2_with fail
      go_roundw
      case rel => exact ⟨k + 1, by omega, by go_num, below_drewN hbb _⟩
      case measure => simp [intOf]; omega
    · obtain rfl : k = xs.length := by omega
      go_wp2_with fail
      go_ret
      exact ⟨rfl, hbb⟩
namespace As
/-- Are bids valid? -/
def ftB (V : List (List Int)) : Bool := decide (chk V = 0)
end As
set_option maxHeartbeats 2000000 in
theorem fit_any (A : Option Addr) (cv : Nat) (V : List (List Int)) (w : World) (hl : V.length ≤ maxLen) (h : IsM w A V) :
    Calls Try.prog 28 #[.slice A V.length cv] w fun e w' => e = .returned (.bool (As.ftB V)) ∧ Below w.heap.size w w' := by
  have CK := rCheck_any A cv V w hl h
  unfold maxLen at hl
  by_cases h6 : V.length ≤ 6
  · have d1 : decide ((V.length : Int) ≤ 6) = true := by rw [decide_eq_true_eq]; omega
    unfold As.ftB
    by_cases h0 : As.chk V = 0
    · rw [h0] at CK ⊢
      have CK' := Lib.hid CK
      clear CK h h0
      go_enter Try.func28, Try.ntmps28
      go_wp2_with fail
      refine CK'.out.mono ?_
      rintro e w1 ⟨rfl, hb1⟩
      go_wp2_with fail
      go_ret
      exact ⟨rfl, hb1⟩
    · have e1 : decide (As.chk V = 0) = false := decide_eq_false h0
      have e2 : (As.chk V == 0) = false := by rw [beq_eq_false_iff_ne]; exact h0
      rw [e1]
      generalize As.chk V = c at *
      have CK' := Lib.hid CK
      clear CK h h0 e1
      go_enter Try.func28, Try.ntmps28
      go_wp2_with fail
      refine CK'.out.mono ?_
      rintro e w1 ⟨rfl, hb1⟩
      go_wp2_with fail
      go_ret
      exact ⟨rfl, hb1⟩
  · have d1 : decide ((V.length : Int) ≤ 6) = false := by rw [decide_eq_false_iff_not]; omega
    have e1 : As.ftB V = false := by unfold As.ftB As.chk; rw [if_pos (by omega)]; rfl
    rw [e1]
    clear CK h e1
    go_enter Try.func28, Try.ntmps28
    go_wp2_with fail
    go_ret
    exact ⟨rfl, Below.refl _ _⟩
/-- A literal of two lists of two numbers. -/
theorem isM_lit2 {w : World} (a b c d : Int) {p q r : Nat} (ha : I64 a) (hb : I64 b) (hc : I64 c) (hd : I64 d) (c0 : w.cell? ⟨r, 0, none⟩ = some (.slice (some ⟨p, 0, none⟩) 2 2)) (c1 : w.cell? ⟨r, 1, none⟩ = some (.slice (some ⟨q, 0, none⟩) 2 2))
    (x0 : w.cell? ⟨p, 0, none⟩ = some (.int .i64 a)) (x1 : w.cell? ⟨p, 1, none⟩ = some (.int .i64 b)) (y0 : w.cell? ⟨q, 0, none⟩ = some (.int .i64 c)) (y1 : w.cell? ⟨q, 1, none⟩ = some (.int .i64 d)) : IsM w (some ⟨r, 0, none⟩) [[a, b], [c, d]] := by
  have two : ∀ (a b : Int) (p : Nat), I64 a → I64 b → w.cell? ⟨p, 0, none⟩ = some (.int .i64 a) → w.cell? ⟨p, 1, none⟩ = some (.int .i64 b) → IsI w (some ⟨p, 0, none⟩) [a, b] := fun a b p ha hb x0 x1 => by
    refine ⟨fun _ => ⟨p, 0, rfl, fun i hi => ?_⟩, fun z hz => ?_⟩
    · match i, hi with
      | 0, _ => exact x0
      | 1, _ => exact x1
    · rcases List.mem_cons.1 hz with rfl | hz
      · exact ha
      · rcases List.mem_cons.1 hz with rfl | hz
        · exact hb
        · cases hz
  refine fun _ => ⟨r, 0, rfl, fun i hi => ?_⟩
  match i, hi with
  | 0, _ => exact ⟨_, _, c0, by unfold maxLen; simp, two a b p ha hb x0 x1⟩
  | 1, _ => exact ⟨_, _, c1, by unfold maxLen; simp, two c d q hc hd y0 y1⟩
theorem isI_lit2 {w : World} (a b : Int) {p : Nat} (ha : I64 a) (hb : I64 b) (x0 : w.cell? ⟨p, 0, none⟩ = some (.int .i64 a)) (x1 : w.cell? ⟨p, 1, none⟩ = some (.int .i64 b)) : IsI w (some ⟨p, 0, none⟩) [a, b] := by
  refine ⟨fun _ => ⟨p, 0, rfl, fun i hi => ?_⟩, fun z hz => ?_⟩
  · match i, hi with
    | 0, _ => exact x0
    | 1, _ => exact x1
  · rcases List.mem_cons.1 hz with rfl | hz
    · exact ha
    · rcases List.mem_cons.1 hz with rfl | hz
      · exact hb
      · cases hz
/-- What given and equal give. -/
def LitQ (V : List (List Int)) (w : World) (e : Ending) (w' : World) : Prop := ∃ g, e = .returned (.slice (some ⟨g, 0, none⟩) 2 2) ∧ IsM w' (some ⟨g, 0, none⟩) V ∧ Below w.heap.size w w'
set_option maxHeartbeats 2000000 in
theorem given_any (w : World) : Calls Try.prog 26 #[] w (LitQ [[5, 3], [4, 1]] w) := by
  go_enter Try.func26, Try.ntmps26
  go_wp2_with fail
  exact bodyPost_ret (v := .slice (some ⟨w.heap.size + 1 + 1, 0, none⟩) 2 2) (by simp [results, Try.results26, go_sem]) rfl ⟨_, rfl, isM_lit2 5 3 4 1 (p := w.heap.size) (q := w.heap.size + 1) (by unfold I64; decide) (by unfold I64; decide) (by unfold I64; decide) (by unfold I64; decide) (by go_simp) (by go_simp) (by go_simp) (by go_simp) (by go_simp) (by go_simp), below_al (below_al (below_al (Below.refl _ _) _) _) _⟩
set_option maxHeartbeats 2000000 in
theorem equal_any (w : World) : Calls Try.prog 41 #[] w (LitQ [[1, 1], [1, 1]] w) := by
  go_enter Try.func41, Try.ntmps41
  go_wp2_with fail
  exact bodyPost_ret (v := .slice (some ⟨w.heap.size + 1 + 1, 0, none⟩) 2 2) (by simp [results, Try.results41, go_sem]) rfl ⟨_, rfl, isM_lit2 1 1 1 1 (p := w.heap.size) (q := w.heap.size + 1) (by unfold I64; decide) (by unfold I64; decide) (by unfold I64; decide) (by unfold I64; decide) (by go_simp) (by go_simp) (by go_simp) (by go_simp) (by go_simp) (by go_simp), below_al (below_al (below_al (Below.refl _ _) _) _) _⟩
end Go.Proofs.Ytkibglbccfjkpaa
