/- The reference of layer 13: Check, Assigned, Worth, Priced, Content, Great. The reference of layer 13: Worth, Priced, Content, Great, Value, Proves. The reference of layer 13: Great, Value, Proves. Layer 13's law: Same of equal lists, fit, given, equal. -/
import Derived.Test.YtfpaefnaidppmaaYe
namespace Go.Proofs.Ytfpaefnaidppmaa
open Go.RowKit
namespace As
theorem isL_len {xs : List Int} {n m : Int} (h : ¬ (xs.length : Int) = n) : isL xs n m = false := by unfold isL; rw [decide_eq_false h, Bool.false_and]
theorem isL_bad {xs : List Int} {n m : Int} {k : Nat} (hk : k < xs.length) (h : bad (el xs k) m = true) : isL xs n m = false := by
  rw [isL_eq, any_yes hk h]; simp
theorem isL_good {xs : List Int} {n m : Int} (hl : (xs.length : Int) = n) (h : ∀ k, k < xs.length → bad (el xs k) m = false) : isL xs n m = true := by
  rw [isL_eq, any_no h, decide_eq_true hl]; rfl
/-- How often a number is there among the first ones. -/
def cn (xs : List Int) (x : Int) : Nat → Nat
  | 0 => 0
  | m + 1 => cn xs x m + if el xs m = x then 1 else 0
theorem cn_le (xs : List Int) (x : Int) : ∀ m, cn xs x m ≤ m
  | 0 => Nat.le_refl _
  | m + 1 => by have := cn_le xs x m; unfold cn; split <;> omega
theorem cn_take (xs : List Int) (x : Int) : ∀ m, m ≤ xs.length → cn xs x m = (xs.take m).count x
  | 0, _ => by simp [cn]
  | m + 1, h => by
    unfold cn
    rw [cn_take xs x m (by omega), List.take_succ_eq_append_getElem (by omega), List.count_append]
    congr 1
    have : el xs m = xs[m] := by unfold el; simp [show m < xs.length by omega]
    rw [this]
    by_cases e : xs[m] = x
    · simp [e]
    · rw [if_neg e, List.count_singleton, if_neg (by simpa using e)]
theorem cn_one {xs : List Int} {n : Nat} (h : isA xs n = true) {j : Nat} (hj : j < n) : cn xs j n = 1 := by
  have hl : xs.length = n := by
    unfold isA at h
    simp only [Bool.and_eq_true, decide_eq_true_eq] at h
    exact h.1
  obtain ⟨a, rfl, hp⟩ := isA_perm h
  rw [cn_take _ _ _ (by omega), take_all hl]
  have h1 : (al a).Nodup := by
    refine List.Pairwise.map _ (fun x y hxy e => hxy (Int.ofNat.inj e)) (hp.nodup_iff.2 List.nodup_range)
  have h2 : (j : Int) ∈ al a := List.mem_map.2 ⟨j, hp.mem_iff.2 (by simpa using hj), rfl⟩
  exact List.Nodup.count h1 |>.trans (if_pos h2)
theorem isA_cn {xs : List Int} {n : Nat} (hl : xs.length = n) (h : ∀ j : Nat, j < n → cn xs j n = 1) : isA xs n = true := by
  refine isA_yes hl fun j hj => ?_
  have := h j hj
  rw [cn_take _ _ _ (by omega), take_all hl] at this
  unfold has
  rw [decide_eq_true_eq]
  exact List.count_pos_iff.1 (by omega)
theorem isA_cnno {xs : List Int} {n j : Nat} (hj : j < n) (h : ¬ cn xs j n = 1) : isA xs n = false := by
  by_cases e : isA xs n = true
  · exact absurd (cn_one e hj) h
  · simpa using e
end As
set_option maxRecDepth 100000 in
set_option maxHeartbeats 2000000 in
theorem rAssigned_any (A : Option Addr) (cap : Nat) (xs : List Int) (n : Nat) (w : World) (hl : xs.length ≤ maxLen) (h : IsI w A xs) :
    Calls Try.prog 33 #[.slice A xs.length cap, .int .i64 n] w fun e w' => e = .returned (.bool (As.isA xs n)) ∧ Below w.heap.size w w' := by
  unfold maxLen at hl
  by_cases hn : xs.length = n
  · subst hn
    have HC := Lib.hid h
    have HCY := Lib.hid (fun h => @As.isA_cn xs xs.length rfl h)
    have HCN := Lib.hid (fun j => @As.isA_cnno xs xs.length j)
    clear h
    have e0 : ((xs.length : Int) != xs.length) = false := by simp
    generalize hz : As.isA xs xs.length = z at *
    clear hz
    go_enter Try.func33, Try.ntmps33
    go_wp2_with fail
    go_loop [5, 6, 7] (fun i _ _ => ∃ k : Nat, k ≤ xs.length ∧ i = .int .i64 k ∧ Hid (∀ j : Nat, j < k → As.cn xs j xs.length = 1)) (fun i _ _ => xs.length - (intOf i).toNat)
    case atStart => exact ⟨0, Nat.zero_le _, rfl, Lib.hid (fun j hj => absurd hj (Nat.not_lt_zero _))⟩
    case round =>
      obtain ⟨k, hk, rfl, HOK⟩ := hrel
      by_cases hlt : k < xs.length
      · have HN := Lib.hid (HCN.out k hlt)
        clear HCN
        go_wp2_with fail
        go_loop [6, 7] (fun t i => ∃ m : Nat, m ≤ xs.length ∧ i = .int .i64 m ∧ t = .int .i64 (As.cn xs k m)) (fun _ i => xs.length - (intOf i).toNat)
        case atStart => exact ⟨0, Nat.zero_le _, rfl, rfl⟩
        case round =>
          obtain ⟨m, hm, rfl, rfl⟩ := hrel
          by_cases hltm : m < xs.length
          · obtain ⟨b, off, rfl, hcs⟩ := HC.out.1 (by omega)
            have c0 := hcs m hltm
            have hle := As.cn_le xs k m
            clear hcs
            have ES := Lib.hid (show As.cn xs k (m + 1) = As.cn xs k m + if As.el xs m = (k : Int) then 1 else 0 from rfl)
            by_cases hh : As.el xs m = (k : Int)
            · rw [if_pos hh] at ES
              have e1 : (As.el xs m == (k : Int)) = true := by simpa using hh
              clear hh
              generalize As.el xs m = y at *
              generalize hq : As.cn xs k m = q at *
              clear hq
              go_wp2_with fail
              go_round
              case rel => exact ⟨m + 1, by omega, by go_num, by rw [ES.out]; go_num⟩
              case measure => simp [intOf]; omega
            · rw [if_neg hh] at ES
              have e1 : (As.el xs m == (k : Int)) = false := by simpa using hh
              clear hh
              generalize As.el xs m = y at *
              generalize hq : As.cn xs k m = q at *
              clear hq
              go_wp2_with fail
              go_round
              case rel => exact ⟨m + 1, by omega, by go_num, by rw [ES.out]; rfl⟩
              case measure => simp [intOf]; omega
          · obtain rfl : m = xs.length := by omega
            generalize hq : As.cn xs k xs.length = q at *
            by_cases h1 : q = 1
            · have e1 : ((q : Int) != 1) = false := by rw [bne_eq_false_iff_eq]; omega
              have HE := Lib.hid (hq.trans h1)
              clear hq h1 HN
              go_wp2_with fail
              go_round
              case rel => exact ⟨k + 1, by omega, by go_num, Lib.hid (fun j hj => (Nat.lt_succ_iff_lt_or_eq.1 hj).elim (HOK.out j) (fun e => e ▸ HE.out))⟩
              case measure => simp [intOf]; omega
            · have e1 : ((q : Int) != 1) = true := by rw [bne_iff_ne]; omega
              have HE := Lib.hid (HN.out h1)
              clear hq h1 HN
              go_wp2_with fail
              go_ret
              exact ⟨by rw [HE.out]; rfl, Below.refl _ _⟩
      · obtain rfl : k = xs.length := by omega
        have EB := Lib.hid (HCY.out HOK.out)
        clear HC HOK HCN HCY
        go_wp2_with fail
        go_ret
        exact ⟨by rw [EB.out]; rfl, Below.refl _ _⟩
  · have e0 : ((xs.length : Int) != n) = true := by rw [bne_iff_ne]; omega
    have e1 : As.isA xs n = false := by unfold As.isA; rw [decide_eq_false hn, Bool.false_and]
    rw [e1]
    clear hn e1
    go_enter Try.func33, Try.ntmps33
    go_wp2_with fail
    go_ret
    exact ⟨rfl, Below.refl _ _⟩
end Go.Proofs.Ytfpaefnaidppmaa
namespace Go.Proofs.Ytfpaefnaidppmaa
open Go.RowKit
end Go.Proofs.Ytfpaefnaidppmaa
namespace Go.Proofs.Ytfpaefnaidppmaa
open Go.RowKit
/-- Great's answer: false only where there are no more than this. -/
def GrQ (w : World) (V : List (List Int)) (e : Ending) (w' : World) : Prop := ∃ z, e = .returned (.bool z) ∧ (z = false → V.length ≠ 6 ∧ V.length ≤ 20 ∧ ∀ i, i < V.length → (V.getD i []).length ≤ 50) ∧ Below w.heap.size w w'
theorem GrQ.yes {w w' : World} {V : List (List Int)} (h : Below w.heap.size w w') : GrQ w V (.returned (.bool true)) w' := ⟨true, rfl, fun h => (by cases h), h⟩
theorem GrQ.no {w w' : World} {V : List (List Int)} (h : Below w.heap.size w w') (h6 : V.length ≠ 6) (h20 : V.length ≤ 20) (hr : ∀ i, i < V.length → (V.getD i []).length ≤ 50) : GrQ w V (.returned (.bool false)) w' := ⟨false, rfl, fun _ => ⟨h6, h20, hr⟩, h⟩
end Go.Proofs.Ytfpaefnaidppmaa
namespace Go.Proofs.Ytfpaefnaidppmaa
open Go.RowKit
set_option maxRecDepth 100000 in
set_option maxHeartbeats 2000000 in
theorem same_eq (A : Option Addr) (ca : Nat) (B : Option Addr) (cb : Nat) (xs : List Int) (w : World) (hl : xs.length ≤ maxLen) (hA : IsI w A xs) (hB : IsI w B xs) :
    Calls Try.prog 23 #[.slice A xs.length ca, .slice B xs.length cb] w fun e w' => e = .returned (.bool true) ∧ Below w.heap.size w w' := by
  unfold maxLen at hl
  have HA := Lib.hid hA
  have HB := Lib.hid hB
  clear hA hB
  have e0 : ((xs.length : Int) != xs.length) = false := by simp
  go_enter Try.func23, Try.ntmps23
  go_wp2_with fail
  go_loopw [5] (fun i W => ∃ k : Nat, k ≤ xs.length ∧ i = .int .i64 k ∧ Below w.heap.size w W) (fun i _ => xs.length - (intOf i).toNat)
  case atStart => exact ⟨0, Nat.zero_le _, rfl, Below.refl _ _⟩
  case round =>
    obtain ⟨k, hk, rfl, hbb⟩ := hrel
    by_cases hlt : k < xs.length
    · obtain ⟨b1, o1, rfl, h1⟩ := HA.out.1 (by omega)
      obtain ⟨b2, o2, rfl, h2⟩ := HB.out.1 (by omega)
      have c1 := keepC hbb (h1 k hlt)
      have c2 := keepC hbb (h2 k hlt)
      clear h1 h2
      generalize As.el xs k = x at *
      have d1 : (x != x) = false := by simp
      have i1 : (k : Int) < (xs.length : Int) := by omega
      go_wp2_with fail
      go_quiet (fail)
      go_wp2_with fail
      go_roundw
      case rel => exact ⟨k + 1, by omega, by go_num, below_drewN hbb _⟩
      case measure => simp [intOf]; omega
    · obtain rfl : k = xs.length := by omega
      go_wp2_with fail
      go_ret
      exact ⟨rfl, hbb⟩
namespace As
/-- Are bids valid? -/
def ftB (V : List (List Int)) : Bool := decide (chk V = 0)
end As
/-- A literal of two lists of two numbers. -/
theorem isM_lit2 {w : World} (a b c d : Int) {p q r : Nat} (ha : I64 a) (hb : I64 b) (hc : I64 c) (hd : I64 d) (c0 : w.cell? ⟨r, 0, none⟩ = some (.slice (some ⟨p, 0, none⟩) 2 2)) (c1 : w.cell? ⟨r, 1, none⟩ = some (.slice (some ⟨q, 0, none⟩) 2 2))
    (x0 : w.cell? ⟨p, 0, none⟩ = some (.int .i64 a)) (x1 : w.cell? ⟨p, 1, none⟩ = some (.int .i64 b)) (y0 : w.cell? ⟨q, 0, none⟩ = some (.int .i64 c)) (y1 : w.cell? ⟨q, 1, none⟩ = some (.int .i64 d)) : IsM w (some ⟨r, 0, none⟩) [[a, b], [c, d]] := by
  have two : ∀ (a b : Int) (p : Nat), I64 a → I64 b → w.cell? ⟨p, 0, none⟩ = some (.int .i64 a) → w.cell? ⟨p, 1, none⟩ = some (.int .i64 b) → IsI w (some ⟨p, 0, none⟩) [a, b] := fun a b p ha hb x0 x1 => by
    refine ⟨fun _ => ⟨p, 0, rfl, fun i hi => ?_⟩, fun z hz => ?_⟩
    · match i, hi with
      | 0, _ => exact x0
      | 1, _ => exact x1
    · rcases List.mem_cons.1 hz with rfl | hz
      · exact ha
      · rcases List.mem_cons.1 hz with rfl | hz
        · exact hb
        · cases hz
  refine fun _ => ⟨r, 0, rfl, fun i hi => ?_⟩
  match i, hi with
  | 0, _ => exact ⟨_, _, c0, by unfold maxLen; simp, two a b p ha hb x0 x1⟩
  | 1, _ => exact ⟨_, _, c1, by unfold maxLen; simp, two c d q hc hd y0 y1⟩
theorem isI_lit2 {w : World} (a b : Int) {p : Nat} (ha : I64 a) (hb : I64 b) (x0 : w.cell? ⟨p, 0, none⟩ = some (.int .i64 a)) (x1 : w.cell? ⟨p, 1, none⟩ = some (.int .i64 b)) : IsI w (some ⟨p, 0, none⟩) [a, b] := by
  refine ⟨fun _ => ⟨p, 0, rfl, fun i hi => ?_⟩, fun z hz => ?_⟩
  · match i, hi with
    | 0, _ => exact x0
    | 1, _ => exact x1
  · rcases List.mem_cons.1 hz with rfl | hz
    · exact ha
    · rcases List.mem_cons.1 hz with rfl | hz
      · exact hb
      · cases hz
/-- What given and equal give. -/
def LitQ (V : List (List Int)) (w : World) (e : Ending) (w' : World) : Prop := ∃ g, e = .returned (.slice (some ⟨g, 0, none⟩) 2 2) ∧ IsM w' (some ⟨g, 0, none⟩) V ∧ Below w.heap.size w w'
end Go.Proofs.Ytfpaefnaidppmaa
