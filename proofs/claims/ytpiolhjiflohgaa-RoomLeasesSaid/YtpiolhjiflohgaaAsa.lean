/- Package assign: isList, isAssignment, Check, valueOf. -/
import Derived.Test.YtpiolhjiflohgaaIb
namespace Go.Proofs.Ytpiolhjiflohgaa
open Go.RowKit
namespace As
/-- A list of n numbers from 0 to m. -/
def isL (xs : List Int) (n m : Int) : Bool := decide ((xs.length : Int) = n) && xs.all (fun x => decide (0 ≤ x) && decide (x ≤ m))
def bad (x m : Int) : Bool := decide (x < 0) || decide (m < x)
def anyBad (xs : List Int) (m : Int) : Bool := (List.range xs.length).any (fun k => bad (el xs k) m)
theorem any_yes {xs : List Int} {m : Int} {k : Nat} (h : k < xs.length) (hb : bad (el xs k) m = true) : anyBad xs m = true := by
  unfold anyBad; rw [List.any_eq_true]; exact ⟨k, by simpa using h, hb⟩
theorem any_no {xs : List Int} {m : Int} (h : ∀ k, k < xs.length → bad (el xs k) m = false) : anyBad xs m = false := by
  unfold anyBad; rw [List.any_eq_false]; intro k hk; rw [h k (by simpa using hk)]; simp
theorem isL_eq (xs : List Int) (n m : Int) : isL xs n m = (decide ((xs.length : Int) = n) && !anyBad xs m) := by
  unfold isL
  congr 1
  rw [Bool.eq_iff_iff, List.all_eq_true, Bool.not_eq_true']
  constructor
  · intro h
    refine any_no fun k hk => ?_
    have := h _ (List.getElem_mem hk)
    unfold bad
    rw [show el xs k = xs[k] by unfold el; simp [hk]]
    simp at this ⊢; omega
  · intro h x hx
    obtain ⟨k, hk, rfl⟩ := List.mem_iff_getElem.1 hx
    unfold anyBad at h
    rw [List.any_eq_false] at h
    have := h k (by simpa using hk)
    unfold bad at this
    rw [show el xs k = xs[k] by unfold el; simp [hk]] at this
    simp at this ⊢; omega
/-- Are all lists as they should be? -/
def rowsOk (V : List (List Int)) : Bool := V.all (fun r => isL r V.length 1000000)
/-- Check's answer. -/
def chk (V : List (List Int)) : Int := if 6 < V.length then 4 else if V.length = 0 then 8 else if rowsOk V then 0 else 8
end As
set_option maxHeartbeats 1000000 in
theorem isl1_any (x m : Int) (p : Nat) (w : World) (hc : w.cell? ⟨p, 0, none⟩ = some (.int .i64 m)) :
    Calls Try.prog 82 #[.int .i64 x, .pointer (some ⟨p, 0, none⟩)] w fun e w' => e = .returned (.bool (As.bad x m)) ∧ Below w.heap.size w w' := by
  unfold As.bad
  by_cases h1 : x < 0
  · have e1 : decide (x < 0) = true := decide_eq_true h1
    rw [e1, Bool.true_or]
    go_enter Try.func82, Try.ntmps82
    go_wp2_with fail
    go_ret
    exact ⟨rfl, Below.refl _ _⟩
  · have e1 : decide (x < 0) = false := decide_eq_false h1
    rw [e1, Bool.false_or]
    generalize hz : decide (m < x) = z
    go_enter Try.func82, Try.ntmps82
    go_wp2_with fail
    go_ret
    exact ⟨by rw [← hz]; rfl, Below.refl _ _⟩
set_option linter.unusedSimpArgs false in
set_option maxHeartbeats 2000000 in
theorem asIndexF_any (A : Option Addr) (cap : Nat) (xs : List Int) (m : Int) (p : Nat) (w : World) (hl : xs.length ≤ maxLen) (h : IsI w A xs) (hc : w.cell? ⟨p, 0, none⟩ = some (.int .i64 m)) :
    Calls Try.prog 87 #[.slice A xs.length cap, .func (.func 82) #[] #[.pointer (some ⟨p, 0, none⟩)]] w fun e w' => ∃ z : Int, e = .returned (.int .i64 z) ∧ (As.anyBad xs m = true → 0 ≤ z) ∧ (As.anyBad xs m = false → z = -1) ∧ Below w.heap.size w w' := by
  unfold maxLen at hl
  have HC := Lib.hid h
  have HP := Lib.hid hc
  clear h hc
  go_enter Try.func87, Try.ntmps87
  go_wp2_with fail
  go_loopw [5, 8] (fun _ i W => ∃ k : Nat, k ≤ xs.length ∧ i = .int .i64 k ∧ (∀ j, j < k → As.bad (As.el xs j) m = false) ∧ Below w.heap.size w W) (fun _ i _ => xs.length - (intOf i).toNat)
  case atStart => exact ⟨0, Nat.zero_le _, rfl, fun j hj => absurd hj (Nat.not_lt_zero _), Below.refl _ _⟩
  case round =>
    obtain ⟨k, hk, rfl, hok, hbb⟩ := hrel
    have HOK := Lib.hid hok
    clear hok
    by_cases hlt : k < xs.length
    · obtain ⟨b, off, rfl, hcs⟩ := HC.out.1 (by omega)
      have c0 := keepC hbb (hcs k hlt)
      clear hcs
      have hv := isl1_any (As.el xs k) m p wr (keepC hbb HP.out)
      by_cases hh : As.bad (As.el xs k) m = true
      · rw [hh] at hv
        have HV := Lib.hid hv
        have EB := Lib.hid (As.any_yes hlt hh)
        clear hv hh
        generalize As.el xs k = x at *
        go_wp2_with fail
        refine HV.out.mono ?_
        rintro e w1 ⟨rfl, hb1⟩
        replace hbb := keepB hbb hb1
        clear hb1
        go_wp2_with fail
        go_ret
        first
          | exact ⟨fun _ => by omega, fun h => (by rw [EB.out] at h; cases h), hbb⟩
          | exact ⟨_, rfl, fun _ => by omega, fun h => (by rw [EB.out] at h; cases h), hbb⟩
      · have hh : As.bad (As.el xs k) m = false := by simpa using hh
        rw [hh] at hv
        have HV := Lib.hid hv
        have EB := Lib.hid hh
        clear hv hh
        generalize As.el xs k = x at HV c0
        go_wp2_with fail
        refine HV.out.mono ?_
        rintro e w1 ⟨rfl, hb1⟩
        replace hbb := keepB hbb hb1
        clear hb1 c0
        go_wp2_with fail
        go_roundw
        case rel => exact ⟨k + 1, by omega, by go_num, fun j hj => (Nat.lt_succ_iff_lt_or_eq.1 hj).elim (HOK.out j) (fun e => e ▸ EB.out), hbb⟩
        case measure => simp [intOf]; omega
    · obtain rfl : k = xs.length := by omega
      have EB := Lib.hid (As.any_no HOK.out)
      clear HC HOK
      go_wp2_with fail
      go_ret
      first
        | exact ⟨fun h => (by rw [EB.out] at h; cases h), fun _ => rfl, hbb⟩
        | exact ⟨_, rfl, fun h => (by rw [EB.out] at h; cases h), fun _ => rfl, hbb⟩
set_option maxHeartbeats 1000000 in
theorem asContainsF_any (A : Option Addr) (cap : Nat) (xs : List Int) (m : Int) (p : Nat) (w : World) (hl : xs.length ≤ maxLen) (h : IsI w A xs) (hc : w.cell? ⟨p, 0, none⟩ = some (.int .i64 m)) :
    Calls Try.prog 81 #[.slice A xs.length cap, .func (.func 82) #[] #[.pointer (some ⟨p, 0, none⟩)]] w fun e w' => e = .returned (.bool (As.anyBad xs m)) ∧ Below w.heap.size w w' := by
  have IX := Lib.hid (asIndexF_any A cap xs m p w hl h hc)
  generalize hz : As.anyBad xs m = b at *
  clear hl h hc hz
  go_enter Try.func81, Try.ntmps81
  go_wp2_with fail
  refine IX.out.mono ?_
  rintro e w1 ⟨z, rfl, h1, h2, hb1⟩
  cases b
  · obtain rfl := h2 rfl
    clear h1 h2
    go_wp2_with fail
    go_ret
    exact ⟨rfl, hb1⟩
  · have h3 := h1 rfl
    have hd : decide ((0 : Int) ≤ z) = true := decide_eq_true h3
    clear h1 h2
    go_wp2_with fail
    go_ret
    exact ⟨rfl, hb1⟩
set_option maxHeartbeats 1000000 in
theorem isList_any (A : Option Addr) (cap : Nat) (xs : List Int) (n m : Int) (w : World) (hl : xs.length ≤ maxLen) (h : IsI w A xs) :
    Calls Try.prog 71 #[.slice A xs.length cap, .int .i64 n, .int .i64 m] w fun e w' => e = .returned (.bool (As.isL xs n m)) ∧ Below w.heap.size w w' := by
  rw [As.isL_eq]
  by_cases hn : (xs.length : Int) = n
  · have HX := Lib.hid (fun v p (hv : Below w.heap.size w v) (hc : v.cell? ⟨p, 0, none⟩ = some (.int .i64 m)) => asContainsF_any A cap xs m p v hl (h.keep hv) hc)
    subst hn
    have e0 : decide ((xs.length : Int) = (xs.length : Int)) = true := by simp
    rw [e0, Bool.true_and]
    generalize As.anyBad xs m = z at *
    clear hl h e0
    go_enter Try.func71, Try.ntmps71
    go_wp2_with fail
    refine (HX.out _ _ (below_al (Below.refl _ _) _) (by go_simp)).mono ?_
    rintro e w1 ⟨rfl, hb1⟩
    have hbb := keepB (below_al (Below.refl _ _) _) hb1
    clear hb1
    go_wp2_with fail
    go_ret
    exact ⟨by cases z <;> rfl, hbb⟩
  · have e0 : ((xs.length : Int) == n) = false := by simpa using hn
    have e1 : decide ((xs.length : Int) = n) = false := by simpa using hn
    rw [e1, Bool.false_and]
    clear hl h hn e1
    go_enter Try.func71, Try.ntmps71
    go_wp2_with fail
    go_ret
    exact ⟨rfl, below_al (Below.refl _ _) _⟩
end Go.Proofs.Ytpiolhjiflohgaa
