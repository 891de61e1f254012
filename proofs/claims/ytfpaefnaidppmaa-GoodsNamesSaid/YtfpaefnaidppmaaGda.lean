/- Package goods: isList. -/
import Derived.Test.YtfpaefnaidppmaaGfk
namespace Go.Proofs.Ytfpaefnaidppmaa
open Go.RowKit
namespace As
/-- Is a number out of its range? -/
def obad (x lo hi : Int) : Bool := decide (x < lo) || decide (hi < x)
def anyO (xs : List Int) (lo hi : Int) : Bool := (List.range xs.length).any (fun k => obad (el xs k) lo hi)
theorem anyO_yes {xs : List Int} {lo hi : Int} {k : Nat} (h : k < xs.length) (hb : obad (el xs k) lo hi = true) : anyO xs lo hi = true := by
  unfold anyO; rw [List.any_eq_true]; exact ⟨k, by simpa using h, hb⟩
theorem anyO_no {xs : List Int} {lo hi : Int} (h : ∀ k, k < xs.length → obad (el xs k) lo hi = false) : anyO xs lo hi = false := by
  unfold anyO; rw [List.any_eq_false]; intro k hk; rw [h k (by simpa using hk)]; simp
theorem anyO_any (xs : List Int) (lo hi : Int) : anyO xs lo hi = xs.any (fun x => obad x lo hi) := by
  rw [Bool.eq_iff_iff, List.any_eq_true]
  unfold anyO
  rw [List.any_eq_true]
  constructor
  · rintro ⟨k, hk, h⟩
    have hk2 : k < xs.length := List.mem_range.1 hk
    exact ⟨xs[k], List.getElem_mem hk2, by rw [← el_lt hk2]; exact h⟩
  · rintro ⟨x, hx, h⟩
    obtain ⟨k, hk, rfl⟩ := List.mem_iff_getElem.1 hx
    exact ⟨k, List.mem_range.2 hk, by rw [el_lt hk]; exact h⟩
/-- A list of n numbers from lo to hi. -/
def isLo (xs : List Int) (n lo hi : Int) : Bool := decide ((xs.length : Int) = n) && !anyO xs lo hi
end As
set_option maxHeartbeats 1000000 in
theorem gisl1_any (x lo hi : Int) (p q : Nat) (w : World) (hc : w.cell? ⟨p, 0, none⟩ = some (.int .i64 lo)) (hd : w.cell? ⟨q, 0, none⟩ = some (.int .i64 hi)) :
    Calls Try.prog 45 #[.int .i64 x, .pointer (some ⟨p, 0, none⟩), .pointer (some ⟨q, 0, none⟩)] w fun e w' => e = .returned (.bool (As.obad x lo hi)) ∧ Below w.heap.size w w' := by
  unfold As.obad
  by_cases h1 : x < lo
  · have e1 : decide (x < lo) = true := decide_eq_true h1
    rw [e1, Bool.true_or]
    go_enter Try.func45, Try.ntmps45
    go_wp2_with fail
    go_ret
    exact ⟨rfl, Below.refl _ _⟩
  · have e1 : decide (x < lo) = false := decide_eq_false h1
    rw [e1, Bool.false_or]
    generalize hz : decide (hi < x) = z
    go_enter Try.func45, Try.ntmps45
    go_wp2_with fail
    go_ret
    exact ⟨by rw [← hz]; rfl, Below.refl _ _⟩
set_option linter.unusedSimpArgs false in
set_option maxHeartbeats 2000000 in
theorem gIndexF_any (A : Option Addr) (cap : Nat) (xs : List Int) (lo hi : Int) (p q : Nat) (w : World) (hl : xs.length ≤ maxLen) (h : IsI w A xs) (hc : w.cell? ⟨p, 0, none⟩ = some (.int .i64 lo)) (hd : w.cell? ⟨q, 0, none⟩ = some (.int .i64 hi)) :
    Calls Try.prog 47 #[.slice A xs.length cap, .func (.func 45) #[] #[.pointer (some ⟨p, 0, none⟩), .pointer (some ⟨q, 0, none⟩)]] w fun e w' => ∃ z : Int, e = .returned (.int .i64 z) ∧ (As.anyO xs lo hi = true → 0 ≤ z) ∧ (As.anyO xs lo hi = false → z = -1) ∧ Below w.heap.size w w' := by
  unfold maxLen at hl
  have HC := Lib.hid h
  have HP := Lib.hid hc
  have HQ := Lib.hid hd
  clear h hc hd
  go_enter Try.func47, Try.ntmps47
  go_wp2_with fail
  go_loopw [5, 8] (fun _ i W => ∃ k : Nat, k ≤ xs.length ∧ i = .int .i64 k ∧ (∀ j, j < k → As.obad (As.el xs j) lo hi = false) ∧ Below w.heap.size w W) (fun _ i _ => xs.length - (intOf i).toNat)
  case atStart => exact ⟨0, Nat.zero_le _, rfl, fun j hj => absurd hj (Nat.not_lt_zero _), Below.refl _ _⟩
  case round =>
    obtain ⟨k, hk, rfl, hok, hbb⟩ := hrel
    have HOK := Lib.hid hok
    clear hok
    by_cases hlt : k < xs.length
    · obtain ⟨b, off, rfl, hcs⟩ := HC.out.1 (by omega)
      have c0 := keepC hbb (hcs k hlt)
      clear hcs
      have hv := gisl1_any (As.el xs k) lo hi p q wr (keepC hbb HP.out) (keepC hbb HQ.out)
      by_cases hh : As.obad (As.el xs k) lo hi = true
      · rw [hh] at hv
        have HV := Lib.hid hv
        have EB := Lib.hid (As.anyO_yes hlt hh)
        clear hv hh
        generalize As.el xs k = x at *
        go_wp2_with fail
        refine HV.out.mono ?_
        rintro e w1 ⟨rfl, hb1⟩
        replace hbb := keepB hbb hb1
        clear hb1
        go_wp2_with fail
        go_ret
        first
          | exact ⟨fun _ => by omega, fun h => (by rw [EB.out] at h; cases h), hbb⟩
          | exact ⟨_, rfl, fun _ => by omega, fun h => (by rw [EB.out] at h; cases h), hbb⟩
      · have hh : As.obad (As.el xs k) lo hi = false := by simpa using hh
        rw [hh] at hv
        have HV := Lib.hid hv
        have EB := Lib.hid hh
        clear hv hh
        generalize As.el xs k = x at HV c0
        go_wp2_with fail
        refine HV.out.mono ?_
        rintro e w1 ⟨rfl, hb1⟩
        replace hbb := keepB hbb hb1
        clear hb1 c0
        go_wp2_with fail
        go_roundw
        case rel => exact ⟨k + 1, by omega, by go_num, fun j hj => (Nat.lt_succ_iff_lt_or_eq.1 hj).elim (HOK.out j) (fun e => e ▸ EB.out), hbb⟩
        case measure => simp [intOf]; omega
    · obtain rfl : k = xs.length := by omega
      have EB := Lib.hid (As.anyO_no HOK.out)
      clear HC HOK
      go_wp2_with fail
      go_ret
      first
        | exact ⟨fun h => (by rw [EB.out] at h; cases h), fun _ => rfl, hbb⟩
        | exact ⟨_, rfl, fun h => (by rw [EB.out] at h; cases h), fun _ => rfl, hbb⟩
set_option maxHeartbeats 1000000 in
theorem gContainsF_any (A : Option Addr) (cap : Nat) (xs : List Int) (lo hi : Int) (p q : Nat) (w : World) (hl : xs.length ≤ maxLen) (h : IsI w A xs) (hc : w.cell? ⟨p, 0, none⟩ = some (.int .i64 lo)) (hd : w.cell? ⟨q, 0, none⟩ = some (.int .i64 hi)) :
    Calls Try.prog 44 #[.slice A xs.length cap, .func (.func 45) #[] #[.pointer (some ⟨p, 0, none⟩), .pointer (some ⟨q, 0, none⟩)]] w fun e w' => e = .returned (.bool (As.anyO xs lo hi)) ∧ Below w.heap.size w w' := by
  have IX := Lib.hid (gIndexF_any A cap xs lo hi p q w hl h hc hd)
  generalize hz : As.anyO xs lo hi = b at *
  clear hl h hc hd hz
  go_enter Try.func44, Try.ntmps44
  go_wp2_with fail
  refine IX.out.mono ?_
  rintro e w1 ⟨z, rfl, h1, h2, hb1⟩
  cases b
  · obtain rfl := h2 rfl
    clear h1 h2
    go_wp2_with fail
    go_ret
    exact ⟨rfl, hb1⟩
  · have h3 := h1 rfl
    have hd : decide ((0 : Int) ≤ z) = true := decide_eq_true h3
    clear h1 h2
    go_wp2_with fail
    go_ret
    exact ⟨rfl, hb1⟩
set_option maxHeartbeats 1000000 in
theorem gisList_any (A : Option Addr) (cap : Nat) (xs : List Int) (n lo hi : Int) (w : World) (hl : xs.length ≤ maxLen) (h : IsI w A xs) :
    Calls Try.prog 39 #[.slice A xs.length cap, .int .i64 n, .int .i64 lo, .int .i64 hi] w fun e w' => e = .returned (.bool (As.isLo xs n lo hi)) ∧ Below w.heap.size w w' := by
  unfold As.isLo
  by_cases hn : (xs.length : Int) = n
  · have HX := Lib.hid (fun v p q (hv : Below w.heap.size w v) (hc : v.cell? ⟨p, 0, none⟩ = some (.int .i64 lo)) (hd : v.cell? ⟨q, 0, none⟩ = some (.int .i64 hi)) => gContainsF_any A cap xs lo hi p q v hl (h.keep hv) hc hd)
    subst hn
    have e0 : decide ((xs.length : Int) = (xs.length : Int)) = true := by simp
    rw [e0, Bool.true_and]
    generalize As.anyO xs lo hi = z at *
    clear hl h e0
    go_enter Try.func39, Try.ntmps39
    go_upto_region 1 with fail
    refine at_box2 (fun V0 hbb b0 b1 hsz => ?_)
    clear hsz
    have c0 := b0.c 0 rfl
    have c1 := b1.c 0 rfl
    go_wp2_with fail
    refine (HX.out _ _ _ hbb c0 c1).mono ?_
    rintro e w1 ⟨rfl, hb1⟩
    replace hbb := keepB hbb hb1
    clear hb1 b0 b1 c0 c1
    go_wp2_with fail
    go_ret
    exact ⟨by cases z <;> rfl, hbb⟩
  · have e0 : ((xs.length : Int) == n) = false := by simpa using hn
    have e1 : decide ((xs.length : Int) = n) = false := by simpa using hn
    rw [e1, Bool.false_and]
    clear hl h hn e1
    go_enter Try.func39, Try.ntmps39
    go_wp2_with fail
    go_ret
    exact ⟨rfl, below_al (below_al (Below.refl _ _) _) _⟩
end Go.Proofs.Ytfpaefnaidppmaa
