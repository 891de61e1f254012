/- Package goods: turn, isOrder, sum. -/
import Derived.Test.YtfpaefnaidppmaaGdv
namespace Go.Proofs.Ytfpaefnaidppmaa
open Go.RowKit
namespace As
/-- The first index of a number, or -1. -/
def ixo (xs : List Int) (x : Int) : Int := if x ∈ xs then ((xs.idxOf x : Nat) : Int) else -1
theorem ixo_yes {xs : List Int} {x : Int} {k : Nat} (hk : k < xs.length) (h : el xs k = x) (hno : ∀ j, j < k → ¬ el xs j = x) : ixo xs x = (k : Int) := by
  have hm : x ∈ xs := by rw [← h, el_lt hk]; exact List.getElem_mem hk
  unfold ixo
  rw [if_pos hm]
  have hlt := List.idxOf_lt_length_iff.2 hm
  have e := List.getElem_idxOf hlt
  have h1 : ¬ xs.idxOf x < k := fun hh => hno _ hh (by rw [el_lt hlt]; exact e)
  have h2 : ¬ k < xs.idxOf x := fun hh => by
    have := List.not_of_lt_findIdx (p := (· == x)) hh
    rw [el_lt hk] at h
    simp [h] at this
  omega
theorem ixo_no {xs : List Int} {x : Int} (h : ∀ k, k < xs.length → ¬ el xs k = x) : ixo xs x = -1 := by
  unfold ixo
  rw [if_neg]
  intro hm
  obtain ⟨k, hk, e⟩ := List.mem_iff_getElem.1 hm
  exact h k hk (by rw [el_lt hk]; exact e)
theorem ixo_lt (xs : List Int) (x : Int) : -1 ≤ ixo xs x ∧ ixo xs x < xs.length ∨ xs.length = 0 ∧ ixo xs x = -1 := by
  unfold ixo
  by_cases h : x ∈ xs
  · rw [if_pos h]
    have := List.idxOf_lt_length_iff.2 h
    exact .inl ⟨by omega, by omega⟩
  · rw [if_neg h]
    by_cases h0 : xs.length = 0
    · exact .inr ⟨h0, rfl⟩
    · exact .inl ⟨by omega, by omega⟩
theorem ixo_bd (xs : List Int) (x : Int) : -1 ≤ ixo xs x := by
  rcases ixo_lt xs x with h | h <;> omega
theorem ixo_has (xs : List Int) (x : Int) : has xs x = !decide (ixo xs x < 0) := by
  unfold has ixo
  by_cases h : x ∈ xs
  · rw [if_pos h, decide_eq_true h, decide_eq_false (by omega)]; rfl
  · rw [if_neg h, decide_eq_false h, decide_eq_true (by omega)]; rfl
theorem isA_len {xs : List Int} {n : Nat} (h : ¬ xs.length = n) : isA xs n = false := by unfold isA; rw [decide_eq_false h, Bool.false_and]
theorem sm_succ (f : Nat → Int) (k : Nat) : sm f (List.range (k + 1)) = sm f (List.range k) + f k := by
  rw [List.range_succ, sm_append]; simp [sm]
theorem gsm_bd {f : Nat → Int} {M : Int} {n : Nat} (h : ∀ j, j < n → 0 ≤ f j ∧ f j ≤ M) : ∀ k, k ≤ n → 0 ≤ sm f (List.range k) ∧ sm f (List.range k) ≤ k * M
  | 0, _ => by simp [sm]
  | k + 1, hk => by
    have ih := gsm_bd h k (by omega)
    have h1 := h k (by omega)
    rw [sm_succ, show ((k + 1 : Nat) : Int) = k + 1 from rfl, Int.add_mul]
    omega
end As
set_option linter.unusedSimpArgs false in
set_option maxHeartbeats 2000000 in
theorem gIndex_any (A : Option Addr) (cap : Nat) (xs : List Int) (x : Int) (w : World) (hl : xs.length ≤ maxLen) (h : IsI w A xs) :
    Calls Try.prog 46 #[.slice A xs.length cap, .int .i64 x] w fun e w' => e = .returned (.int .i64 (As.ixo xs x)) ∧ Below w.heap.size w w' := by
  unfold maxLen at hl
  have HC := Lib.hid h
  clear h
  go_enter Try.func46, Try.ntmps46
  go_wp2_with fail
  go_loop [5, 8] (fun _ i => ∃ k : Nat, k ≤ xs.length ∧ i = .int .i64 k ∧ (∀ j, j < k → ¬ As.el xs j = x)) (fun _ i => xs.length - (intOf i).toNat)
  case atStart => exact ⟨0, Nat.zero_le _, rfl, fun j hj => absurd hj (Nat.not_lt_zero _)⟩
  case round =>
    obtain ⟨k, hk, rfl, hok⟩ := hrel
    have HOK := Lib.hid hok
    clear hok
    by_cases hlt : k < xs.length
    · obtain ⟨b, off, rfl, hcs⟩ := HC.out.1 (by omega)
      have c0 := hcs k hlt
      clear hcs
      by_cases hh : As.el xs k = x
      · have EB := Lib.hid (As.ixo_yes hlt hh HOK.out)
        have e1 : (x == As.el xs k) = true := by simpa using hh.symm
        clear hh
        generalize As.el xs k = y at *
        go_wp2_with fail
        go_ret
        exact ⟨by rw [EB.out]; rfl, Below.refl _ _⟩
      · have e1 : (x == As.el xs k) = false := by simpa using fun e => hh e.symm
        have EB := Lib.hid hh
        clear hh
        generalize As.el xs k = y at e1 c0
        go_wp2_with fail
        go_round
        case rel => exact ⟨k + 1, by omega, by go_num, fun j hj => (Nat.lt_succ_iff_lt_or_eq.1 hj).elim (HOK.out j) (fun e => e ▸ EB.out)⟩
        case measure => simp [intOf]; omega
    · obtain rfl : k = xs.length := by omega
      have EB := Lib.hid (As.ixo_no HOK.out)
      clear HC HOK
      go_wp2_with fail
      go_ret
      exact ⟨by rw [EB.out]; rfl, Below.refl _ _⟩
set_option maxHeartbeats 1000000 in
theorem gTurn_any (A : Option Addr) (cap : Nat) (xs : List Int) (x : Int) (w : World) (hl : xs.length ≤ maxLen) (h : IsI w A xs) :
    Calls Try.prog 42 #[.slice A xs.length cap, .int .i64 x] w fun e w' => e = .returned (.int .i64 (As.ixo xs x)) ∧ Below w.heap.size w w' := by
  have IX := Lib.hid (gIndex_any A cap xs x w hl h)
  generalize As.ixo xs x = z at *
  clear hl h
  go_enter Try.func42, Try.ntmps42
  go_wp2_with fail
  refine IX.out.mono ?_
  rintro e w1 ⟨rfl, hb1⟩
  go_wp2_with fail
  go_ret
  exact ⟨rfl, hb1⟩
set_option maxHeartbeats 2000000 in
theorem gisOrder_any (A : Option Addr) (cap : Nat) (xs : List Int) (n : Nat) (w : World) (hl : xs.length ≤ maxLen) (h : IsI w A xs) :
    Calls Try.prog 40 #[.slice A xs.length cap, .int .i64 n] w fun e w' => e = .returned (.bool (As.isA xs n)) ∧ Below w.heap.size w w' := by
  have HL := Lib.hid hl
  unfold maxLen at hl
  have HC := Lib.hid h
  clear h
  by_cases hn : xs.length = n
  · subst hn
    have e0 : ((xs.length : Int) != xs.length) = false := by simp
    go_enter Try.func40, Try.ntmps40
    go_wp2_with fail
    go_loopw [5, 11] (fun _ i W => ∃ k : Nat, k ≤ xs.length ∧ i = .int .i64 k ∧ (∀ j, j < k → As.has xs j = true) ∧ Below w.heap.size w W) (fun _ i _ => xs.length - (intOf i).toNat)
    case atStart => exact ⟨0, Nat.zero_le _, rfl, fun j hj => absurd hj (Nat.not_lt_zero _), Below.refl _ _⟩
    case round =>
      obtain ⟨k, hk, rfl, hok, hbb⟩ := hrel
      have HOK := Lib.hid hok
      clear hok
      by_cases hlt : k < xs.length
      · have HV := Lib.hid (gTurn_any A cap xs (k : Int) wr HL.out (HC.out.keep hbb))
        have HX := Lib.hid (As.ixo_has xs k)
        by_cases hh : As.ixo xs k < 0
        · have d1 : decide (As.ixo xs k < 0) = true := decide_eq_true hh
          have EB := Lib.hid (As.isA_no hlt (by rw [HX.out, d1]; rfl))
          clear hh HX
          generalize As.ixo xs k = z at *
          go_wp2_with fail
          refine HV.out.mono ?_
          rintro e w1 ⟨rfl, hb1⟩
          replace hbb := keepB hbb hb1
          clear hb1
          go_wp2_with fail
          go_ret
          exact ⟨by rw [EB.out]; rfl, hbb⟩
        · have d1 : decide (As.ixo xs k < 0) = false := decide_eq_false hh
          have EB := Lib.hid (show As.has xs k = true by rw [HX.out, d1]; rfl)
          clear hh HX
          generalize As.ixo xs k = z at *
          go_wp2_with fail
          refine HV.out.mono ?_
          rintro e w1 ⟨rfl, hb1⟩
          replace hbb := keepB hbb hb1
          clear hb1
          go_wp2_with fail
          go_roundw
          case rel => exact ⟨k + 1, by omega, by go_num, fun j hj => (Nat.lt_succ_iff_lt_or_eq.1 hj).elim (HOK.out j) (fun e => e ▸ EB.out), hbb⟩
          case measure => simp [intOf]; omega
      · obtain rfl : k = xs.length := by omega
        have EB := Lib.hid (As.isA_yes rfl HOK.out)
        clear HC HOK
        go_wp2_with fail
        go_ret
        exact ⟨by rw [EB.out]; rfl, hbb⟩
  · have e0 : ((xs.length : Int) != n) = true := by rw [bne_iff_ne]; omega
    rw [As.isA_len hn]
    clear hn
    go_enter Try.func40, Try.ntmps40
    go_wp2_with fail
    go_ret
    exact ⟨rfl, Below.refl _ _⟩
set_option maxHeartbeats 2000000 in
theorem gSum_any (A : Option Addr) (cap : Nat) (xs : List Int) (w : World) (hl : xs.length ≤ 100) (hb : ∀ j, j < xs.length → 0 ≤ As.el xs j ∧ As.el xs j ≤ 1000) (h : IsI w A xs) :
    Calls Try.prog 34 #[.slice A xs.length cap] w fun e w' => e = .returned (.int .i64 (As.sm (As.el xs) (List.range xs.length))) ∧ w' = w := by
  have HC := Lib.hid h
  have HB := Lib.hid hb
  have HS := Lib.hid (fun k hk => As.gsm_bd hb k hk)
  obtain ⟨n, hn⟩ : ∃ n, xs.length = n := ⟨_, rfl⟩
  have HN := Lib.hid hn
  rw [hn] at hl ⊢
  clear h hb hn
  go_enter Try.func34, Try.ntmps34
  go_wp2_with fail
  go_loop [3, 8] (fun s i => ∃ k : Nat, k ≤ n ∧ i = .int .i64 k ∧ s = .int .i64 (As.sm (As.el xs) (List.range k))) (fun _ i => n - (intOf i).toNat)
  case atStart => exact ⟨0, Nat.zero_le _, rfl, rfl⟩
  case round =>
    obtain ⟨k, hk, rfl, rfl⟩ := hrel
    by_cases hlt : k < n
    · obtain ⟨b, off, rfl, hcs⟩ := HC.out.1 (by rw [HN.out]; omega)
      have c0 := hcs k (by rw [HN.out]; exact hlt)
      have ⟨b1, b2⟩ := HB.out k (by rw [HN.out]; exact hlt)
      have ⟨s1, s2⟩ := HS.out k (by rw [HN.out]; exact hk)
      have ET := Lib.hid (As.sm_succ (As.el xs) k)
      have s3 : As.sm (As.el xs) (List.range k) ≤ 100000 := by omega
      clear hcs s2
      generalize As.el xs k = x at *
      generalize As.sm (As.el xs) (List.range k) = s at *
      go_wp2_with fail
      go_round
      case rel => exact ⟨k + 1, by omega, by go_num, by rw [ET.out]⟩
      case measure => simp [intOf]; omega
    · obtain rfl : k = n := by omega
      go_wp2_with fail
      go_ret
      exact ⟨rfl, rfl⟩
end Go.Proofs.Ytfpaefnaidppmaa
