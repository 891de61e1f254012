/- slices.Min, slices.Max of ints; package rent: Worst. -/
import Derived.Test.YtncmffhoodfhjaaLxd
import Derived.Test.YtncmffhoodfhjaaYl
import Derived.Deep.RegionHeld3
namespace Go.Proofs.Ytncmffhoodfhjaa
open Go.RowKit
namespace As
/-- The least and the greatest of the first k of a list. -/
def mnk (xs : List Int) (k : Nat) : Int := (List.range k).foldl (fun m i => min m (el xs i)) (el xs 0)
def mxk (xs : List Int) (k : Nat) : Int := (List.range k).foldl (fun m i => max m (el xs i)) (el xs 0)
theorem mnk_succ (xs : List Int) (k : Nat) : mnk xs (k + 1) = min (mnk xs k) (el xs k) := by unfold mnk; rw [List.range_succ, List.foldl_append]; rfl
theorem mxk_succ (xs : List Int) (k : Nat) : mxk xs (k + 1) = max (mxk xs k) (el xs k) := by unfold mxk; rw [List.range_succ, List.foldl_append]; rfl
theorem mnk_one (xs : List Int) : mnk xs 1 = el xs 0 := by rw [mnk_succ]; exact Int.min_self _
theorem mxk_one (xs : List Int) : mxk xs 1 = el xs 0 := by rw [mxk_succ]; exact Int.max_self _
theorem mnk_le (xs : List Int) : ∀ k i, i < k → mnk xs k ≤ el xs i
  | 0, _, h => by omega
  | k + 1, i, h => by
    rw [mnk_succ]
    by_cases e : i = k
    · subst e; omega
    · have := mnk_le xs k i (by omega); omega
theorem mxk_ge (xs : List Int) : ∀ k i, i < k → el xs i ≤ mxk xs k
  | 0, _, h => by omega
  | k + 1, i, h => by
    rw [mxk_succ]
    by_cases e : i = k
    · subst e; omega
    · have := mxk_ge xs k i (by omega); omega
theorem mnk_at (xs : List Int) : ∀ k, ∃ i, i < k + 1 ∧ mnk xs (k + 1) = el xs i
  | 0 => ⟨0, by omega, mnk_one xs⟩
  | k + 1 => by
    obtain ⟨i, hi, h⟩ := mnk_at xs k
    rw [mnk_succ]
    by_cases e : mnk xs (k + 1) ≤ el xs (k + 1)
    · exact ⟨i, by omega, by omega⟩
    · exact ⟨k + 1, by omega, by omega⟩
theorem mxk_at (xs : List Int) : ∀ k, ∃ i, i < k + 1 ∧ mxk xs (k + 1) = el xs i
  | 0 => ⟨0, by omega, mxk_one xs⟩
  | k + 1 => by
    obtain ⟨i, hi, h⟩ := mxk_at xs k
    rw [mxk_succ]
    by_cases e : el xs (k + 1) ≤ mxk xs (k + 1)
    · exact ⟨i, by omega, by omega⟩
    · exact ⟨k + 1, by omega, by omega⟩
theorem el_gnl (V : List (List Int)) (a : List Nat) (ps : List Int) (D : Int) {n i : Nat} (h : i < n) : el (gnl V a ps D n) i = gnF V ps D i (a.getD i 0) := by unfold gnl el; simp [h]
/-- The least and the greatest gain of a lease, times the denominator. -/
def lsG (V : List (List Int)) (a : List Nat) (ps : List Int) (D : Int) : Int := mnk (gnl V a ps D V.length) V.length
def gtG (V : List (List Int)) (a : List Nat) (ps : List Int) (D : Int) : Int := mxk (gnl V a ps D V.length) V.length
theorem lsG_le {V : List (List Int)} {a : List Nat} {ps : List Int} {D : Int} {i : Nat} (hi : i < V.length) : lsG V a ps D ≤ gnF V ps D i (a.getD i 0) := by
  have := mnk_le (gnl V a ps D V.length) V.length i hi
  rwa [el_gnl V a ps D hi] at this
theorem gtG_ge {V : List (List Int)} {a : List Nat} {ps : List Int} {D : Int} {i : Nat} (hi : i < V.length) : gnF V ps D i (a.getD i 0) ≤ gtG V a ps D := by
  have := mxk_ge (gnl V a ps D V.length) V.length i hi
  rwa [el_gnl V a ps D hi] at this
theorem lsG_at {V : List (List Int)} (h : 0 < V.length) (a : List Nat) (ps : List Int) (D : Int) : ∃ i, i < V.length ∧ lsG V a ps D = gnF V ps D i (a.getD i 0) := by
  obtain ⟨i, hi, e⟩ := mnk_at (gnl V a ps D V.length) (V.length - 1)
  rw [show V.length - 1 + 1 = V.length by omega] at e hi
  exact ⟨i, hi, by rw [← el_gnl V a ps D hi]; exact e⟩
theorem gtG_at {V : List (List Int)} (h : 0 < V.length) (a : List Nat) (ps : List Int) (D : Int) : ∃ i, i < V.length ∧ gtG V a ps D = gnF V ps D i (a.getD i 0) := by
  obtain ⟨i, hi, e⟩ := mxk_at (gnl V a ps D V.length) (V.length - 1)
  rw [show V.length - 1 + 1 = V.length by omega] at e hi
  exact ⟨i, hi, by rw [← el_gnl V a ps D hi]; exact e⟩
/-- What Worst returns. -/
def wsS (V : List (List Int)) (R : Int) (xs ps : List Int) (D : Int) : (Int × Int) × (Int × Int) × Int :=
  if vld V R xs ps D = 0 then (((Rp.q (lsG V (xs.map Int.toNat) ps D) D).num, ((Rp.q (lsG V (xs.map Int.toNat) ps D) D).den : Int)), ((Rp.q (gtG V (xs.map Int.toNat) ps D) D).num, ((Rp.q (gtG V (xs.map Int.toNat) ps D) D).den : Int)), 0)
  else ((0, 0), (0, 0), vld V R xs ps D)
end As
set_option maxRecDepth 100000 in
set_option maxHeartbeats 2000000 in
theorem rtMin_any (A : Option Addr) (cap : Nat) (xs : List Int) (n : Nat) (hn : xs.length = n) (n1 : 1 ≤ n) (n6 : n ≤ 6) (w : World) (h : IsI w A xs) :
    Calls Try.prog 65 #[.slice A n cap] w fun e w' => e = .returned (.int .i64 (As.mnk xs n)) ∧ w' = w := by
  have HC := Lib.hid h
  have HN := Lib.hid hn
  obtain ⟨b, off, rfl, hcs⟩ := h.1 (by omega)
  have c0 := hcs 0 (by omega)
  rw [Nat.add_zero] at c0
  have HCS := Lib.hid hcs
  have d0 : decide ((n : Int) < 1) = false := by rw [decide_eq_false_iff_not]; omega
  have i0 : (0 : Int) < (n : Int) := by omega
  have HE := Lib.hid (As.mnk_one xs)
  clear h hn hcs
  go_enter Try.func65, Try.ntmps65
  go_wp2_with fail
  clear d0 i0
  go_loop [3, 4] (fun m i => ∃ k : Nat, 1 ≤ k ∧ k ≤ n ∧ i = .int .i64 k ∧ m = .int .i64 (As.mnk xs k)) (fun _ i => n - (intOf i).toNat)
  case atStart => exact ⟨1, Nat.le_refl _, n1, rfl, by rw [HE.out]⟩
  case round =>
    obtain ⟨k, hk1, hk, rfl, rfl⟩ := hrel
    by_cases hlt : k < n
    · have x0 := HCS.out k (by rw [HN.out]; exact hlt)
      have HS := Lib.hid (As.mnk_succ xs k)
      generalize As.mnk xs k = a at *
      generalize As.el xs k = b at *
      have i1 : (k : Int) < (n : Int) := by omega
      have d1 : decide ((k : Int) < (n : Int)) = true := decide_eq_true i1
      go_wp2_with fail
      go_round
      case rel => exact ⟨k + 1, by omega, by omega, by go_num, by rw [HS.out]⟩
      case measure => simp [intOf]; omega
    · obtain rfl : k = n := by omega
      go_wp2_with fail
      go_ret
      exact ⟨rfl, rfl⟩
set_option maxRecDepth 100000 in
set_option maxHeartbeats 2000000 in
theorem rtMax_any (A : Option Addr) (cap : Nat) (xs : List Int) (n : Nat) (hn : xs.length = n) (n1 : 1 ≤ n) (n6 : n ≤ 6) (w : World) (h : IsI w A xs) :
    Calls Try.prog 66 #[.slice A n cap] w fun e w' => e = .returned (.int .i64 (As.mxk xs n)) ∧ w' = w := by
  have HC := Lib.hid h
  have HN := Lib.hid hn
  obtain ⟨b, off, rfl, hcs⟩ := h.1 (by omega)
  have c0 := hcs 0 (by omega)
  rw [Nat.add_zero] at c0
  have HCS := Lib.hid hcs
  have d0 : decide ((n : Int) < 1) = false := by rw [decide_eq_false_iff_not]; omega
  have i0 : (0 : Int) < (n : Int) := by omega
  have HE := Lib.hid (As.mxk_one xs)
  clear h hn hcs
  go_enter Try.func66, Try.ntmps66
  go_wp2_with fail
  clear d0 i0
  go_loop [3, 4] (fun m i => ∃ k : Nat, 1 ≤ k ∧ k ≤ n ∧ i = .int .i64 k ∧ m = .int .i64 (As.mxk xs k)) (fun _ i => n - (intOf i).toNat)
  case atStart => exact ⟨1, Nat.le_refl _, n1, rfl, by rw [HE.out]⟩
  case round =>
    obtain ⟨k, hk1, hk, rfl, rfl⟩ := hrel
    by_cases hlt : k < n
    · have x0 := HCS.out k (by rw [HN.out]; exact hlt)
      have HS := Lib.hid (As.mxk_succ xs k)
      generalize As.mxk xs k = a at *
      generalize As.el xs k = b at *
      have i1 : (k : Int) < (n : Int) := by omega
      have d1 : decide ((k : Int) < (n : Int)) = true := decide_eq_true i1
      go_wp2_with fail
      go_round
      case rel => exact ⟨k + 1, by omega, by omega, by go_num, by rw [HS.out]⟩
      case measure => simp [intOf]; omega
    · obtain rfl : k = n := by omega
      go_wp2_with fail
      go_ret
      exact ⟨rfl, rfl⟩
end Go.Proofs.Ytncmffhoodfhjaa
