/- Layer 16 (goods): the lists of envy and of the poor, in the making. -/
import Derived.Test.YtfpaefnaidppmaaGdc
namespace Go.Proofs.Ytfpaefnaidppmaa
open Go.RowKit
namespace As
section
variable (V : List (List Int)) (a : List Int) (n m : Nat)
/-- The pairs of i with the agents below k. -/
def genk (i k : Nat) : List (Nat × Nat) := ((List.range k).filter fun j => decide (bw V a i i < bw V a i j)).map fun j => (i, j)
theorem genk_succ (i k : Nat) : genk V a i (k + 1) = genk V a i k ++ if bw V a i i < bw V a i k then [(i, k)] else [] := by
  unfold genk
  rw [List.range_succ, List.filter_append, List.map_append]
  congr 1
  by_cases h : bw V a i i < bw V a i k
  · rw [if_pos h]; simp [h]
  · rw [if_neg h]; simp [h]
/-- All pairs ahead of (i, k). -/
def gpre (i k : Nat) : List (Nat × Nat) := (List.range i).flatMap (gen1 V a n) ++ genk V a i k
theorem gpre_zero : gpre V a n 0 0 = [] := rfl
theorem gpre_row (i : Nat) : gpre V a n i n = gpre V a n (i + 1) 0 := by
  unfold gpre
  rw [List.range_succ, List.flatMap_append]
  simp [genk, gen1]
theorem gpre_succ (i k : Nat) : gpre V a n i (k + 1) = gpre V a n i k ++ if bw V a i i < bw V a i k then [(i, k)] else [] := by
  unfold gpre
  rw [genk_succ, List.append_assoc]
theorem gpre_end : gpre V a n n 0 = genv V a n := by
  unfold gpre genv genk
  simp
theorem gpre_in_row {i : Nat} : ∀ d k : Nat, k + d = n → ∃ r, gpre V a n i n = gpre V a n i k ++ r
  | 0, k, h => ⟨[], by rw [← h, List.append_nil]; rfl⟩
  | d + 1, k, h => by
    obtain ⟨r, hr⟩ := gpre_in_row (i := i) d (k + 1) (by omega)
    exact ⟨_, by rw [hr, gpre_succ, List.append_assoc]⟩
theorem gpre_rows : ∀ d i : Nat, i + d = n → ∃ r, genv V a n = gpre V a n i 0 ++ r
  | 0, i, h => ⟨[], by
    rw [List.append_nil, ← gpre_end]
    have : i = n := by omega
    rw [this]⟩
  | d + 1, i, h => by
    obtain ⟨r, hr⟩ := gpre_rows d (i + 1) (by omega)
    obtain ⟨s, hs⟩ := gpre_in_row V a n (i := i) n 0 (by omega)
    exact ⟨s ++ r, by rw [hr, ← gpre_row, hs, List.append_assoc]⟩
theorem gpre_pre {i k : Nat} (hi : i < n) (hk : k ≤ n) : ∃ r, genv V a n = gpre V a n i k ++ r := by
  obtain ⟨r, hr⟩ := gpre_rows V a n (n - (i + 1)) (i + 1) (by omega)
  obtain ⟨s, hs⟩ := gpre_in_row V a n (i := i) (n - k) k (by omega)
  exact ⟨s ++ r, by rw [hr, ← gpre_row, hs, List.append_assoc]⟩
/-- Where the pair (i, k) lies. -/
theorem gpre_at {i k : Nat} (hi : i < n) (hk : k < n) (h : bw V a i i < bw V a i k) : (genv V a n)[(gpre V a n i k).length]? = some (i, k) := by
  obtain ⟨r, hr⟩ := gpre_pre V a n hi (k := k + 1) (by omega)
  rw [gpre_succ, if_pos h, List.append_assoc] at hr
  rw [hr, List.getElem?_append_right (Nat.le_refl _), Nat.sub_self]
  rfl
/-- The poor below i. -/
def gpk (i : Nat) : List Nat := (List.range i).filter fun i => decide (n * bw V a i i < gall V m i)
theorem gpk_end : gpk V a n m n = gpoor V a n m := rfl
theorem gpk_succ (i : Nat) : gpk V a n m (i + 1) = gpk V a n m i ++ if n * bw V a i i < gall V m i then [i] else [] := by
  unfold gpk
  rw [List.range_succ, List.filter_append]
  congr 1
  by_cases h : n * bw V a i i < gall V m i
  · rw [if_pos h]; simp [h]
  · rw [if_neg h]; simp [h]
theorem gpk_pre : ∀ d i : Nat, i + d = n → ∃ r, gpoor V a n m = gpk V a n m i ++ r
  | 0, i, h => ⟨[], by
    rw [List.append_nil, ← gpk_end]
    have : i = n := by omega
    rw [this]⟩
  | d + 1, i, h => by
    obtain ⟨r, hr⟩ := gpk_pre d (i + 1) (by omega)
    exact ⟨_, by rw [hr, gpk_succ, List.append_assoc]⟩
theorem gpk_at {i : Nat} (hi : i < n) (h : n * bw V a i i < gall V m i) : (gpoor V a n m)[(gpk V a n m i).length]? = some i := by
  obtain ⟨r, hr⟩ := gpk_pre V a n m (n - (i + 1)) (i + 1) (by omega)
  rw [gpk_succ, if_pos h, List.append_assoc] at hr
  rw [hr, List.getElem?_append_right (Nat.le_refl _), Nat.sub_self]
  rfl
end
end As
end Go.Proofs.Ytfpaefnaidppmaa
