/- Layer 16 (goods): mathematics. -/
import Derived.Test.YtfpaefnaidppmaaYb
import Derived.Test.YtfpaefnaidppmaaYd
namespace Go.Proofs.Ytfpaefnaidppmaa
open Go.RowKit
namespace As
theorem gsm_add (f g : Nat → Int) : ∀ l, sm (fun x => f x + g x) l = sm f l + sm g l
  | [] => rfl
  | x :: l => by
    have := gsm_add f g l
    simp only [sm]
    omega
theorem gsm_swap (f : Nat → Nat → Int) (ks : List Nat) : ∀ l : List Nat, sm (fun k => sm (fun g => f g k) l) ks = sm (fun g => sm (fun k => f g k) ks) l
  | [] => by simp only [sm]; exact sm_zero fun _ _ => rfl
  | x :: l => by
    simp only [sm]
    rw [gsm_add (fun k => f x k) (fun k => sm (fun g => f g k) l) ks, gsm_swap f ks l]
theorem gsm_pick (v x : Int) : ∀ n : Nat, sm (fun k => if x = (k : Int) then v else 0) (List.range n) = if 0 ≤ x ∧ x < n then v else 0
  | 0 => by
    rw [if_neg (by omega)]; rfl
  | n + 1 => by
    rw [List.range_succ, sm_append, gsm_pick v x n]
    simp only [sm]
    by_cases h1 : x = (n : Int)
    · rw [if_neg (by omega), if_pos h1, if_pos (by omega)]; omega
    · by_cases h2 : 0 ≤ x ∧ x < n
      · rw [if_pos h2, if_neg h1, if_pos (by omega)]; omega
      · rw [if_neg h2, if_neg h1, if_neg (by omega)]; omega
/-- What the bundle of k is worth for i. -/
def bw (V : List (List Int)) (a : List Int) (i k : Nat) : Int := sm (fun g => if el a g = (k : Int) then vl V i g else 0) (List.range a.length)
/-- What all goods are worth for i. -/
def gall (V : List (List Int)) (m i : Nat) : Int := sm (vl V i) (List.range m)
/-- A valid allocation of m goods to n agents. -/
structure Al (n m : Nat) (a : List Int) : Prop where
  len : a.length = m
  bd : ∀ g, g < m → -1 ≤ el a g ∧ el a g < n
section
variable {V : List (List Int)} {a : List Int} {n m : Nat}
theorem bw_sum (h : Al n m a) (i : Nat) : sm (bw V a i) (List.range n) = sm (fun g => if 0 ≤ el a g then vl V i g else 0) (List.range m) := by
  have e : sm (bw V a i) (List.range n) = sm (fun k => sm (fun g => if el a g = (k : Int) then vl V i g else 0) (List.range a.length)) (List.range n) := rfl
  rw [e, gsm_swap (fun g k => if el a g = (k : Int) then vl V i g else 0), h.len]
  refine sm_congr fun g hg => ?_
  have hb := h.bd g (List.mem_range.1 hg)
  show sm (fun k : Nat => if el a g = (k : Int) then vl V i g else 0) (List.range n) = _
  rw [gsm_pick]
  by_cases h0 : 0 ≤ el a g
  · rw [if_pos ⟨h0, hb.2⟩, if_pos h0]
  · rw [if_neg (fun x => h0 x.1), if_neg h0]
theorem bw_all (h : Al n m a) (hc : ∀ g, g < m → 0 ≤ el a g) (i : Nat) : sm (bw V a i) (List.range n) = gall V m i := by
  rw [bw_sum h]
  exact sm_congr fun g hg => by rw [if_pos (hc g (List.mem_range.1 hg))]
theorem free_rich {i : Nat} (hf : ∀ k, k < n → bw V a i k ≤ bw V a i i) : sm (bw V a i) (List.range n) ≤ n * bw V a i i := by
  rw [← sm_const]
  exact sm_le fun k hk => hf k (List.mem_range.1 hk)
/-- Who is poor in a complete allocation envies somebody. -/
theorem poor_envy (h : Al n m a) (hc : ∀ g, g < m → 0 ≤ el a g) {i : Nat} (hp : n * bw V a i i < gall V m i) : ∃ k, k < n ∧ bw V a i i < bw V a i k := by
  refine Classical.byContradiction fun hn => ?_
  have hf : ∀ k, k < n → bw V a i k ≤ bw V a i i := fun k hk => by
    refine Classical.byContradiction fun h2 => hn ⟨k, hk, by omega⟩
  have h1 := free_rich hf
  rw [bw_all h hc] at h1
  omega
theorem two_free (h : Al 2 m a) (hc : ∀ g, g < m → 0 ≤ el a g) {i : Nat} (hi : i < 2) (hp : gall V m i ≤ 2 * bw V a i i) : ∀ k, k < 2 → bw V a i k ≤ bw V a i i := by
  intro k hk
  have e := bw_all (V := V) h hc i
  have e2 : sm (bw V a i) (List.range 2) = bw V a i 0 + (bw V a i 1 + 0) := rfl
  rw [e2] at e
  obtain rfl | rfl : i = 0 ∨ i = 1 := by omega
  · obtain rfl | rfl : k = 0 ∨ k = 1 := by omega
    · exact Int.le_refl _
    · omega
  · obtain rfl | rfl : k = 0 ∨ k = 1 := by omega
    · omega
    · exact Int.le_refl _
/-- Bounds. -/
theorem bw_bd {i : Nat} (hv : ∀ g, g < a.length → 0 ≤ vl V i g ∧ vl V i g ≤ 1000) (k : Nat) : 0 ≤ bw V a i k ∧ bw V a i k ≤ a.length * 1000 := by
  have lo : sm (fun _ => 0) (List.range a.length) ≤ bw V a i k := sm_le fun g hg => by
    have := hv g (List.mem_range.1 hg)
    by_cases e : el a g = (k : Int)
    · rw [if_pos e]; omega
    · rw [if_neg e]; exact Int.le_refl _
  have hi : bw V a i k ≤ sm (fun _ => 1000) (List.range a.length) := sm_le fun g hg => by
    have := hv g (List.mem_range.1 hg)
    by_cases e : el a g = (k : Int)
    · rw [if_pos e]; omega
    · rw [if_neg e]; decide
  rw [sm_const] at lo hi
  omega
theorem gall_bd {i : Nat} (hv : ∀ g, g < m → 0 ≤ vl V i g ∧ vl V i g ≤ 1000) : 0 ≤ gall V m i ∧ gall V m i ≤ m * 1000 := by
  have lo : sm (fun _ => 0) (List.range m) ≤ gall V m i := sm_le fun g hg => (hv g (List.mem_range.1 hg)).1
  have hi : gall V m i ≤ sm (fun _ => 1000) (List.range m) := sm_le fun g hg => (hv g (List.mem_range.1 hg)).2
  rw [sm_const] at lo hi
  omega
/-- The pairs of envy of i, and of all. -/
def gen1 (V : List (List Int)) (a : List Int) (n i : Nat) : List (Nat × Nat) := ((List.range n).filter fun k => decide (bw V a i i < bw V a i k)).map fun k => (i, k)
def genv (V : List (List Int)) (a : List Int) (n : Nat) : List (Nat × Nat) := (List.range n).flatMap (gen1 V a n)
def gpoor (V : List (List Int)) (a : List Int) (n m : Nat) : List Nat := (List.range n).filter fun i => decide (n * bw V a i i < gall V m i)
theorem mem_genv {p : Nat × Nat} : p ∈ genv V a n ↔ p.1 < n ∧ p.2 < n ∧ bw V a p.1 p.1 < bw V a p.1 p.2 := by
  unfold genv gen1
  simp only [List.mem_flatMap, List.mem_range, List.mem_map, List.mem_filter, decide_eq_true_eq]
  constructor
  · rintro ⟨i, hi, k, ⟨hk, h⟩, rfl⟩
    exact ⟨hi, hk, h⟩
  · rintro ⟨h1, h2, h3⟩
    exact ⟨p.1, h1, p.2, ⟨h2, h3⟩, rfl⟩
theorem mem_gpoor {i : Nat} : i ∈ gpoor V a n m ↔ i < n ∧ n * bw V a i i < gall V m i := by
  unfold gpoor
  simp only [List.mem_filter, List.mem_range, decide_eq_true_eq]
/-- GoodsFair's heart. -/
theorem fair_nil (h : Al n m a) (hc : ∀ g, g < m → 0 ≤ el a g) (he : genv V a n = []) : gpoor V a n m = [] := by
  refine List.eq_nil_iff_forall_not_mem.2 fun i hi => ?_
  obtain ⟨h1, h2⟩ := mem_gpoor.1 hi
  obtain ⟨k, hk, h3⟩ := poor_envy h hc h2
  have : (i, k) ∈ genv V a n := mem_genv.2 ⟨h1, hk, h3⟩
  rw [he] at this
  cases this
theorem fair_two (h : Al 2 m a) (hc : ∀ g, g < m → 0 ≤ el a g) (hp : gpoor V a 2 m = []) : genv V a 2 = [] := by
  refine List.eq_nil_iff_forall_not_mem.2 fun p hi => ?_
  obtain ⟨h1, h2, h3⟩ := mem_genv.1 hi
  have hn : ¬ ((2 : Nat) : Int) * bw V a p.1 p.1 < gall V m p.1 := fun hx => by
    have : p.1 ∈ gpoor V a 2 m := mem_gpoor.2 ⟨h1, hx⟩
    rw [hp] at this
    cases this
  have := two_free h hc h1 (V := V) (by omega) p.2 h2
  omega
theorem fair_found (h : Al n m a) (hc : ∀ g, g < m → 0 ≤ el a g) {i : Nat} (hi : i ∈ gpoor V a n m) : ∃ p, p ∈ genv V a n ∧ p.1 = i := by
  obtain ⟨h1, h2⟩ := mem_gpoor.1 hi
  obtain ⟨k, hk, h3⟩ := poor_envy h hc h2
  exact ⟨(i, k), mem_genv.2 ⟨h1, hk, h3⟩, rfl⟩
/-- Bundles that are passed along an order. -/
def pas (o : List Nat) (a : List Int) : List Int := a.map fun x => if 0 ≤ x then ((o.idxOf x.toNat : Nat) : Int) else -1
theorem pas_len (o : List Nat) (a : List Int) : (pas o a).length = a.length := by simp [pas]
theorem el_pas (o : List Nat) {g : Nat} (hg : g < a.length) : el (pas o a) g = if 0 ≤ el a g then ((o.idxOf (el a g).toNat : Nat) : Int) else -1 := by
  have h1 : g < (pas o a).length := by rw [pas_len]; exact hg
  rw [el_lt h1, el_lt hg]
  simp [pas]
end
end As
end Go.Proofs.Ytfpaefnaidppmaa
