/- Mathematics of the reference's settle. -/
import Derived.Test.YtncmffhoodfhjaaGreatRtp
namespace Go.Proofs.YtncmffhoodfhjaaGreat.As
def InvS (V : List (List Int)) (b : List Nat) (r : Bool) (G : Nat → Int) : Prop := ∀ j, j < V.length → if r = true then 0 ≤ G j ∧ G j ≤ gF V b j else gC V b j ≤ G j ∧ G j ≤ 0
/-- How far the gains may still go. -/
def sS (V : List (List Int)) (b : List Nat) (r : Bool) (G : Nat → Int) : Int := sm (fun j => if r = true then gF V b j - G j else G j - gC V b j) (List.range V.length)
def stS (V : List (List Int)) (b : List Nat) (r : Bool) (G : Nat → Int) (i k : Nat) (j : Nat) : Int := if r = true then (if j = i then G i + lack V b G i k else G j) else (if j = k then G k - lack V b G i k else G j)
section
variable {V : List (List Int)} {b : List Nat} {r : Bool} {G G0 : Nat → Int}
theorem sm_lt1 {f g : Nat → Int} : ∀ (n : Nat), (∀ j, j < n → f j ≤ g j) → (∃ j, j < n ∧ f j < g j) → sm f (List.range n) < sm g (List.range n)
  | 0, _, ⟨j, hj, _⟩ => by omega
  | n + 1, h, ⟨j, hj, hl⟩ => by
    rw [List.range_succ, sm_append, sm_append]
    simp only [sm]
    have h1 := h n (by omega)
    by_cases e : j = n
    · subst e
      have h2 := sm_le (f := f) (g := g) (l := List.range j) fun k hk => h k (by have := List.mem_range.1 hk; omega)
      omega
    · have := sm_lt1 n (fun k hk => h k (by omega)) ⟨j, by omega, hl⟩
      omega
theorem sS_nn (h : InvS V b r G) : 0 ≤ sS V b r G := by
  have := sm_le (f := fun _ => 0) (g := fun j => if r = true then gF V b j - G j else G j - gC V b j) (l := List.range V.length) fun j hj => by
    have := h j (List.mem_range.1 hj)
    split <;> simp_all
  rw [sm_zero (f := fun _ => (0 : Int)) fun _ _ => rfl] at this
  exact this
theorem sS_congr (h : ∀ j, j < V.length → G j = G0 j) : sS V b r G = sS V b r G0 := sm_congr fun j hj => by rw [h j (List.mem_range.1 hj)]
theorem lack_congr (h : ∀ j, j < V.length → G j = G0 j) {i k : Nat} (hi : i < V.length) (hk : k < V.length) : lack V b G i k = lack V b G0 i k := by unfold lack; rw [h i hi, h k hk]
theorem stS_ok (hb : Top V b) (h : InvS V b r G) {i k : Nat} (hi : i < V.length) (hk : k < V.length) (hl : 0 < lack V b G i k) : InvS V b r (stS V b r G i k) ∧ sS V b r (stS V b r G i k) < sS V b r G := by
  cases r with
  | true =>
    have h1 := raise_le hb (g := G) (fun j hj => (by simpa using h j hj : 0 ≤ G j ∧ G j ≤ gF V b j).2) hi hk
    constructor
    · intro j hj
      have h2 : 0 ≤ G j ∧ G j ≤ gF V b j := by simpa using h j hj
      simp only [stS, if_true]
      by_cases e : j = i
      · subst e; rw [if_pos rfl]; omega
      · rw [if_neg e]; exact h2
    · unfold sS
      refine sm_lt1 _ (fun j hj => ?_) ⟨i, hi, ?_⟩
      · simp only [stS, if_true]
        by_cases e : j = i
        · subst e; rw [if_pos rfl]; omega
        · rw [if_neg e]; omega
      · simp only [stS, if_true]; omega
  | false =>
    have h1 := lower_ge hb (g := G) (fun j hj => (by simpa using h j hj : gC V b j ≤ G j ∧ G j ≤ 0).1) hi hk
    constructor
    · intro j hj
      have h2 : gC V b j ≤ G j ∧ G j ≤ 0 := by simpa using h j hj
      simp only [stS, Bool.false_eq_true, if_false]
      by_cases e : j = k
      · subst e; rw [if_pos rfl]; omega
      · rw [if_neg e]; exact h2
    · unfold sS
      refine sm_lt1 _ (fun j hj => ?_) ⟨k, hk, ?_⟩
      · simp only [stS, Bool.false_eq_true, if_false]
        by_cases e : j = k
        · subst e; rw [if_pos rfl]; omega
        · rw [if_neg e]; omega
      · simp only [stS, Bool.false_eq_true, if_false, if_true]; omega
/-- A pass over all pairs, on its way. -/
def PassI (V : List (List Int)) (b : List Nat) (r : Bool) (G0 : Nat → Int) (m : Bool) (G : Nat → Int) (i k : Nat) : Prop :=
  InvS V b r G ∧ ((m = true ∧ sS V b r G < sS V b r G0) ∨ (m = false ∧ (∀ j, j < V.length → G j = G0 j) ∧ ∀ x y, x < V.length → y < V.length → (x < i ∨ (x = i ∧ y < k)) → lack V b G0 x y ≤ 0))
theorem PassI.start (h : InvS V b r G0) : PassI V b r G0 false G0 0 0 := ⟨h, .inr ⟨rfl, fun _ _ => rfl, fun x y _ _ h => by omega⟩⟩
theorem PassI.skip {m : Bool} {i k : Nat} (h : PassI V b r G0 m G i k) (hi : i < V.length) (hk : k < V.length) (hl : lack V b G i k ≤ 0) : PassI V b r G0 m G i (k + 1) := by
  refine ⟨h.1, ?_⟩
  rcases h.2 with h2 | ⟨h2, h3, h4⟩
  · exact .inl h2
  · refine .inr ⟨h2, h3, fun x y hx hy hxy => ?_⟩
    by_cases e : x = i ∧ y = k
    · obtain ⟨rfl, rfl⟩ := e
      rw [← lack_congr h3 hi hk]; exact hl
    · exact h4 x y hx hy (by omega)
theorem PassI.step {m : Bool} {i k : Nat} (hb : Top V b) (h : PassI V b r G0 m G i k) (hi : i < V.length) (hk : k < V.length) (hl : 0 < lack V b G i k) : PassI V b r G0 true (stS V b r G i k) i (k + 1) := by
  obtain ⟨h5, h6⟩ := stS_ok hb h.1 hi hk hl
  refine ⟨h5, .inl ⟨rfl, ?_⟩⟩
  rcases h.2 with ⟨_, h2⟩ | ⟨_, h3, _⟩
  · omega
  · rw [← sS_congr h3]; exact h6
theorem PassI.row {m : Bool} {i : Nat} (h : PassI V b r G0 m G i V.length) : PassI V b r G0 m G (i + 1) 0 := by
  refine ⟨h.1, ?_⟩
  rcases h.2 with h2 | ⟨h2, h3, h4⟩
  · exact .inl h2
  · exact .inr ⟨h2, h3, fun x y hx hy hxy => h4 x y hx hy (by omega)⟩
theorem PassI.fin {m : Bool} (h : PassI V b r G0 m G V.length 0) : InvS V b r G ∧ ((m = true ∧ sS V b r G < sS V b r G0) ∨ (m = false ∧ GC V b G ∧ sS V b r G = sS V b r G0)) := by
  refine ⟨h.1, ?_⟩
  rcases h.2 with h2 | ⟨h2, h3, h4⟩
  · exact .inl h2
  · refine .inr ⟨h2, fun x y hx hy => ?_, sS_congr h3⟩
    rw [lack_congr h3 hx hy]
    exact h4 x y hx hy (.inl hx)
/-- Where nobody lacks anything. -/
theorem settled (hb : Top V b) (h : InvS V b r G) (hc : GC V b G) {j : Nat} (hj : j < V.length) : G j = if r = true then gF V b j else gC V b j := by
  cases r with
  | true =>
    rw [if_pos rfl]
    exact raise_end hb hc (fun i hi => (by simpa using h i hi : 0 ≤ G i ∧ G i ≤ gF V b i).1) (fun i hi => (by simpa using h i hi : 0 ≤ G i ∧ G i ≤ gF V b i).2) hj
  | false =>
    rw [if_neg (by simp)]
    exact lower_end hb hc (fun i hi => (by simpa using h i hi : gC V b i ≤ G i ∧ G i ≤ 0).2) (fun i hi => (by simpa using h i hi : gC V b i ≤ G i ∧ G i ≤ 0).1) hj
theorem gF_bd7 (ok : Ok V) (hb : Top V b) {j : Nat} (hj : j < V.length) : 0 ≤ gF V b j ∧ gF V b j ≤ 7000000 := by
  refine ⟨gF_nn V b j, ?_⟩
  obtain ⟨k, hk, e⟩ := gF_at hb hj
  have h1 := lkm_b6' ok b (b.getD j 0) (b.getD k 0)
  have h2 : 0 ≤ vo V b j ∧ vo V b j ≤ 1000000 := ok.bd _ _
  have h3 : 0 ≤ vo V b k ∧ vo V b k ≤ 1000000 := ok.bd _ _
  rw [e]; unfold gd; omega
theorem gC_bd7 (ok : Ok V) (hb : Top V b) {j : Nat} (hj : j < V.length) : -7000000 ≤ gC V b j ∧ gC V b j ≤ 0 := by
  refine ⟨?_, gC_np V b j⟩
  obtain ⟨k, hk, e⟩ := gC_at hb hj
  have h1 := lkm_b6' ok b (b.getD k 0) (b.getD j 0)
  have h2 : 0 ≤ vo V b j ∧ vo V b j ≤ 1000000 := ok.bd _ _
  have h3 : 0 ≤ vo V b k ∧ vo V b k ≤ 1000000 := ok.bd _ _
  rw [e]; unfold gd; omega
theorem inv_bd (ok : Ok V) (hb : Top V b) (h : InvS V b r G) {j : Nat} (hj : j < V.length) : -7000000 ≤ G j ∧ G j ≤ 7000000 := by
  have h1 := gF_bd7 ok hb hj
  have h2 := gC_bd7 ok hb hj
  cases r with
  | true => have : 0 ≤ G j ∧ G j ≤ gF V b j := by simpa using h j hj
            omega
  | false => have : gC V b j ≤ G j ∧ G j ≤ 0 := by simpa using h j hj
             omega
theorem inv_zero (r : Bool) : InvS V b r (fun _ => 0) := fun j _ => by
  cases r with
  | true => rw [if_pos rfl]; exact ⟨Int.le_refl _, gF_nn V b j⟩
  | false => rw [if_neg (by simp)]; exact ⟨gC_np V b j, Int.le_refl _⟩
end
end Go.Proofs.YtncmffhoodfhjaaGreat.As
