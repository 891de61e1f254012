/- Mathematics of layer 15: the gains of the fair and of the calm lease. -/
import Derived.Test.YtncmffhoodfhjaaYb
namespace Go.Proofs.Ytncmffhoodfhjaa.As
/-- What the room of an agent is worth for it. -/
def vo (V : List (List Int)) (b : List Nat) (i : Nat) : Int := vl V i (b.getD i 0)
/-- How far the gain of i lies above that of k, at least. -/
def gd (V : List (List Int)) (b : List Nat) (i k : Nat) : Int := vo V b i - vo V b k + lkm V b (b.getD i 0) (b.getD k 0)
/-- The least gains from 0 on without envy. -/
def gF (V : List (List Int)) (b : List Nat) (i : Nat) : Int := (List.range V.length).foldl (fun m k => max m (gd V b i k)) 0
/-- The greatest gains up to 0 without envy. -/
def gC (V : List (List Int)) (b : List Nat) (i : Nat) : Int := -(List.range V.length).foldl (fun m k => max m (gd V b k i)) 0
/-- What an agent lacks beside another one. -/
def lack (V : List (List Int)) (b : List Nat) (g : Nat → Int) (i k : Nat) : Int := vl V i (b.getD k 0) - (vo V b k - g k) - g i
/-- Gains without envy. -/
def GC (V : List (List Int)) (b : List Nat) (g : Nat → Int) : Prop := ∀ i k, i < V.length → k < V.length → lack V b g i k ≤ 0
section
variable {V : List (List Int)} {b : List Nat}
theorem idx_rm (hb : Top V b) {x : Nat} (hx : x < V.length) : b.idxOf x < V.length ∧ b.getD (b.idxOf x) 0 = x := by
  have hxb := hb.mem.2 hx
  have hi : b.idxOf x < b.length := List.idxOf_lt_length_iff.2 hxb
  exact ⟨by rw [← hb.len]; exact hi, by rw [getD_lt hi]; exact List.getElem_idxOf hi⟩
theorem own_idx (hb : Top V b) {i : Nat} (hi : i < V.length) : b.idxOf (b.getD i 0) = i := idxOf_getD hb.nd (by rw [hb.len]; exact hi)
/-- Gains without envy are those of prices without envy. -/
theorem gc_cont (hb : Top V b) {g : Nat → Int} (h : GC V b g) : Cont V b (fun j => vo V b (b.idxOf j) - g (b.idxOf j)) := by
  intro i j hi hj
  obtain ⟨h1, h2⟩ := idx_rm hb hj
  have h3 := h i (b.idxOf j) hi h1
  unfold lack at h3
  rw [h2] at h3
  simp only
  rw [own_idx hb hi]
  have : vo V b i = vl V i (b.getD i 0) := rfl
  omega
theorem gc_gd (hb : Top V b) {g : Nat → Int} (h : GC V b g) {i k : Nat} (hi : i < V.length) (hk : k < V.length) : gd V b i k ≤ g i - g k := by
  have h1 := lkm_le (D := 1) hb (by rw [sc_one]; exact gc_cont hb h) (own_lt hb hi) (own_lt hb hk)
  rw [own_idx hb hi, own_idx hb hk] at h1
  unfold gd
  omega
theorem gd_self (hb : Top V b) {i : Nat} (hi : i < V.length) : gd V b i i = 0 := by
  unfold gd; rw [lkm_zero hb (own_lt hb hi)]; omega
theorem gd_tri (hb : Top V b) {i k m : Nat} (hi : i < V.length) (hk : k < V.length) (hm : m < V.length) : gd V b i k + gd V b k m ≤ gd V b i m := by
  have := lkm_tri hb (own_lt hb hi) (own_lt hb hk) (own_lt hb hm)
  unfold gd; omega
theorem gd_step (hb : Top V b) {i k : Nat} (hi : i < V.length) (hk : k < V.length) : vl V i (b.getD k 0) - vo V b k ≤ gd V b i k := by
  have h1 := lkm_cont hb (own_lt hb hi) i (b.getD k 0) hi (own_lt hb hk)
  rw [lkm_zero hb (own_lt hb hi)] at h1
  unfold gd
  have : vo V b i = vl V i (b.getD i 0) := rfl
  omega
theorem gF_nn (V : List (List Int)) (b : List Nat) (i : Nat) : 0 ≤ gF V b i := (fm_ge (gd V b i) _ 0).1
theorem gF_ge (V : List (List Int)) (b : List Nat) (i : Nat) {k : Nat} (hk : k < V.length) : gd V b i k ≤ gF V b i := (fm_ge (gd V b i) _ 0).2 k (by simpa using hk)
theorem gF_at (hb : Top V b) {i : Nat} (hi : i < V.length) : ∃ k, k < V.length ∧ gF V b i = gd V b i k := by
  rcases fm_at (gd V b i) (List.range V.length) 0 with h | ⟨j, hj, h⟩
  · exact ⟨i, hi, by rw [gd_self hb hi]; exact h⟩
  · exact ⟨j, by simpa using hj, h⟩
theorem gC_np (V : List (List Int)) (b : List Nat) (i : Nat) : gC V b i ≤ 0 := by
  have := (fm_ge (fun k => gd V b k i) (List.range V.length) 0).1
  unfold gC; omega
theorem gC_le (V : List (List Int)) (b : List Nat) (i : Nat) {k : Nat} (hk : k < V.length) : gC V b i ≤ -gd V b k i := by
  have := (fm_ge (fun k => gd V b k i) (List.range V.length) 0).2 k (by simpa using hk)
  unfold gC; omega
theorem gC_at (hb : Top V b) {i : Nat} (hi : i < V.length) : ∃ k, k < V.length ∧ gC V b i = -gd V b k i := by
  unfold gC
  rcases fm_at (fun k => gd V b k i) (List.range V.length) 0 with h | ⟨j, hj, h⟩
  · exact ⟨i, hi, by rw [gd_self hb hi, h]⟩
  · exact ⟨j, by simpa using hj, by rw [h]⟩
/-- The least gains are without envy. -/
theorem gF_gc (hb : Top V b) : GC V b (gF V b) := by
  intro i k hi hk
  obtain ⟨m, hm, he⟩ := gF_at hb hk
  have h1 := gF_ge V b i hm
  have h2 := gd_tri hb hi hk hm
  have h3 := gd_step hb hi hk
  unfold lack; omega
theorem gC_gc (hb : Top V b) : GC V b (gC V b) := by
  intro i k hi hk
  obtain ⟨m, hm, he⟩ := gC_at hb hi
  have h1 := gC_le V b k hm
  have h2 := gd_tri hb hm hi hk
  have h3 := gd_step hb hi hk
  unfold lack; omega
/-- No gains from 0 on without envy are less. -/
theorem gF_least (hb : Top V b) {g : Nat → Int} (h : GC V b g) (h0 : ∀ i, i < V.length → 0 ≤ g i) {i : Nat} (hi : i < V.length) : gF V b i ≤ g i := by
  obtain ⟨k, hk, he⟩ := gF_at hb hi
  have h1 := gc_gd hb h hi hk
  have h2 := h0 k hk
  omega
theorem gC_most (hb : Top V b) {g : Nat → Int} (h : GC V b g) (h0 : ∀ i, i < V.length → g i ≤ 0) {i : Nat} (hi : i < V.length) : g i ≤ gC V b i := by
  obtain ⟨k, hk, he⟩ := gC_at hb hi
  have h1 := gc_gd hb h hk hi
  have h2 := h0 k hk
  omega
/-- A raise by what is missing stays below the least gains. -/
theorem raise_le (hb : Top V b) {g : Nat → Int} (h : ∀ i, i < V.length → g i ≤ gF V b i) {i k : Nat} (hi : i < V.length) (hk : k < V.length) : g i + lack V b g i k ≤ gF V b i := by
  have h1 := gF_gc hb i k hi hk
  have h2 := h k hk
  unfold lack at h1 ⊢; omega
theorem lower_ge (hb : Top V b) {g : Nat → Int} (h : ∀ i, i < V.length → gC V b i ≤ g i) {i k : Nat} (hi : i < V.length) (hk : k < V.length) : gC V b k ≤ g k - lack V b g i k := by
  have h1 := gC_gc hb i k hi hk
  have h2 := h i hi
  unfold lack at h1 ⊢; omega
theorem raise_end (hb : Top V b) {g : Nat → Int} (h : GC V b g) (h0 : ∀ i, i < V.length → 0 ≤ g i) (h1 : ∀ i, i < V.length → g i ≤ gF V b i) {i : Nat} (hi : i < V.length) : g i = gF V b i := by
  have := gF_least hb h h0 hi
  have := h1 i hi
  omega
theorem lower_end (hb : Top V b) {g : Nat → Int} (h : GC V b g) (h0 : ∀ i, i < V.length → g i ≤ 0) (h1 : ∀ i, i < V.length → gC V b i ≤ g i) {i : Nat} (hi : i < V.length) : g i = gC V b i := by
  have := gC_most hb h h0 hi
  have := h1 i hi
  omega
/-- Who gains more than 0 wants the room of another one just as much. -/
theorem gF_held (hb : Top V b) {i : Nat} (hi : i < V.length) (h0 : 0 < gF V b i) : ∃ k, k < V.length ∧ k ≠ i ∧ lack V b (gF V b) i k = 0 := by
  refine Classical.byContradiction fun hno => ?_
  have hall : ∀ k, k < V.length → k ≠ i → lack V b (gF V b) i k ≤ -1 := fun k hk hne => by
    have h1 := gF_gc hb i k hi hk
    have h2 : lack V b (gF V b) i k ≠ 0 := fun e => hno ⟨k, hk, hne, e⟩
    omega
  have hg : GC V b (fun z => if z = i then gF V b i - 1 else gF V b z) := by
    intro m k hm hk
    have h1 := gF_gc hb m k hm hk
    by_cases e : m = i
    · subst e
      by_cases e2 : k = m
      · subst e2
        unfold lack at h1 ⊢
        simp only [if_true]
        have : vo V b k = vl V k (b.getD k 0) := rfl
        omega
      · have h2 := hall k hk e2
        unfold lack at h2 ⊢
        simp only [if_true, if_neg e2]
        omega
    · by_cases e2 : k = i
      · subst e2
        unfold lack at h1 ⊢
        simp only [if_true, if_neg e]
        omega
      · unfold lack at h1 ⊢
        simp only [if_neg e, if_neg e2]
        exact h1
  have h2 := gF_least hb hg (fun k hk => by
    by_cases e : k = i
    · subst e; simp only [if_true]; omega
    · simp only [if_neg e]; exact gF_nn V b k) hi
  simp only [if_true] at h2
  omega
theorem gF_zero (hb : Top V b) (h0 : 0 < V.length) : ∃ z, z < V.length ∧ gF V b z = 0 := by
  refine Classical.byContradiction fun hno => ?_
  have hall : ∀ k, k < V.length → 1 ≤ gF V b k := fun k hk => by
    have h1 := gF_nn V b k
    have h2 : gF V b k ≠ 0 := fun e => hno ⟨k, hk, e⟩
    omega
  have hg : GC V b (fun z => gF V b z - 1) := fun m k hm hk => by
    have h1 := gF_gc hb m k hm hk
    unfold lack at h1 ⊢
    simp only
    omega
  have h2 := gF_least hb hg (fun k hk => by have := hall k hk; omega) h0
  omega
theorem gC_zero (hb : Top V b) (h0 : 0 < V.length) : ∃ z, z < V.length ∧ gC V b z = 0 := by
  refine Classical.byContradiction fun hno => ?_
  have hall : ∀ k, k < V.length → gC V b k ≤ -1 := fun k hk => by
    have h1 := gC_np V b k
    have h2 : gC V b k ≠ 0 := fun e => hno ⟨k, hk, e⟩
    omega
  have hg : GC V b (fun z => gC V b z + 1) := fun m k hm hk => by
    have h1 := gC_gc hb m k hm hk
    unfold lack at h1 ⊢
    simp only
    omega
  have h2 := gC_most hb hg (fun k hk => by have := hall k hk; omega) h0
  omega
/-- The gains of a lease without envy, by agents, are those with each best assignment. -/
theorem gain_other {a c : List Nat} {p : Nat → Int} {W : List (List Int)} (h : Cont W a p) (ha : a.Perm (List.range W.length)) (hc : c.Perm (List.range W.length)) (he : wr W a ≤ wr W c) {i : Nat} (hi : i < W.length) :
    vl W i (a.getD i 0) - p (a.getD i 0) = vl W i (c.getD i 0) - p (c.getD i 0) := by
  have k := h.other ha hc he
  have la : a.length = W.length := by simpa using ha.length_eq
  have lc : c.length = W.length := by simpa using hc.length_eq
  have h1 := h i (c.getD i 0) hi (List.mem_range.1 (hc.mem_iff.1 (getD_mem (by omega))))
  have h2 := k i (a.getD i 0) hi (List.mem_range.1 (ha.mem_iff.1 (getD_mem (by omega))))
  omega
/-- The gains of a lease, times D, differ as the links ask. -/
theorem cont_gd {D : Int} {p : Nat → Int} (hb : Top V b) (h : Cont (sc D V) b p) {i k : Nat} (hi : i < V.length) (hk : k < V.length) : D * gd V b i k ≤ (D * vo V b i - p (b.getD i 0)) - (D * vo V b k - p (b.getD k 0)) := by
  have h1 := lkm_le hb h (own_lt hb hi) (own_lt hb hk)
  unfold gd
  rw [Int.mul_add, Int.mul_sub]
  omega
/-- The sum of the gains of a lease. -/
theorem gain_sum {D R : Int} {p : Nat → Int} (hb : Top V b) (hs : sm p (List.range V.length) = D * R) : sm (fun i => D * vo V b i - p (b.getD i 0)) (List.range V.length) = D * (sm (vo V b) (List.range V.length) - R) := by
  rw [sm_sub, sm_mul, sm_getD hb.len p, sm_perm hb.perm, hs, Int.mul_sub]
/-- The least gain of the fair lease, times the number of agents. -/
def fairL (V : List (List Int)) (b : List Nat) (R : Int) : Int := sm (vo V b) (List.range V.length) - R - sm (gF V b) (List.range V.length)
/-- The greatest gain of the calm lease, times the number of agents. -/
def calmM (V : List (List Int)) (b : List Nat) (R : Int) : Int := sm (vo V b) (List.range V.length) - R - sm (gC V b) (List.range V.length)
/-- No lease without envy has a greater least gain; one with the same has the same gains. -/
theorem fair_best {D R m : Int} {p : Nat → Int} (hb : Top V b) (h : Cont (sc D V) b p) (hs : sm p (List.range V.length) = D * R) (hm : ∀ i, i < V.length → m ≤ D * vo V b i - p (b.getD i 0)) :
    V.length * m ≤ D * fairL V b R ∧ (V.length * m = D * fairL V b R → ∀ i, i < V.length → D * vo V b i - p (b.getD i 0) = m + D * gF V b i) := by
  have h1 : ∀ i, i < V.length → D * gF V b i ≤ D * vo V b i - p (b.getD i 0) - m := fun i hi => by
    obtain ⟨k, hk, he⟩ := gF_at hb hi
    have h2 := cont_gd hb h hi hk
    have h3 := hm k hk
    rw [he]; omega
  have e : sm (fun i => (D * vo V b i - p (b.getD i 0)) - (m + D * gF V b i)) (List.range V.length) = D * fairL V b R - V.length * m := by
    rw [sm_sub, gain_sum hb hs]
    have e2 : sm (fun i => m + D * gF V b i) (List.range V.length) = sm (fun i => m - (-D) * gF V b i) (List.range V.length) := sm_congr fun i _ => by rw [Int.neg_mul]; omega
    have e3 : sm (fun i => gF V b i) (List.range V.length) = sm (gF V b) (List.range V.length) := rfl
    rw [e2, sm_sub, sm_const, sm_mul, e3]
    unfold fairL
    rw [Int.mul_sub D (_ - _), Int.neg_mul]
    omega
  have hnn := sm_le (f := fun _ => 0) (g := fun i => (D * vo V b i - p (b.getD i 0)) - (m + D * gF V b i)) (l := List.range V.length) fun i hi => by
    have := h1 i (by simpa using hi)
    omega
  rw [sm_zero (f := fun _ => (0 : Int)) fun _ _ => rfl, e] at hnn
  refine ⟨by omega, fun he i hi => ?_⟩
  have := sm_all0 (f := fun i => (D * vo V b i - p (b.getD i 0)) - (m + D * gF V b i)) (l := List.range V.length) (fun i hi => by
    have := h1 i (by simpa using hi)
    omega) (by rw [e]; omega) i (by simpa using hi)
  omega
/-- No lease without envy has a smaller greatest gain than the calm one. -/
theorem calm_best {D R m : Int} {p : Nat → Int} (hb : Top V b) (h : Cont (sc D V) b p) (hs : sm p (List.range V.length) = D * R) (hm : ∀ i, i < V.length → D * vo V b i - p (b.getD i 0) ≤ m) :
    D * calmM V b R ≤ V.length * m := by
  have h1 : ∀ i, i < V.length → D * vo V b i - p (b.getD i 0) ≤ m + D * gC V b i := fun i hi => by
    obtain ⟨k, hk, he⟩ := gC_at hb hi
    have h2 := cont_gd hb h hk hi
    have h3 := hm k hk
    rw [he, Int.mul_neg]; omega
  have e2 : sm (fun i => m + D * gC V b i) (List.range V.length) = V.length * m + D * sm (gC V b) (List.range V.length) := by
    have e3 : sm (fun i => m + D * gC V b i) (List.range V.length) = sm (fun i => m - (-D) * gC V b i) (List.range V.length) := sm_congr fun i _ => by rw [Int.neg_mul]; omega
    have e4 : sm (fun i => gC V b i) (List.range V.length) = sm (gC V b) (List.range V.length) := rfl
    rw [e3, sm_sub, sm_const, sm_mul, e4, Int.neg_mul]
    omega
  have hle := sm_le (l := List.range V.length) fun i hi => h1 i (by simpa using hi)
  rw [gain_sum hb hs, e2] at hle
  unfold calmM
  rw [Int.mul_sub D (_ - _)]
  omega
end
end Go.Proofs.Ytncmffhoodfhjaa.As
