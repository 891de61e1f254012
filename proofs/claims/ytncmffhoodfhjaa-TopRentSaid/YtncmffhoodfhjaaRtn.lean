/- Mathematics of layer 15: the fair and the calm lease. -/
import Derived.Test.YtncmffhoodfhjaaRtm
import Derived.Test.YtncmffhoodfhjaaYf
namespace Go.Proofs.Ytncmffhoodfhjaa.As
/-- Prices, all changed by the same, so that they add up to the rent, times their number. -/
def shp (n : Nat) (P : Nat → Int) (R : Int) (j : Nat) : Int := n * P j + R - sm P (List.range n)
section
variable {V : List (List Int)} {b : List Nat}
theorem shp_cont {P : Nat → Int} (hc : Cont V b P) (R : Int) : Cont (sc V.length V) b (shp V.length P R) := by
  intro i m hi hm
  have h := sc_cont (V.length : Int) (by omega) hc i m hi hm
  unfold shp
  simp only at h ⊢
  omega
theorem shp_sum (n : Nat) (P : Nat → Int) (R : Int) : sm (shp n P R) (List.range n) = n * R := by
  have e : sm (shp n P R) (List.range n) = sm (fun j => (n : Int) * P j - (sm P (List.range n) - R)) (List.range n) := sm_congr fun j _ => by unfold shp; omega
  have e2 : sm (fun j => P j) (List.range n) = sm P (List.range n) := rfl
  rw [e, sm_sub, sm_mul, sm_const, Int.mul_sub, e2]
  omega
/-- Prices without envy differ by no more than the greatest value. -/
theorem cont_near (ok : Ok V) (hb : Top V b) {P : Nat → Int} (hc : Cont V b P) {j k : Nat} (hj : j < V.length) (hk : k < V.length) : P j - P k ≤ 1000000 := by
  obtain ⟨h1, h2⟩ := idx_rm hb hj
  have h3 := hc (b.idxOf j) k h1 hk
  rw [h2] at h3
  have h4 := ok.bd (b.idxOf j) k
  have h5 := ok.bd (b.idxOf j) j
  omega
theorem shp_bd (ok : Ok V) (hb : Top V b) {P : Nat → Int} (hc : Cont V b P) {R : Int} (r0 : 0 ≤ R) (r1 : R ≤ 10000000) {j : Nat} (hj : j < V.length) : -10000000 * (V.length : Int) ≤ shp V.length P R j ∧ shp V.length P R j ≤ 10000000 * (V.length : Int) := by
  have e : shp V.length P R j = sm (fun k => P j - P k) (List.range V.length) + R := by
    have e2 : sm (fun j => P j) (List.range V.length) = sm P (List.range V.length) := rfl
    rw [sm_sub, sm_const, e2]
    unfold shp; omega
  rw [e]
  by_cases h1 : V.length = 1
  · have hj0 : j = 0 := by omega
    subst hj0
    rw [h1]
    have : sm (fun k => P 0 - P k) (List.range 1) = 0 := by simp [sm, List.range_succ]
    rw [this]; omega
  · have h2 := sm_le (f := fun k => P j - P k) (g := fun _ => 1000000) (l := List.range V.length) fun k hk => cont_near ok hb hc hj (List.mem_range.1 hk)
    have h3 := sm_le (f := fun _ => -1000000) (g := fun k => P j - P k) (l := List.range V.length) fun k hk => by
      have := cont_near ok hb hc (List.mem_range.1 hk) hj
      omega
    rw [sm_const] at h2 h3
    have := ok.n1
    omega
/-- The lease that has given gains, all changed by the same. -/
def fpr (V : List (List Int)) (b : List Nat) (g : Nat → Int) (j : Nat) : Int := vo V b (b.idxOf j) - g (b.idxOf j)
theorem fpr_own (hb : Top V b) (g : Nat → Int) {i : Nat} (hi : i < V.length) : fpr V b g (b.getD i 0) = vo V b i - g i := by unfold fpr; rw [own_idx hb hi]
theorem fpr_sum (hb : Top V b) (g : Nat → Int) : sm (fpr V b g) (List.range V.length) = sm (vo V b) (List.range V.length) - sm g (List.range V.length) := by
  rw [← sm_perm hb.perm, ← sm_getD hb.len (fpr V b g), ← sm_sub]
  exact sm_congr fun i hi => fpr_own hb g (List.mem_range.1 hi)
/-- The gains of that lease, times the number of agents. -/
theorem fpr_gain (hb : Top V b) (g : Nat → Int) (R : Int) {i : Nat} (hi : i < V.length) : V.length * vo V b i - shp V.length (fpr V b g) R (b.getD i 0) = V.length * g i + (sm (vo V b) (List.range V.length) - R - sm g (List.range V.length)) := by
  unfold shp
  rw [fpr_sum hb g, fpr_own hb g hi, Int.mul_sub]
  omega
/-- A lease by gains without envy is valid, and without envy; its gains. -/
theorem leased_ok (ok : Ok V) (hb : Top V b) {g : Nat → Int} (hg : GC V b g) {R : Int} (r0 : 0 ≤ R) (r1 : R ≤ 10000000) :
    let p := shp V.length (fpr V b g) R
    Le14 V.length R b (rdp V.length p) (rdd V.length p) ∧ Cont (sc (rdd V.length p) V) b (el (rdp V.length p)) ∧
      ∃ t : Nat, 1 ≤ t ∧ (t : Int) * rdd V.length p = V.length ∧ ∀ i, i < V.length → (t : Int) * (rdd V.length p * vo V b i - el (rdp V.length p) (b.getD i 0)) = V.length * g i + (sm (vo V b) (List.range V.length) - R - sm g (List.range V.length)) := by
  intro p
  have hc : Cont V b (fpr V b g) := gc_cont hb hg
  obtain ⟨h1, h2, t, t1, t2, t3⟩ := rd_ok (p := p) ok.n1 ok.n6 hb.perm (shp_cont hc R) (shp_sum _ _ R) (fun j hj => shp_bd ok hb hc r0 r1 hj)
  refine ⟨h1, h2, t, t1, t2, fun i hi => ?_⟩
  rw [Int.mul_sub, ← Int.mul_assoc, t2, t3 _ (own_lt hb hi)]
  exact fpr_gain hb g R hi
end
end Go.Proofs.Ytncmffhoodfhjaa.As
