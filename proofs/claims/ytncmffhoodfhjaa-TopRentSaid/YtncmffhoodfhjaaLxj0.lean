/- The fair and the calm lease beside any lease without envy: mathematics. -/
import Derived.Test.YtncmffhoodfhjaaLxh
namespace Go.Proofs.Ytncmffhoodfhjaa
open Go.RowKit
namespace As
section
variable {V : List (List Int)} {b a : List Nat} {T R : Int} {P ps : List Int} {D E : Int}
theorem gn_vo (V : List (List Int)) (b : List Nat) (P : List Int) (D : Int) (i : Nat) : gnF V P D i (b.getD i 0) = D * vo V b i - el P (b.getD i 0) := by
  unfold gnF vo
  rw [Int.mul_comm]
/-- A lease without envy has its prices with the best assignment, too, and the same gains. -/
theorem free_gain (hb : Top V b) (le : Le14 V.length R a ps E) (ct : Cont (sc E V) a (el ps)) :
    Cont (sc E V) b (el ps) ∧ ∀ i, i < V.length → gnF V ps E i (a.getD i 0) = E * vo V b i - el ps (b.getD i 0) := by
  have d1 := le.d1
  have hl := sc_len E V
  have ha : a.Perm (List.range (sc E V).length) := by rw [hl]; exact le.perm
  have hb2 : b.Perm (List.range (sc E V).length) := by rw [hl]; exact hb.perm
  have la : a.length = V.length := by simpa using le.perm.length_eq
  have hw : wr (sc E V) a ≤ wr (sc E V) b := by
    rw [sc_wr E V la, sc_wr E V hb.len]
    exact Int.mul_le_mul_of_nonneg_left (hb.top a le.perm) (by omega)
  refine ⟨ct.other ha hb2 hw, fun i hi => ?_⟩
  have := gain_other ct ha hb2 hw (i := i) (by rw [hl]; exact hi)
  rw [sc_vl, sc_vl] at this
  rw [gn_vo]
  exact this
theorem fair_x (k : RnOk V T (gF V (bst V)) P D) : ∃ t : Nat, 1 ≤ t ∧ (t : Int) * D = V.length ∧ (t : Int) * lsG V (bst V) P D = fairL V (bst V) T ∧ ∀ i, i < V.length → (t : Int) * gnF V P D i ((bst V).getD i 0) = V.length * gF V (bst V) i + fairL V (bst V) T := by
  obtain ⟨t, t1, t2, _, t4⟩ := k.sc
  have n1 := k.ok.n1
  have h4 : ∀ i, i < V.length → (t : Int) * gnF V P D i ((bst V).getD i 0) = V.length * gF V (bst V) i + fairL V (bst V) T := fun i hi => by
    rw [gn_vo, t4 i hi]; rfl
  refine ⟨t, t1, t2, ?_, h4⟩
  obtain ⟨z, hz, hz0⟩ := gF_zero k.hb (by omega)
  obtain ⟨i, hi, e⟩ := lsG_at (V := V) (by omega) (bst V) P D
  have u1 := Int.mul_le_mul_of_nonneg_left (lsG_le (V := V) (a := bst V) (ps := P) (D := D) hz) (show (0 : Int) ≤ t by omega)
  rw [h4 z hz, hz0] at u1
  have u2 := h4 i hi
  rw [← e] at u2
  have u3 : 0 ≤ (V.length : Int) * gF V (bst V) i := Int.mul_nonneg (by omega) (gF_nn V (bst V) i)
  omega
theorem calm_x (k : RnOk V T (gC V (bst V)) P D) : ∃ t : Nat, 1 ≤ t ∧ (t : Int) * D = V.length ∧ (t : Int) * gtG V (bst V) P D = calmM V (bst V) T := by
  obtain ⟨t, t1, t2, _, t4⟩ := k.sc
  have n1 := k.ok.n1
  have h4 : ∀ i, i < V.length → (t : Int) * gnF V P D i ((bst V).getD i 0) = V.length * gC V (bst V) i + calmM V (bst V) T := fun i hi => by
    rw [gn_vo, t4 i hi]; rfl
  refine ⟨t, t1, t2, ?_⟩
  obtain ⟨z, hz, hz0⟩ := gC_zero k.hb (by omega)
  obtain ⟨i, hi, e⟩ := gtG_at (V := V) (by omega) (bst V) P D
  have u1 := Int.mul_le_mul_of_nonneg_left (gtG_ge (V := V) (a := bst V) (ps := P) (D := D) hz) (show (0 : Int) ≤ t by omega)
  rw [h4 z hz, hz0] at u1
  have u2 := h4 i hi
  rw [← e] at u2
  have u3 : (V.length : Int) * gC V (bst V) i ≤ 0 := Int.mul_nonpos_of_nonneg_of_nonpos (by omega) (gC_np V (bst V) i)
  omega
theorem mul_cancel_le {t x y : Int} (h : 1 ≤ t) (e : t * x ≤ t * y) : x ≤ y := Int.le_of_mul_le_mul_left e (by omega)
/-- The least gain of a lease without envy is no greater than that of the fair one. -/
theorem fair_le (k : RnOk V T (gF V (bst V)) P D) (le : Le14 V.length T a ps E) (ct : Cont (sc E V) a (el ps)) :
    lsG V a ps E * D ≤ lsG V (bst V) P D * E ∧ (lsG V (bst V) P D * E = lsG V a ps E * D → ∀ i, i < V.length → gnF V ps E i (a.getD i 0) * D = gnF V P D i ((bst V).getD i 0) * E) := by
  obtain ⟨t, t1, t2, t3, t4⟩ := fair_x k
  obtain ⟨c1, c2⟩ := free_gain k.hb le ct
  obtain ⟨f1, f2⟩ := fair_best (R := T) k.hb c1 le.sum (m := lsG V a ps E) (fun i hi => by rw [← c2 i hi]; exact lsG_le hi)
  rw [← t2, ← t3] at f1
  constructor
  · refine mul_cancel_le (t := t) (by omega) ?_
    have e1 : (t : Int) * (lsG V a ps E * D) = t * D * lsG V a ps E := by grind
    have e2 : (t : Int) * (lsG V (bst V) P D * E) = E * (t * lsG V (bst V) P D) := by grind
    rw [e1, e2]; exact f1
  · intro he i hi
    have g1 := f2 (by
      rw [← t2, ← t3]
      have e1 : (t : Int) * D * lsG V a ps E = t * (lsG V a ps E * D) := by grind
      have e2 : E * (t * lsG V (bst V) P D) = t * (lsG V (bst V) P D * E) := by grind
      rw [e1, e2, he]) i hi
    have g2 := t4 i hi
    have key : (t : Int) * (gnF V ps E i (a.getD i 0) * D) = t * (gnF V P D i ((bst V).getD i 0) * E) := by
      have e1 : (t : Int) * (gnF V ps E i (a.getD i 0) * D) = (t * D) * gnF V ps E i (a.getD i 0) := by grind
      have e2 : (t : Int) * (gnF V P D i ((bst V).getD i 0) * E) = (t * gnF V P D i ((bst V).getD i 0)) * E := by grind
      rw [e1, e2, c2 i hi, g1, g2, ← t3]
      have e3 : (t : Int) * D * lsG V a ps E = t * (lsG V a ps E * D) := by grind
      have e4 : ((V.length : Int) * gF V (bst V) i + t * lsG V (bst V) P D) * E = V.length * gF V (bst V) i * E + t * (lsG V (bst V) P D * E) := by grind
      rw [Int.mul_add, e3, e4, he, t2]
      grind
    exact Int.eq_of_mul_eq_mul_left (by omega) key
theorem calm_le (k : RnOk V T (gC V (bst V)) P D) (le : Le14 V.length T a ps E) (ct : Cont (sc E V) a (el ps)) : gtG V (bst V) P D * E ≤ gtG V a ps E * D := by
  obtain ⟨t, t1, t2, t3⟩ := calm_x k
  obtain ⟨c1, c2⟩ := free_gain k.hb le ct
  have f1 := calm_best (R := T) k.hb c1 le.sum (m := gtG V a ps E) (fun i hi => by rw [← c2 i hi]; exact gtG_ge hi)
  rw [← t2, ← t3] at f1
  refine mul_cancel_le (t := t) (by omega) ?_
  have e1 : (t : Int) * (gtG V a ps E * D) = t * D * gtG V a ps E := by grind
  have e2 : (t : Int) * (gtG V (bst V) P D * E) = E * (t * gtG V (bst V) P D) := by grind
  rw [e1, e2]; exact f1
/-- The least and the greatest gain are in bounds. -/
theorem ls_bd (ok : Ok V) (le : Le14 V.length R a ps E) : -660000000 ≤ lsG V a ps E ∧ lsG V a ps E ≤ 660000000 ∧ -660000000 ≤ gtG V a ps E ∧ gtG V a ps E ≤ 660000000 := by
  have n1 := ok.n1
  obtain ⟨i, hi, e⟩ := lsG_at (V := V) (by omega) a ps E
  obtain ⟨j, hj, f⟩ := gtG_at (V := V) (by omega) a ps E
  have h1 := gnF_bd ok le i ((perm_lt le.perm).2 i hi)
  have h2 := gnF_bd ok le j ((perm_lt le.perm).2 j hj)
  omega
end
end As
namespace Rp
theorem q_eq_iff {a n c d : Int} (h : 1 ≤ n) (k : 1 ≤ d) : q a n = q c d ↔ a * d = c * n := by
  have h1 := q_le (a := a) (c := c) h k
  have h2 := q_le (a := c) (c := a) k h
  constructor
  · intro e
    have u1 := h1.1 (by rw [e]; exact Rat.le_refl)
    have u2 := h2.1 (by rw [e]; exact Rat.le_refl)
    omega
  · intro e
    exact Rat.le_antisymm (h1.2 (by omega)) (h2.2 (by omega))
theorem q_nlt {a n c d : Int} (h : 1 ≤ n) (k : 1 ≤ d) (e : c * n ≤ a * d) : decide (q a n < q c d) = false := by
  rw [decide_eq_false_iff_not, Rat.not_lt]
  exact (q_le k h).2 e
theorem num_den_inj {x y : Rat} (h1 : x.num = y.num) (h2 : (x.den : Int) = y.den) : x = y := Rat.ext h1 (by omega)
end Rp
end Go.Proofs.Ytncmffhoodfhjaa
