/- What RoomRange asks: the leases at the ends of a room's range; prices without envy lie in it. -/
import Derived.Test.YtncmffhoodfhjaaYp
import Derived.Test.YtncmffhoodfhjaaLwq
import Derived.Test.YtncmffhoodfhjaaYc
namespace Go.Proofs.Ytncmffhoodfhjaa
open Go.RowKit
namespace As
variable {V : List (List Int)} {R : Int} {j : Nat}
/-- The prices by the links to the room at its least price, and from it at its greatest. -/
def lwp (V : List (List Int)) (R : Int) (j : Nat) (k : Nat) : Int := lowN V (bst V) R j - V.length * lkm V (bst V) k j
def hgp (V : List (List Int)) (R : Int) (j : Nat) (k : Nat) : Int := highN V (bst V) R j + V.length * lkm V (bst V) j k
theorem lkm_b1 (ok : Ok V) {x y : Nat} (hx : x < V.length) (hy : y < V.length) : -1000000 ≤ lkm V (bst V) x y ∧ lkm V (bst V) x y ≤ 1000000 := by
  have ht := bst_top ok
  have n1 := ok.n1
  have h1 := wt_le ht hx hy
  have h2 := (wt_bd (b := bst V) ok.bd x y).1
  have h3 := lp_lkm ht hx hy
  have h4 := lp_nn ht x
  have h5 := lp_bound ht (by omega) ok.bd hy
  omega
theorem nl_bd (ok : Ok V) {z : Int} (h : -1000000 ≤ z ∧ z ≤ 1000000) : -6000000 ≤ V.length * z ∧ V.length * z ≤ 6000000 ∧ -(V.length * 1000000 : Int) ≤ V.length * z ∧ V.length * z ≤ (V.length * 1000000 : Int) := by
  have n6 := ok.n6
  have m1 := Int.mul_le_mul_of_nonneg_left h.1 (show (0 : Int) ≤ V.length by omega)
  have m2 := Int.mul_le_mul_of_nonneg_left h.2 (show (0 : Int) ≤ V.length by omega)
  omega
theorem end_bd (ok : Ok V) (r0 : 0 ≤ R) (r1 : R ≤ 10000000) (hj : j < V.length) {k : Nat} (hk : k < V.length) :
    (-10000000 * (V.length : Int) ≤ lwp V R j k ∧ lwp V R j k ≤ 10000000 * (V.length : Int)) ∧ (-10000000 * (V.length : Int) ≤ hgp V R j k ∧ hgp V R j k ≤ 10000000 * (V.length : Int)) := by
  have ht := bst_top ok
  have n1 := ok.n1
  have s1 := sm_bd2 (f := fun i => lkm V (bst V) i j) (M := 1000000) V.length fun i hi => lkm_b1 ok hi hj
  have s2 := sm_bd2 (f := fun i => lkm V (bst V) j i) (M := 1000000) V.length fun i hi => lkm_b1 ok hj hi
  have hlo : lowN V (bst V) R j = R + sm (fun i => lkm V (bst V) i j) (List.range V.length) := rfl
  have hhi : highN V (bst V) R j = R - sm (fun i => lkm V (bst V) j i) (List.range V.length) := rfl
  obtain ⟨_, _, a1, a2⟩ := nl_bd ok (lkm_b1 ok hk hj)
  obtain ⟨_, _, b1, b2⟩ := nl_bd ok (lkm_b1 ok hj hk)
  unfold lwp hgp
  by_cases h2 : 2 ≤ V.length
  · omega
  · have e1 : V.length = 1 := by omega
    obtain rfl : j = 0 := by omega
    obtain rfl : k = 0 := by omega
    have z := lkm_zero ht (x := 0) (by omega)
    have z1 : sm (fun i => lkm V (bst V) i 0) (List.range V.length) = 0 := by rw [e1]; simp [sm, List.range_succ, z]
    have z2 : sm (fun i => lkm V (bst V) 0 i) (List.range V.length) = 0 := by rw [e1]; simp [sm, List.range_succ, z]
    rw [hlo, hhi, z1, z2, z]
    omega
theorem cont_ml {n : Int} {b : List Nat} {p : Nat → Int} (hb : b.Perm (List.range V.length)) (h : Cont (sc n V) b p) : Cont (sc n V) b (el (ml V.length p)) := by
  intro i m hi hm
  have h1 := h i m hi hm
  rw [sc_len] at hi hm
  have lb : b.length = V.length := by simpa using hb.length_eq
  have hbi := List.mem_range.1 (hb.mem_iff.1 (getD_mem (a := b) (i := i) (by omega)))
  rw [el_ml hm, el_ml hbi]
  exact h1
theorem ends_ok (ok : Ok V) (r0 : 0 ≤ R) (r1 : R ≤ 10000000) (hj : j < V.length) :
    (Le14 V.length R (bst V) (ml V.length (lwp V R j)) V.length ∧ Cont (sc V.length V) (bst V) (el (ml V.length (lwp V R j)))) ∧
    (Le14 V.length R (bst V) (ml V.length (hgp V R j)) V.length ∧ Cont (sc V.length V) (bst V) (el (ml V.length (hgp V R j)))) := by
  have ht := bst_top ok
  have n1 := ok.n1
  have n6 := ok.n6
  refine ⟨⟨⟨ht.perm, ml_len _ _, by omega, by omega, fun k hk => ?_, ?_⟩, cont_ml ht.perm (low_cont (by omega) ht _ hj)⟩, ⟨⟨ht.perm, ml_len _ _, by omega, by omega, fun k hk => ?_, ?_⟩, cont_ml ht.perm (high_cont (by omega) ht _ hj)⟩⟩
  · rw [el_ml hk]; exact (end_bd ok r0 r1 hj hk).1
  · rw [show sm (el (ml V.length (lwp V R j))) (List.range V.length) = sm (lwp V R j) (List.range V.length) from sm_congr fun k hk => el_ml (List.mem_range.1 hk)]
    exact low_sum V (bst V) R j
  · rw [el_ml hk]; exact (end_bd ok r0 r1 hj hk).2
  · rw [show sm (el (ml V.length (hgp V R j))) (List.range V.length) = sm (hgp V R j) (List.range V.length) from sm_congr fun k hk => el_ml (List.mem_range.1 hk)]
    exact high_sum V (bst V) R j
/-- The price of a room without envy, as a ratio, lies in its range. -/
theorem in_range (ok : Ok V) {a : List Nat} {ps : List Int} {D : Int} (le : Le14 V.length R a ps D) (hc : Cont (sc D V) a (el ps)) (hj : j < V.length) :
    ¬ Rp.q (el ps j) D < Rp.q (lowN V (bst V) R j) V.length ∧ ¬ Rp.q (highN V (bst V) R j) V.length < Rp.q (el ps j) D := by
  have n1 := ok.n1
  obtain ⟨h1, h2⟩ := range_in le.d1 (bst_top ok) le.perm hc le.sum hj
  rw [Rat.not_lt, Rat.not_lt, Rp.q_le (by omega) le.d1, Rp.q_le le.d1 (by omega)]
  constructor
  · rw [Int.mul_comm, Int.mul_comm (el ps j)]; exact h1
  · rw [Int.mul_comm, Int.mul_comm (highN V (bst V) R j)]; exact h2
end As
end Go.Proofs.Ytncmffhoodfhjaa
