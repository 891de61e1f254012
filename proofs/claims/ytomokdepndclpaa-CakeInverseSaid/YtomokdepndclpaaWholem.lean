/- The total of a cake: the value of all of it; at least 1. Plain mathematics. -/
import Derived.Test.YtomokdepndclpaaValint
namespace Go.Proofs.Ytomokdepndclpaa
namespace Ck
theorem vint_whole {len : Int} {c d : List Int} (hG : Good len c d) : ∀ k, k ≤ d.length → vint c d 0 len k = tot c d k
  | 0, _ => rfl
  | k + 1, hk => by
    have ih := vint_whole hG k (by omega)
    have hst := (hG.step k (by omega)).1
    have r1 := hG.range k (by omega)
    have r2 := hG.mono (k + 1) d.length (by omega) (Nat.le_refl _)
    have r3 := hG.last
    unfold vint tot
    rw [ih, if_pos (by omega), show min len (at_ c (k + 1)) = at_ c (k + 1) by omega, show max 0 (at_ c k) = at_ c k by omega, Int.mul_comm]
theorem tot_mono {len : Int} {c d : List Int} (hG : Good len c d) (k : Nat) : ∀ t, k + t ≤ d.length → tot c d k ≤ tot c d (k + t)
  | 0, _ => Int.le_refl _
  | t + 1, ht => by
    have ih := tot_mono hG k t (by omega)
    have hst := hG.step (k + t) (by omega)
    show _ ≤ tot c d (k + t) + at_ d (k + t) * (at_ c (k + t + 1) - at_ c (k + t))
    have := Int.mul_nonneg hst.2.1 (show 0 ≤ at_ c (k + t + 1) - at_ c (k + t) by omega)
    omega
theorem tot_pos {len : Int} {c d : List Int} (hG : Good len c d) : 1 ≤ tot c d d.length := by
  have hs := hG.some_
  unfold wanted at hs
  rw [List.any_eq_true] at hs
  obtain ⟨x, hx, hp⟩ := hs
  obtain ⟨j, hj, rfl⟩ := List.mem_iff_getElem.1 hx
  rw [decide_eq_true_iff] at hp
  have hst := hG.step j hj
  have h1 : 1 ≤ at_ d j := by rw [at_lt hj]; omega
  have h2 := tot_mono hG (j + 1) (d.length - (j + 1)) (by omega)
  rw [show j + 1 + (d.length - (j + 1)) = d.length by omega] at h2
  have h3 := (tot_bd hG j (by omega)).1
  have h4 : tot c d (j + 1) = tot c d j + at_ d j * (at_ c (j + 1) - at_ c j) := rfl
  have h5 := Int.mul_le_mul h1 (show 1 ≤ at_ c (j + 1) - at_ c j by omega) (by decide) (by omega)
  omega
end Ck
end Go.Proofs.Ytomokdepndclpaa
