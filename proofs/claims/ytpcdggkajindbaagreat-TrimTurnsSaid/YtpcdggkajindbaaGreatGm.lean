/- What a cake is worth between two whole numbers: plain mathematics. Cut and choose: the cutter's mark and the chooser's value are never out of range. Plain mathematics. -/
import Derived.Test.YtpcdggkajindbaaGreatGg
import Derived.Test.YtpcdggkajindbaaGreatGj
import Derived.Test.YtpcdggkajindbaaGreatAskv
namespace Go.Proofs.YtpcdggkajindbaaGreat
namespace Ck
end Ck
end Go.Proofs.YtpcdggkajindbaaGreat
/- The total of a cake: the value of all of it; at least 1. Plain mathematics. -/
namespace Go.Proofs.YtpcdggkajindbaaGreat
namespace Ck
theorem tot_mono {len : Int} {c d : List Int} (hG : Good len c d) (k : Nat) : ∀ t, k + t ≤ d.length → tot c d k ≤ tot c d (k + t)
  | 0, _ => Int.le_refl _
  | t + 1, ht => by
    have ih := tot_mono hG k t (by omega)
    have hst := hG.step (k + t) (by omega)
    show _ ≤ tot c d (k + t) + at_ d (k + t) * (at_ c (k + t + 1) - at_ c (k + t))
    have := Int.mul_nonneg hst.2.1 (show 0 ≤ at_ c (k + t + 1) - at_ c (k + t) by omega)
    omega
theorem tot_pos {len : Int} {c d : List Int} (hG : Good len c d) : 1 ≤ tot c d d.length := by
  have hs := hG.some_
  unfold wanted at hs
  rw [List.any_eq_true] at hs
  obtain ⟨x, hx, hp⟩ := hs
  obtain ⟨j, hj, rfl⟩ := List.mem_iff_getElem.1 hx
  rw [decide_eq_true_iff] at hp
  have hst := hG.step j hj
  have h1 : 1 ≤ at_ d j := by rw [at_lt hj]; omega
  have h2 := tot_mono hG (j + 1) (d.length - (j + 1)) (by omega)
  rw [show j + 1 + (d.length - (j + 1)) = d.length by omega] at h2
  have h3 := (tot_bd hG j (by omega)).1
  have h4 : tot c d (j + 1) = tot c d j + at_ d j * (at_ c (j + 1) - at_ c j) := rfl
  have h5 := Int.mul_le_mul h1 (show 1 ≤ at_ c (j + 1) - at_ c j by omega) (by decide) (by omega)
  omega
end Ck
end Go.Proofs.YtpcdggkajindbaaGreat
/- The total of a part is what the cake is worth there: plain mathematics. -/
namespace Go.Proofs.YtpcdggkajindbaaGreat
namespace Ck
end Ck
end Go.Proofs.YtpcdggkajindbaaGreat
namespace Go.Proofs.YtpcdggkajindbaaGreat
namespace Ch
open Ck
/-- A number of which D times is a whole number. -/
def Dd (D : Int) (x : Rat) : Prop := ∃ M : Int, x * (D : Rat) = (M : Rat)
theorem Dd.int (D n : Int) : Dd D (n : Rat) := ⟨n * D, (Rat.intCast_mul n D).symm⟩
theorem Dd.add {D : Int} {x y : Rat} : Dd D x → Dd D y → Dd D (x + y)
  | ⟨a, ha⟩, ⟨b, hb⟩ => ⟨a + b, by rw [Rat.intCast_add, ← ha, ← hb]; grind⟩
theorem Dd.sub {D : Int} {x y : Rat} : Dd D x → Dd D y → Dd D (x - y)
  | ⟨a, ha⟩, ⟨b, hb⟩ => ⟨a - b, by rw [Rat.intCast_sub, ← ha, ← hb]; grind⟩
theorem Dd.muli {D : Int} {x : Rat} (n : Int) : Dd D x → Dd D (x * (n : Rat))
  | ⟨a, ha⟩ => ⟨a * n, by rw [Rat.intCast_mul, ← ha]; grind⟩
theorem Dd.up {D : Int} {x : Rat} (k : Int) : Dd D x → Dd (D * k) x
  | ⟨a, ha⟩ => ⟨a * k, by rw [Rat.intCast_mul, Rat.intCast_mul, ← ha]; grind⟩
theorem Dd.divi {D : Int} {x : Rat} {k : Int} (hk : ((k : Int) : Rat) ≠ 0) : Dd D x → Dd (D * k) (x / (k : Rat))
  | ⟨a, ha⟩ => ⟨a, by
    rw [Rat.intCast_mul, ← ha]
    have := Rat.div_mul_cancel (a := x) hk
    grind⟩
theorem c0 : ((0 : Int) : Rat) = 0 := rfl
/-- A product with a density. -/
theorem mul_bd {t : Rat} {k B : Int} (k0 : 0 ≤ k) (k1 : k ≤ 12) (b0 : 0 ≤ B) (t0 : -((B : Int) : Rat) ≤ t) (t1 : t ≤ ((B : Int) : Rat)) : ((-(12 * B) : Int) : Rat) ≤ t * (k : Rat) ∧ t * (k : Rat) ≤ ((12 * B : Int) : Rat) := by
  have hk := cast_le k0
  have g1 := Rat.mul_le_mul_of_nonneg_right t1 hk
  have g0 := Rat.mul_le_mul_of_nonneg_right t0 hk
  have hk2 : B * k ≤ 12 * B := by
    have := Int.mul_le_mul_of_nonneg_left k1 b0
    rw [Int.mul_comm 12 B]
    exact this
  have g2 := cast_le hk2
  rw [Rat.intCast_mul] at g2
  have g3 : ((-(12 * B) : Int) : Rat) = -((12 * B : Int) : Rat) := Rat.intCast_neg _
  rw [g3]
  constructor <;> grind
section
variable {len : Int} {c d : List Int}
theorem clq_dd {D : Int} {x : Rat} (lo hi : Int) (h : Dd D x) : Dd D (clq x (lo : Rat) (hi : Rat)) := by
  unfold clq
  split
  · exact Dd.int D 0
  · split
    · exact (Dd.int D hi).sub (Dd.int D lo)
    · exact h.sub (Dd.int D lo)
theorem cum_dd {D : Int} {x : Rat} (h : Dd D x) : ∀ k, Dd D (cum c d x k)
  | 0 => Dd.int D 0
  | k + 1 => by
    unfold cum
    refine (cum_dd h k).add ?_
    have := (clq_dd (at_ c k) (at_ c (k + 1)) h).muli (at_ d k)
    rwa [Rat.mul_comm] at this
theorem cum_len (hG : Ck.Good len c d) : ∀ k, k ≤ d.length → cum c d (len : Rat) k = ((tot c d k : Int) : Rat)
  | 0, _ => rfl
  | k + 1, hk => by
    have h1 := cast_lt (hG.step k (by omega)).1
    have h2 := cast_le (show at_ c (k + 1) ≤ len by
      have := hG.mono (k + 1) d.length (by omega) (Nat.le_refl _)
      have := hG.last
      omega)
    unfold cum tot
    rw [cum_len hG k (by omega), clq_high h2 h1, Rat.intCast_add, Rat.intCast_mul, Rat.intCast_sub]
/-- What lies before a point is at most all. -/
theorem cum_bd (hG : Ck.Good len c d) {x : Rat} (h0 : 0 ≤ x) (h1 : x ≤ (len : Rat)) (k : Nat) (hk : k ≤ d.length) : 0 ≤ cum c d x k ∧ cum c d x k ≤ ((12000 : Int) : Rat) := by
  have a := cum_mono hG h0 k hk
  rw [cum_low hG Rat.le_refl k hk] at a
  have b := cum_mono hG h1 k hk
  rw [cum_len hG k hk] at b
  have t := (tot_bd hG k hk).2
  have l1 := hG.len1
  have m := hG.mono k d.length hk (Nat.le_refl _)
  have := hG.last
  exact ⟨a, Rat.le_trans b (cast_le (by omega))⟩
end
/-- Half of the total. -/
def hf (c : CkD) : Int × Int × Int := Rp.makeS (tot c.2.1 c.2.2 c.2.2.length) 2
end Ch
end Go.Proofs.YtpcdggkajindbaaGreat

