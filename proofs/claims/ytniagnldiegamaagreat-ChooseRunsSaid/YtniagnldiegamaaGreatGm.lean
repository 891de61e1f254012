/- What a cake is worth between two whole numbers: plain mathematics. Cut and choose: the cutter's mark and the chooser's value are never out of range. Plain mathematics. Rounds of the last diminisher: marks and values at points with small denominators are never out of range. Plain mathematics. -/
import Derived.Test.YtniagnldiegamaaGreatGg
import Derived.Test.YtniagnldiegamaaGreatGj
import Derived.Test.YtniagnldiegamaaGreatHy
namespace Go.Proofs.YtniagnldiegamaaGreat
namespace Ck
end Ck
end Go.Proofs.YtniagnldiegamaaGreat
/- The total of a cake: the value of all of it; at least 1. Plain mathematics. -/
namespace Go.Proofs.YtniagnldiegamaaGreat
namespace Ck
theorem tot_mono {len : Int} {c d : List Int} (hG : Good len c d) (k : Nat) : ∀ t, k + t ≤ d.length → tot c d k ≤ tot c d (k + t)
  | 0, _ => Int.le_refl _
  | t + 1, ht => by
    have ih := tot_mono hG k t (by omega); have hst := hG.step (k + t) (by omega)
    show _ ≤ tot c d (k + t) + at_ d (k + t) * (at_ c (k + t + 1) - at_ c (k + t))
    have := Int.mul_nonneg hst.2.1 (show 0 ≤ at_ c (k + t + 1) - at_ c (k + t) by omega)
    omega
theorem tot_pos {len : Int} {c d : List Int} (hG : Good len c d) : 1 ≤ tot c d d.length := by
  have hs := hG.some_
  unfold wanted at hs
  rw [List.any_eq_true] at hs; obtain ⟨x, hx, hp⟩ := hs; obtain ⟨j, hj, rfl⟩ := List.mem_iff_getElem.1 hx; rw [decide_eq_true_iff] at hp; have hst := hG.step j hj
  have h1 : 1 ≤ at_ d j := by rw [at_lt hj]; omega
  have h2 := tot_mono hG (j + 1) (d.length - (j + 1)) (by omega); rw [show j + 1 + (d.length - (j + 1)) = d.length by omega] at h2; have h3 := (tot_bd hG j (by omega)).1; have h4 : tot c d (j + 1) = tot c d j + at_ d j * (at_ c (j + 1) - at_ c j) := rfl; have h5 := Int.mul_le_mul h1 (show 1 ≤ at_ c (j + 1) - at_ c j by omega) (by decide) (by omega)
  omega
end Ck
end Go.Proofs.YtniagnldiegamaaGreat
/- The total of a part is what the cake is worth there: plain mathematics. -/
namespace Go.Proofs.YtniagnldiegamaaGreat
namespace Ck
end Ck
end Go.Proofs.YtniagnldiegamaaGreat
namespace Go.Proofs.YtniagnldiegamaaGreat
namespace Ch
open Ck
/-- A number of which D times is a whole number. -/
def Dd (D : Int) (x : Rat) : Prop := ∃ M : Int, x * (D : Rat) = (M : Rat)
theorem Dd.int (D n : Int) : Dd D (n : Rat) := ⟨n * D, (Rat.intCast_mul n D).symm⟩
theorem Dd.add {D : Int} {x y : Rat} : Dd D x → Dd D y → Dd D (x + y)
  | ⟨a, ha⟩, ⟨b, hb⟩ => ⟨a + b, by rw [Rat.intCast_add, ← ha, ← hb]; grind⟩
theorem Dd.sub {D : Int} {x y : Rat} : Dd D x → Dd D y → Dd D (x - y)
  | ⟨a, ha⟩, ⟨b, hb⟩ => ⟨a - b, by rw [Rat.intCast_sub, ← ha, ← hb]; grind⟩
theorem Dd.muli {D : Int} {x : Rat} (n : Int) : Dd D x → Dd D (x * (n : Rat))
  | ⟨a, ha⟩ => ⟨a * n, by rw [Rat.intCast_mul, ← ha]; grind⟩
theorem Dd.up {D : Int} {x : Rat} (k : Int) : Dd D x → Dd (D * k) x
  | ⟨a, ha⟩ => ⟨a * k, by rw [Rat.intCast_mul, Rat.intCast_mul, ← ha]; grind⟩
theorem Dd.divi {D : Int} {x : Rat} {k : Int} (hk : ((k : Int) : Rat) ≠ 0) : Dd D x → Dd (D * k) (x / (k : Rat))
  | ⟨a, ha⟩ => ⟨a, by
    rw [Rat.intCast_mul, ← ha]; have := Rat.div_mul_cancel (a := x) hk
    grind⟩
theorem ofQ_dd {D : Int} {x : Rat} (h : Dd D x) (d1 : 1 ≤ D) (d2 : D ≤ 1000000) (x0 : ((-1000000000 : Int) : Rat) ≤ x) (x1 : x ≤ ((1000000000 : Int) : Rat)) : (Rp.ofQ x).2.2 = 0 := by
  have key : x.num.natAbs ≤ 1000000000000000000 ∧ ((x.den : Nat) : Int).natAbs ≤ 1000000000000000000 := by
    obtain ⟨M, hM⟩ := h
    have h2 : ((x.den : Int) : Rat) ≠ 0 := by
      have h0 := Rat.intCast_lt_intCast.2 (show (0 : Int) < (x.den : Int) from Int.natCast_pos.2 x.den_pos); intro h; rw [h] at h0; exact absurd h0 (by decide)
    have e : x * ((x.den : Int) : Rat) = (x.num : Rat) := by
      have h1 := Rat.num_divInt_den x; rw [Rat.divInt_eq_div] at h1; have h3 := Rat.div_mul_cancel (a := (x.num : Rat)) h2; rw [h1] at h3; exact h3
    have hi : x.num * D = M * (x.den : Int) := by
      rw [← Rat.intCast_inj, Rat.intCast_mul, Rat.intCast_mul, ← hM, ← e]
      grind
    have hd : x.den ∣ D.natAbs := by
      refine Nat.Coprime.dvd_of_dvd_mul_left (Nat.Coprime.symm x.reduced) ?_; rw [← Int.natAbs_mul, hi, Int.natAbs_mul]; exact Nat.dvd_mul_left _ _
    have hle := Nat.le_of_dvd (by omega) hd; have hp : ((0 : Int) : Rat) ≤ ((x.den : Int) : Rat) := Rat.intCast_le_intCast.2 (Int.natCast_nonneg _); have g1 := Rat.mul_le_mul_of_nonneg_right x1 hp; have g0 := Rat.mul_le_mul_of_nonneg_right x0 hp; rw [e, ← Rat.intCast_mul, Rat.intCast_le_intCast] at g1 g0
    omega
  unfold Rp.ofQ Rp.low
  rw [if_pos key]
theorem c0 : ((0 : Int) : Rat) = 0 := rfl
/-- A product with a density. -/
theorem mul_bd {t : Rat} {k B : Int} (k0 : 0 ≤ k) (k1 : k ≤ 12) (b0 : 0 ≤ B) (t0 : -((B : Int) : Rat) ≤ t) (t1 : t ≤ ((B : Int) : Rat)) : ((-(12 * B) : Int) : Rat) ≤ t * (k : Rat) ∧ t * (k : Rat) ≤ ((12 * B : Int) : Rat) := by
  have hk := cast_le k0; have g1 := Rat.mul_le_mul_of_nonneg_right t1 hk; have g0 := Rat.mul_le_mul_of_nonneg_right t0 hk
  have hk2 : B * k ≤ 12 * B := by
    have := Int.mul_le_mul_of_nonneg_left k1 b0; rw [Int.mul_comm 12 B]; exact this
  have g2 := cast_le hk2; rw [Rat.intCast_mul] at g2; have g3 : ((-(12 * B) : Int) : Rat) = -((12 * B : Int) : Rat) := Rat.intCast_neg _; rw [g3]
  constructor <;> grind
theorem wthS_dd {D n d m c k : Int} (h : Rp.Ok n d) (h2 : Rp.Ok m c) (a : Dd D (Rp.q n d)) (b : Dd D (Rp.q m c)) (d1 : 1 ≤ D) (d2 : D ≤ 1000000) (a0 : 0 ≤ Rp.q n d) (a1 : Rp.q n d ≤ ((1000 : Int) : Rat)) (b0 : 0 ≤ Rp.q m c) (b1 : Rp.q m c ≤ ((1000 : Int) : Rat)) (k0 : 0 ≤ k) (k1 : k ≤ 12) :
    (wthS n d m c k).2.2 = 0 := by
  have e1 : ((-1000000000 : Int) : Rat) ≤ Rp.q m c - Rp.q n d := by
    have := cast_le (show (-1000000000 : Int) ≤ -1000 by decide); have e := Rat.intCast_neg 1000
    grind
  have e2 : Rp.q m c - Rp.q n d ≤ ((1000000000 : Int) : Rat) := by
    have := cast_le (show (1000 : Int) ≤ 1000000000 by decide)
    grind
  have hs : (Rp.subS m c n d).2.2 = 0 := by
    rw [Rp.subS_ok h2 h]; exact ofQ_dd (b.sub a) d1 d2 e1 e2
  have hs' := Rp.ofQ_cases (Rp.q m c - Rp.q n d); rw [← Rp.subS_ok h2 h] at hs'
  unfold wthS
  rw [if_pos hs]
  rcases hs' with ⟨_, hok, hq⟩ | e
  · rw [Rp.mulS_ok hok (Rp.Ok_one (by omega) (by omega)), hq, Rp.q_one]
    have g := mul_bd (t := Rp.q m c - Rp.q n d) (B := 1000) k0 k1 (by decide) (by grind) (by grind); refine ofQ_dd ((b.sub a).muli k) d1 d2 (Rat.le_trans (cast_le (by decide)) g.1) (Rat.le_trans g.2 (cast_le (by decide)))
  · rw [e] at hs
    exact absurd hs (by decide)
section
variable {len : Int} {c d : List Int}
theorem clq_dd {D : Int} {x : Rat} (lo hi : Int) (h : Dd D x) : Dd D (clq x (lo : Rat) (hi : Rat)) := by
  unfold clq
  split
  · exact Dd.int D 0
  · split
    · exact (Dd.int D hi).sub (Dd.int D lo)
    · exact h.sub (Dd.int D lo)
theorem cum_dd {D : Int} {x : Rat} (h : Dd D x) : ∀ k, Dd D (cum c d x k)
  | 0 => Dd.int D 0
  | k + 1 => by
    unfold cum
    refine (cum_dd h k).add ?_; have := (clq_dd (at_ c k) (at_ c (k + 1)) h).muli (at_ d k)
    rwa [Rat.mul_comm] at this
theorem cum_len (hG : Ck.Good len c d) : ∀ k, k ≤ d.length → cum c d (len : Rat) k = ((tot c d k : Int) : Rat)
  | 0, _ => rfl
  | k + 1, hk => by
    have h1 := cast_lt (hG.step k (by omega)).1
    have h2 := cast_le (show at_ c (k + 1) ≤ len by
      have := hG.mono (k + 1) d.length (by omega) (Nat.le_refl _); have := hG.last
      omega)
    unfold cum tot
    rw [cum_len hG k (by omega), clq_high h2 h1, Rat.intCast_add, Rat.intCast_mul, Rat.intCast_sub]
/-- What lies before a point is at most all. -/
theorem cum_bd (hG : Ck.Good len c d) {x : Rat} (h0 : 0 ≤ x) (h1 : x ≤ (len : Rat)) (k : Nat) (hk : k ≤ d.length) : 0 ≤ cum c d x k ∧ cum c d x k ≤ ((12000 : Int) : Rat) := by
  have a := cum_mono hG h0 k hk; rw [cum_low hG Rat.le_refl k hk] at a; have b := cum_mono hG h1 k hk; rw [cum_len hG k hk] at b; have t := (tot_bd hG k hk).2; have l1 := hG.len1; have m := hG.mono k d.length hk (Nat.le_refl _); have := hG.last; exact ⟨a, Rat.le_trans b (cast_le (by omega))⟩
theorem vgo_dd {D : Int} (hG : Ck.Good len c d) {n2 d2 : Int} (h2 : Rp.Ok n2 d2) (dd : Dd D (Rp.q n2 d2)) (d1 : 1 ≤ D) (e2 : D ≤ 1000000) (p0 : 0 ≤ Rp.q n2 d2) (p1 : Rp.q n2 d2 ≤ (len : Rat)) : ∀ k, k ≤ d.length → (vgo c d 0 1 n2 d2 k).2.2 = 0
  | 0, _ => rfl
  | k + 1, hk => by
    have e := vgo_dd hG h2 dd d1 e2 p0 p1 k (by omega); have o0 : Rp.Ok 0 1 := Rp.Ok_one (by decide) (by decide); have q0 : Rp.q 0 1 = 0 := Rp.q_one 0; have hv := vgo_is hG o0 h2 (by rw [q0]; exact p0) k (by omega); have hst := hG.step k (by omega); have r1 := hG.range k (by omega); have r2 := hG.range (k + 1) (by omega); have hl1 := cast_le hG.len1; have o1 : Rp.Ok (at_ c k) 1 := Rp.Ok_one (by have := hG.len1; omega) (by have := hG.len1; omega); have o2 : Rp.Ok (at_ c (k + 1)) 1 := Rp.Ok_one (by have := hG.len1; omega) (by have := hG.len1; omega); obtain ⟨m1, m2⟩ := mxS_ok o0 o1; obtain ⟨m3, m4⟩ := mnS_ok h2 o2; rw [q0, Rp.q_one] at m2; rw [Rp.q_one] at m4; have b1 := cast_le r1.1; have b2 := cast_le r1.2; have b3 := cast_le r2.1; have b4 := cast_le r2.2
    have g1 : Dd D (Rp.q (mxS 0 1 (at_ c k) 1).1 (mxS 0 1 (at_ c k) 1).2) := by
      rw [m2]
      split
      · exact Dd.int _ _
      · exact Dd.int D 0
    have g2 : Dd D (Rp.q (mnS n2 d2 (at_ c (k + 1)) 1).1 (mnS n2 d2 (at_ c (k + 1)) 1).2) := by
      rw [m4]
      split
      · exact Dd.int _ _
      · exact dd
    have w := wthS_dd (k := at_ d k) m1 m3 g1 g2 d1 e2 (by rw [m2]; grind) (by rw [m2]; grind) (by rw [m4]; grind) (by rw [m4]; grind) hst.2.1 hst.2.2; have hw := wthS_is m1 m3 (k := at_ d k) (by omega) (by omega); have hx := mul_bd (t := Rp.q (mnS n2 d2 (at_ c (k + 1)) 1).1 (mnS n2 d2 (at_ c (k + 1)) 1).2 - Rp.q (mxS 0 1 (at_ c k) 1).1 (mxS 0 1 (at_ c k) 1).2) (k := at_ d k) (B := 1000) hst.2.1 hst.2.2 (by decide) (by rw [m2, m4]; grind) (by rw [m2, m4]; grind); have hy := cum_bd hG p0 p1 k (by omega)
    unfold vgo
    rw [if_neg (by rw [e]; simp)]
    split
    · exact e
    · rw [if_neg (by rw [w]; simp)]
      rcases hw with ⟨_, w2, w3⟩ | hw
      · rcases hv with ⟨_, hok, hq⟩ | hv
        · rw [Rp.addS_ok hok w2, w3, hq, q0, cum_low hG Rat.le_refl k (by omega)]
          have a1 := cast_le (show (-1000000000 : Int) ≤ -(12 * 1000) by decide); have a2 := cast_le (show (12 * 1000 + 12000 : Int) ≤ 1000000000 by decide); rw [Rat.intCast_add] at a2; refine ofQ_dd (((cum_dd dd k).sub (Dd.int D 0)).add ((g2.sub g1).muli _)) d1 e2 ?_ ?_
          · grind
          · grind
        · rw [hv] at e
          exact absurd e (by decide)
      · rw [hw] at w
        exact absurd w (by decide)
theorem mgo_dd (hG : Ck.Good len c d) : ∀ f k, f + k = d.length → ∀ l1 l2, Rp.Ok l1 l2 → Dd 2 (Rp.q l1 l2) → 0 ≤ Rp.q l1 l2 → Rp.q l1 l2 ≤ ((12000 : Int) : Rat) →
    ((mgo len c d 0 1 f k l1 l2).2.2 = 0 ∧ ∃ D : Int, 1 ≤ D ∧ D ≤ 24 ∧ Dd D (Rp.q (mgo len c d 0 1 f k l1 l2).1 (mgo len c d 0 1 f k l1 l2).2.1)) ∨ mgo len c d 0 1 f k l1 l2 = (0, 0, 6)
  | 0, _, _, _, _, _, _, _, _ => .inr rfl
  | f + 1, k, hk, l1, l2, hok, dd, h0, h1 => by
    have ih := mgo_dd hG f (k + 1) (by omega); have o0 : Rp.Ok 0 1 := Rp.Ok_one (by decide) (by decide); have q0 : Rp.q 0 1 = 0 := Rp.q_one 0; have hst := hG.step k (by omega); have r1 := hG.range k (by omega); have r2 := hG.range (k + 1) (by omega); have hl1 := cast_le hG.len1; have hl0 := cast_le hG.len0; have o1 : Rp.Ok (at_ c k) 1 := Rp.Ok_one (by have := hG.len1; omega) (by have := hG.len1; omega); have o2 : Rp.Ok (at_ c (k + 1)) 1 := Rp.Ok_one (by have := hG.len1; omega) (by have := hG.len1; omega); have o3 : Rp.Ok len 1 := Rp.Ok_one (by have := hG.len0; omega) (by have := hG.len1; omega); obtain ⟨m1, m2⟩ := mxS_ok o0 o1; obtain ⟨m3, m4⟩ := mnS_ok o3 o2; rw [q0, Rp.q_one] at m2; rw [Rp.q_one, Rp.q_one] at m4; have b1 := cast_le r1.1; have b2 := cast_le r1.2; have b3 := cast_le r2.1; have b4 := cast_le r2.2; rw [c0] at b1 b3; have z1 : ((0 : Int) : Rat) ≤ ((1 : Int) : Rat) := cast_le (by decide); rw [c0] at z1
    have g1 : Dd 2 (Rp.q (mxS 0 1 (at_ c k) 1).1 (mxS 0 1 (at_ c k) 1).2) := by
      rw [m2]
      split
      · exact Dd.int _ _
      · exact Dd.int 2 0
    have g2 : Dd 2 (Rp.q (mnS len 1 (at_ c (k + 1)) 1).1 (mnS len 1 (at_ c (k + 1)) 1).2) := by
      rw [m4]
      split <;> exact Dd.int _ _
    have w := wthS_dd (k := at_ d k) m1 m3 g1 g2 (by decide) (by decide) (by rw [m2]; grind) (by rw [m2]; grind) (by rw [m4]; grind) (by rw [m4]; grind) hst.2.1 hst.2.2; have hw := wthS_is m1 m3 (k := at_ d k) (by omega) (by omega); have hx := mul_bd (t := Rp.q (mnS len 1 (at_ c (k + 1)) 1).1 (mnS len 1 (at_ c (k + 1)) 1).2 - Rp.q (mxS 0 1 (at_ c k) 1).1 (mxS 0 1 (at_ c k) 1).2) (k := at_ d k) (B := 1000) hst.2.1 hst.2.2 (by decide) (by rw [m2, m4]; grind) (by rw [m2, m4]; grind)
    have bg1 : Rp.q (mxS 0 1 (at_ c k) 1).1 (mxS 0 1 (at_ c k) 1).2 ≤ ((1000 : Int) : Rat) := by rw [m2]; grind
    have bg0 : 0 ≤ Rp.q (mxS 0 1 (at_ c k) 1).1 (mxS 0 1 (at_ c k) 1).2 := by rw [m2]; grind
    unfold mgo
    generalize mxS 0 1 (at_ c k) 1 = bg at *
    generalize mnS len 1 (at_ c (k + 1)) 1 = en at *
    by_cases hz : at_ d k = 0 ∨ ¬ Rp.q bg.1 bg.2 < Rp.q en.1 en.2
    · rw [if_pos hz]
      exact ih l1 l2 hok dd h0 h1
    · rw [if_neg hz, if_neg (by rw [w]; simp)]
      have hd1 : 1 ≤ at_ d k := by omega
      rcases hw with ⟨_, w2, w3⟩ | hw
      · by_cases hle : ¬ Rp.q (wthS bg.1 bg.2 en.1 en.2 (at_ d k)).1 (wthS bg.1 bg.2 en.1 en.2 (at_ d k)).2.1 < Rp.q l1 l2
        · rw [if_pos hle]
          have hkc := cast_le hd1
          have hk0 : ((at_ d k : Int) : Rat) ≠ 0 := by
            have := cast_lt (show (0 : Int) < at_ d k by omega); intro e0; rw [e0] at this; exact absurd this (by decide)
          have dv := dd.divi hk0; have hb := Rat.div_mul_cancel (a := Rp.q l1 l2) hk0
          have v0 : 0 ≤ Rp.q l1 l2 / ((at_ d k : Int) : Rat) := by
            rcases lt_or (Rp.q l1 l2 / ((at_ d k : Int) : Rat)) 0 with g | g
            · have := Rat.mul_le_mul_of_nonneg_right (c := ((at_ d k : Int) : Rat)) (show Rp.q l1 l2 / ((at_ d k : Int) : Rat) ≤ 0 from Rat.le_of_lt g) (Rat.le_trans z1 hkc)
              have h3 : Rp.q l1 l2 = 0 := by grind
              rw [h3] at g
              have : (0 : Rat) / ((at_ d k : Int) : Rat) = 0 := by grind
              rw [this] at g; exact absurd g (by decide)
            · exact g
          have v1 : Rp.q l1 l2 / ((at_ d k : Int) : Rat) ≤ Rp.q l1 l2 := by
            have := Rat.mul_le_mul_of_nonneg_left hkc v0; rw [hb] at this; have e1 : ((1 : Int) : Rat) = 1 := rfl
            grind
          have z2 := cast_le (show (-1000000000 : Int) ≤ 0 by decide); have z3 := cast_le (show (12000 + 1000 : Int) ≤ 1000000000 by decide); rw [c0] at z2; rw [Rat.intCast_add] at z3; have z4 : ((0 : Int) : Rat) ≤ ((1000 : Int) : Rat) := cast_le (by decide); rw [c0] at z4
          have D1 : (1 : Int) ≤ 2 * at_ d k := by omega
          have D2 : 2 * at_ d k ≤ 24 := by omega
          have hs : (Rp.divS l1 l2 (at_ d k) 1).2.2 = 0 := by
            rw [Rp.divS_ok hok (Rp.Ok_one (by omega) (by omega)) (by omega), Rp.q_one]; exact ofQ_dd dv D1 (by omega) (by grind) (by grind)
          have hs' := Rp.ofQ_cases (Rp.q l1 l2 / Rp.q (at_ d k) 1); rw [← Rp.divS_ok hok (Rp.Ok_one (by omega) (by omega)) (by omega), Rp.q_one] at hs'
          unfold rchS
          rw [if_pos hs]
          rcases hs' with ⟨_, ok2, hq2⟩ | e
          · have gs : Dd (2 * at_ d k) (Rp.q bg.1 bg.2 + Rp.q l1 l2 / ((at_ d k : Int) : Rat)) := (g1.up _).add dv
            have ht : (Rp.addS bg.1 bg.2 (Rp.divS l1 l2 (at_ d k) 1).1 (Rp.divS l1 l2 (at_ d k) 1).2.1).2.2 = 0 := by
              rw [Rp.addS_ok m1 ok2, hq2]; exact ofQ_dd gs D1 (by omega) (by grind) (by grind)
            have ht' := Rp.ofQ_cases (Rp.q bg.1 bg.2 + Rp.q (Rp.divS l1 l2 (at_ d k) 1).1 (Rp.divS l1 l2 (at_ d k) 1).2.1); rw [← Rp.addS_ok m1 ok2] at ht'; refine .inl ⟨ht, 2 * at_ d k, D1, D2, ?_⟩
            rcases ht' with ⟨_, _, hq3⟩ | e
            · rw [hq3, hq2]
              exact gs
            · rw [e] at ht
              exact absurd ht (by decide)
          · rw [e] at hs
            exact absurd hs (by decide)
        · rw [if_neg hle]
          rw [Decidable.not_not] at hle
          have ds : Dd 2 (Rp.q l1 l2 - Rp.q (wthS bg.1 bg.2 en.1 en.2 (at_ d k)).1 (wthS bg.1 bg.2 en.1 en.2 (at_ d k)).2.1) := by
            rw [w3]; exact dd.sub ((g2.sub g1).muli _)
          have hbe : 0 ≤ Rp.q (wthS bg.1 bg.2 en.1 en.2 (at_ d k)).1 (wthS bg.1 bg.2 en.1 en.2 (at_ d k)).2.1 := by
            rw [w3]; have hlt := (not_or.1 hz).2; rw [Decidable.not_not] at hlt; have hk0 := cast_le hst.2.1; exact Rat.mul_nonneg (by grind) hk0
          have z2 := cast_le (show (-1000000000 : Int) ≤ 0 by decide); have z3 := cast_le (show (12000 : Int) ≤ 1000000000 by decide); rw [c0] at z2
          have hs : (Rp.subS l1 l2 (wthS bg.1 bg.2 en.1 en.2 (at_ d k)).1 (wthS bg.1 bg.2 en.1 en.2 (at_ d k)).2.1).2.2 = 0 := by
            rw [Rp.subS_ok hok w2]; exact ofQ_dd ds (by decide) (by decide) (by grind) (by grind)
          have hs' := Rp.ofQ_cases (Rp.q l1 l2 - Rp.q (wthS bg.1 bg.2 en.1 en.2 (at_ d k)).1 (wthS bg.1 bg.2 en.1 en.2 (at_ d k)).2.1); rw [← Rp.subS_ok hok w2] at hs'; rw [if_neg (by rw [hs]; simp)]
          rcases hs' with ⟨_, ok3, hq3⟩ | e
          · exact ih _ _ ok3 (by rw [hq3]; exact ds) (by rw [hq3]; grind) (by rw [hq3]; grind)
          · rw [e] at hs
            exact absurd hs (by decide)
      · rw [hw] at w
        exact absurd w (by decide)
end
/-- Half of the total. -/
def hf (c : CkD) : Int × Int × Int := Rp.makeS (tot c.2.1 c.2.2 c.2.2.length) 2
theorem hf_ok {c : CkD} (hc : Ak.ckD c = 0) : (hf c).2.2 = 0 ∧ Rp.Ok (hf c).1 (hf c).2.1 ∧ Rp.q (hf c).1 (hf c).2.1 * 2 = ((tot c.2.1 c.2.2 c.2.2.length : Int) : Rat) ∧ Dd 2 (Rp.q (hf c).1 (hf c).2.1) := by
  have hG := chk_good (show Ck.chk c.1 c.2.1 c.2.2 = 0 from hc); have t0 := (tot_bd hG _ (Nat.le_refl _)).1; have t1 := (tot_bd hG _ (Nat.le_refl _)).2; have l1 := hG.len1; have la := hG.last
  generalize hT : tot c.2.1 c.2.2 c.2.2.length = T at *
  have e2 : ((2 : Int) : Rat) ≠ 0 := by decide
  have hd : Dd 2 ((T : Rat) / ((2 : Int) : Rat)) := by
    have := (Dd.int 1 T).divi (k := 2) e2; exact this
  have hm := Rat.div_mul_cancel (a := (T : Rat)) e2; have e3 : ((2 : Int) : Rat) = 2 := rfl; have hq : Rp.q T 2 = (T : Rat) / ((2 : Int) : Rat) := Rat.divInt_eq_div _ _; have a0 := cast_le t0; have a1 := cast_le (show T ≤ 12000 by omega); have z2 := cast_le (show (-1000000000 : Int) ≤ 0 by decide); have z3 := cast_le (show (12000 : Int) ≤ 1000000000 by decide); rw [c0] at z2 a0; have hz : (Rp.ofQ ((T : Rat) / ((2 : Int) : Rat))).2.2 = 0 := ofQ_dd hd (by decide) (by decide) (by grind) (by grind); have hc := Rp.ofQ_cases ((T : Rat) / ((2 : Int) : Rat))
  unfold hf Rp.makeS
  rw [if_neg (by decide), hT, hq]
  rcases hc with ⟨_, ok, hv⟩ | e
  · refine ⟨hz, ok, ?_, ?_⟩
    · rw [hv]
      rw [e3] at hm ⊢; exact hm
    · rw [hv]
      exact hd
  · rw [e] at hz
    exact absurd hz (by decide)
/-- The mark for half of the total. -/
theorem mark_half {c : CkD} (hc : Ak.ckD c = 0) : ∃ x y, Ak.kS c 0 1 (hf c).1 (hf c).2.1 = (x, y, 0) ∧ Ck.pt c.1 x y = true ∧ ∃ D : Int, 1 ≤ D ∧ D ≤ 24 ∧ Dd D (Rp.q x y) := by
  have hG := chk_good (show Ck.chk c.1 c.2.1 c.2.2 = 0 from hc); obtain ⟨h0, h1, h2, h3⟩ := hf_ok hc
  generalize hf c = h at *
  have tp := tot_pos hG; have t1 := (tot_bd hG _ (Nat.le_refl _)).2; have l1 := hG.len1; have l0 := hG.len0; have la := hG.last; have cl := cum_len hG _ (Nat.le_refl _)
  generalize hT : tot c.2.1 c.2.2 c.2.2.length = T at *
  have a0 := cast_le tp; have a1 := cast_le (show T ≤ 12000 by omega); have o0 : Rp.Ok 0 1 := Rp.Ok_one (by decide) (by decide); have q0 : Rp.q 0 1 = 0 := Rp.q_one 0; have e1 : ((1 : Int) : Rat) = 1 := rfl
  have hp : 0 < Rp.q h.1 h.2.1 := by grind
  have hn : 0 ≤ h.1 := (q_nonneg h1).1 (Rat.le_of_lt hp)
  have hz : h.1 ≠ 0 := fun e => by
    have := (q_zero h1).2 e; rw [this] at hp; exact absurd hp (by decide)
  have p1 : Ck.pt c.1 0 1 = true := decide_eq_true ⟨o0, Int.le_refl 0, by omega⟩
  have hk : Ak.kS c 0 1 h.1 h.2.1 = mgo c.1 c.2.1 c.2.2 0 1 c.2.2.length 0 h.1 h.2.1 := by
    unfold Ak.kS
    rw [if_pos ⟨p1, h1, hn⟩]
    unfold mrk
    rw [if_neg hz]
  have hl := cast_le l0; have hm := mrk_is hG o0 (by rw [q0]; grind) h1 hn
  unfold mrk at hm
  rw [if_neg hz, q0] at hm; have hg := mgo_dd hG c.2.2.length 0 (by omega) h.1 h.2.1 h1 h3 (Rat.le_of_lt hp) (by grind); rw [hk]
  generalize mgo c.1 c.2.1 c.2.2 0 1 c.2.2.length 0 h.1 h.2.1 = r at *
  obtain ⟨x, y, e⟩ := r
  rcases hm with ⟨m0, m1, m2, m3, _⟩ | ⟨_, m⟩ | m
  · dsimp only at m0 m1 m2 m3
    subst m0
    rcases hg with ⟨_, D, d1, d2, d3⟩ | hg
    · refine ⟨x, y, rfl, decide_eq_true ⟨m1, (q_nonneg m1).1 m2, ?_⟩, D, d1, d2, d3⟩
      have hy : (0 : Int) < y := by have := m1.1; omega
      have hyc := cast_lt hy; have hq : Rp.q x y = (x : Rat) / (y : Rat) := Rat.divInt_eq_div _ _
      have hy0 : ((y : Int) : Rat) ≠ 0 := by
        intro e0; rw [e0] at hyc; exact absurd hyc (by decide)
      have hc2 := Rat.div_mul_cancel (a := (x : Rat)) hy0; have := Rat.mul_le_mul_of_nonneg_right m3 (Rat.le_of_lt hyc); rw [hq, hc2, ← Rat.intCast_mul, Rat.intCast_le_intCast] at this; exact this
    · simp at hg
  · rw [cl, cum_low hG Rat.le_refl _ (Nat.le_refl _)] at m
    grind
  · rw [m] at hg
    rcases hg with ⟨hg, _⟩ | hg
    · exact absurd hg (by decide)
    · simp at hg
/-- The value up to a point with a small denominator. -/
theorem value_at {c : CkD} (hc : Ak.ckD c = 0) {x y D : Int} (hp : Ck.pt c.1 x y = true) (d1 : 1 ≤ D) (d2 : D ≤ 24) (dd : Dd D (Rp.q x y)) : ∃ v1 v2, Ak.vS c 0 1 x y = (v1, v2, 0) ∧ Rp.Ok v1 v2 := by
  have hG := chk_good (show Ck.chk c.1 c.2.1 c.2.2 = 0 from hc); have l0 := hG.len0; have o0 : Rp.Ok 0 1 := Rp.Ok_one (by decide) (by decide); have q0 : Rp.q 0 1 = 0 := Rp.q_one 0; have p1 : Ck.pt c.1 0 1 = true := decide_eq_true ⟨o0, Int.le_refl 0, by omega⟩; obtain ⟨ok, x0, _⟩ := pt_spec hp; have g0 := (q_nonneg ok).2 x0; have hle := Ak.pt_le hG.len0 hG.len1 hp; have hv := vgo_dd hG ok dd d1 (by omega) g0 hle _ (Nat.le_refl _); have ho := vgo_ok hG o0 ok (by rw [q0]; exact g0) hv
  have hs : Ak.vS c 0 1 x y = vgo c.2.1 c.2.2 0 1 x y c.2.2.length := by
    unfold Ak.vS
    rw [if_pos ⟨p1, hp, by rw [q0]; exact Rat.not_lt.2 g0⟩]
  rw [hs]
  generalize vgo c.2.1 c.2.2 0 1 x y c.2.2.length = r at *
  obtain ⟨a, b, e⟩ := r; dsimp only at hv ho; subst hv; exact ⟨a, b, rfl, ho.1⟩
end Ch
end Go.Proofs.YtniagnldiegamaaGreat
namespace Go.Proofs.YtniagnldiegamaaGreat
namespace Ch
open Ck
section
variable {len : Int} {c d : List Int}
end
def tt (c : CkD) : Int := tot c.2.1 c.2.2 c.2.2.length
end Ch
end Go.Proofs.YtniagnldiegamaaGreat

