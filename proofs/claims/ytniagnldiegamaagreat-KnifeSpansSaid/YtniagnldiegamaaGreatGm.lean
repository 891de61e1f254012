/- What a cake is worth between two whole numbers: plain mathematics. Cut and choose: the cutter's mark and the chooser's value are never out of range. Plain mathematics. Rounds of the last diminisher: marks and values at points with small denominators are never out of range. Plain mathematics. -/
import Derived.Test.YtniagnldiegamaaGreatGg
import Derived.Test.YtniagnldiegamaaGreatGj
import Derived.Test.YtniagnldiegamaaGreatHy
namespace Go.Proofs.YtniagnldiegamaaGreat
namespace Ck
end Ck
end Go.Proofs.YtniagnldiegamaaGreat
/- The total of a cake: the value of all of it; at least 1. Plain mathematics. -/
namespace Go.Proofs.YtniagnldiegamaaGreat
namespace Ck
theorem tot_mono {len : Int} {c d : List Int} (hG : Good len c d) (k : Nat) : ∀ t, k + t ≤ d.length → tot c d k ≤ tot c d (k + t)
  | 0, _ => Int.le_refl _
  | t + 1, ht => by
    have ih := tot_mono hG k t (by omega); have hst := hG.step (k + t) (by omega)
    show _ ≤ tot c d (k + t) + at_ d (k + t) * (at_ c (k + t + 1) - at_ c (k + t))
    have := Int.mul_nonneg hst.2.1 (show 0 ≤ at_ c (k + t + 1) - at_ c (k + t) by omega)
    omega
theorem tot_pos {len : Int} {c d : List Int} (hG : Good len c d) : 1 ≤ tot c d d.length := by
  have hs := hG.some_
  unfold wanted at hs
  rw [List.any_eq_true] at hs; obtain ⟨x, hx, hp⟩ := hs; obtain ⟨j, hj, rfl⟩ := List.mem_iff_getElem.1 hx; rw [decide_eq_true_iff] at hp; have hst := hG.step j hj
  have h1 : 1 ≤ at_ d j := by rw [at_lt hj]; omega
  have h2 := tot_mono hG (j + 1) (d.length - (j + 1)) (by omega); rw [show j + 1 + (d.length - (j + 1)) = d.length by omega] at h2; have h3 := (tot_bd hG j (by omega)).1; have h4 : tot c d (j + 1) = tot c d j + at_ d j * (at_ c (j + 1) - at_ c j) := rfl; have h5 := Int.mul_le_mul h1 (show 1 ≤ at_ c (j + 1) - at_ c j by omega) (by decide) (by omega)
  omega
end Ck
end Go.Proofs.YtniagnldiegamaaGreat
/- The total of a part is what the cake is worth there: plain mathematics. -/
namespace Go.Proofs.YtniagnldiegamaaGreat
namespace Ck
end Ck
end Go.Proofs.YtniagnldiegamaaGreat
namespace Go.Proofs.YtniagnldiegamaaGreat
namespace Ch
open Ck
/-- A number of which D times is a whole number. -/
def Dd (D : Int) (x : Rat) : Prop := ∃ M : Int, x * (D : Rat) = (M : Rat)
theorem Dd.int (D n : Int) : Dd D (n : Rat) := ⟨n * D, (Rat.intCast_mul n D).symm⟩
theorem Dd.add {D : Int} {x y : Rat} : Dd D x → Dd D y → Dd D (x + y)
  | ⟨a, ha⟩, ⟨b, hb⟩ => ⟨a + b, by rw [Rat.intCast_add, ← ha, ← hb]; grind⟩
theorem Dd.sub {D : Int} {x y : Rat} : Dd D x → Dd D y → Dd D (x - y)
  | ⟨a, ha⟩, ⟨b, hb⟩ => ⟨a - b, by rw [Rat.intCast_sub, ← ha, ← hb]; grind⟩
theorem Dd.muli {D : Int} {x : Rat} (n : Int) : Dd D x → Dd D (x * (n : Rat))
  | ⟨a, ha⟩ => ⟨a * n, by rw [Rat.intCast_mul, ← ha]; grind⟩
theorem Dd.up {D : Int} {x : Rat} (k : Int) : Dd D x → Dd (D * k) x
  | ⟨a, ha⟩ => ⟨a * k, by rw [Rat.intCast_mul, Rat.intCast_mul, ← ha]; grind⟩
theorem Dd.divi {D : Int} {x : Rat} {k : Int} (hk : ((k : Int) : Rat) ≠ 0) : Dd D x → Dd (D * k) (x / (k : Rat))
  | ⟨a, ha⟩ => ⟨a, by
    rw [Rat.intCast_mul, ← ha]; have := Rat.div_mul_cancel (a := x) hk
    grind⟩
theorem c0 : ((0 : Int) : Rat) = 0 := rfl
/-- A product with a density. -/
theorem mul_bd {t : Rat} {k B : Int} (k0 : 0 ≤ k) (k1 : k ≤ 12) (b0 : 0 ≤ B) (t0 : -((B : Int) : Rat) ≤ t) (t1 : t ≤ ((B : Int) : Rat)) : ((-(12 * B) : Int) : Rat) ≤ t * (k : Rat) ∧ t * (k : Rat) ≤ ((12 * B : Int) : Rat) := by
  have hk := cast_le k0; have g1 := Rat.mul_le_mul_of_nonneg_right t1 hk; have g0 := Rat.mul_le_mul_of_nonneg_right t0 hk
  have hk2 : B * k ≤ 12 * B := by
    have := Int.mul_le_mul_of_nonneg_left k1 b0; rw [Int.mul_comm 12 B]; exact this
  have g2 := cast_le hk2; rw [Rat.intCast_mul] at g2; have g3 : ((-(12 * B) : Int) : Rat) = -((12 * B : Int) : Rat) := Rat.intCast_neg _; rw [g3]
  constructor <;> grind
section
variable {len : Int} {c d : List Int}
theorem cum_len (hG : Ck.Good len c d) : ∀ k, k ≤ d.length → cum c d (len : Rat) k = ((tot c d k : Int) : Rat)
  | 0, _ => rfl
  | k + 1, hk => by
    have h1 := cast_lt (hG.step k (by omega)).1
    have h2 := cast_le (show at_ c (k + 1) ≤ len by
      have := hG.mono (k + 1) d.length (by omega) (Nat.le_refl _); have := hG.last
      omega)
    unfold cum tot
    rw [cum_len hG k (by omega), clq_high h2 h1, Rat.intCast_add, Rat.intCast_mul, Rat.intCast_sub]
end
/-- Half of the total. -/
def hf (c : CkD) : Int × Int × Int := Rp.makeS (tot c.2.1 c.2.2 c.2.2.length) 2
end Ch
end Go.Proofs.YtniagnldiegamaaGreat
namespace Go.Proofs.YtniagnldiegamaaGreat
namespace Ch
open Ck
theorem ofQ_db {D : Int} {x : Rat} (h : Dd D x) (d1 : 1 ≤ D) (d2 : D ≤ 100000000) (x0 : ((-1000000000 : Int) : Rat) ≤ x) (x1 : x ≤ ((1000000000 : Int) : Rat)) : (Rp.ofQ x).2.2 = 0 := by
  have key : x.num.natAbs ≤ 1000000000000000000 ∧ ((x.den : Nat) : Int).natAbs ≤ 1000000000000000000 := by
    obtain ⟨M, hM⟩ := h
    have h2 : ((x.den : Int) : Rat) ≠ 0 := by
      have h0 := Rat.intCast_lt_intCast.2 (show (0 : Int) < (x.den : Int) from Int.natCast_pos.2 x.den_pos); intro h; rw [h] at h0; exact absurd h0 (by decide)
    have e : x * ((x.den : Int) : Rat) = (x.num : Rat) := by
      have h1 := Rat.num_divInt_den x; rw [Rat.divInt_eq_div] at h1; have h3 := Rat.div_mul_cancel (a := (x.num : Rat)) h2; rw [h1] at h3; exact h3
    have hi : x.num * D = M * (x.den : Int) := by
      rw [← Rat.intCast_inj, Rat.intCast_mul, Rat.intCast_mul, ← hM, ← e]
      grind
    have hd : x.den ∣ D.natAbs := by
      refine Nat.Coprime.dvd_of_dvd_mul_left (Nat.Coprime.symm x.reduced) ?_; rw [← Int.natAbs_mul, hi, Int.natAbs_mul]; exact Nat.dvd_mul_left _ _
    have hle := Nat.le_of_dvd (by omega) hd; have hp : ((0 : Int) : Rat) ≤ ((x.den : Int) : Rat) := Rat.intCast_le_intCast.2 (Int.natCast_nonneg _); have g1 := Rat.mul_le_mul_of_nonneg_right x1 hp; have g0 := Rat.mul_le_mul_of_nonneg_right x0 hp; rw [e, ← Rat.intCast_mul, Rat.intCast_le_intCast] at g1 g0
    omega
  unfold Rp.ofQ Rp.low
  rw [if_pos key]
theorem wthS_db {D n d m c k : Int} (h : Rp.Ok n d) (h2 : Rp.Ok m c) (a : Dd D (Rp.q n d)) (b : Dd D (Rp.q m c)) (d1 : 1 ≤ D) (d2 : D ≤ 100000000) (a0 : 0 ≤ Rp.q n d) (a1 : Rp.q n d ≤ ((1000 : Int) : Rat)) (b0 : 0 ≤ Rp.q m c) (b1 : Rp.q m c ≤ ((1000 : Int) : Rat)) (k0 : 0 ≤ k) (k1 : k ≤ 12) :
    (wthS n d m c k).2.2 = 0 := by
  have e1 : ((-1000000000 : Int) : Rat) ≤ Rp.q m c - Rp.q n d := by
    have := cast_le (show (-1000000000 : Int) ≤ -1000 by decide); have e := Rat.intCast_neg 1000
    grind
  have e2 : Rp.q m c - Rp.q n d ≤ ((1000000000 : Int) : Rat) := by
    have := cast_le (show (1000 : Int) ≤ 1000000000 by decide)
    grind
  have hs : (Rp.subS m c n d).2.2 = 0 := by
    rw [Rp.subS_ok h2 h]; exact ofQ_db (b.sub a) d1 d2 e1 e2
  have hs' := Rp.ofQ_cases (Rp.q m c - Rp.q n d); rw [← Rp.subS_ok h2 h] at hs'
  unfold wthS
  rw [if_pos hs]
  rcases hs' with ⟨_, hok, hq⟩ | e
  · rw [Rp.mulS_ok hok (Rp.Ok_one (by omega) (by omega)), hq, Rp.q_one]
    have g := mul_bd (t := Rp.q m c - Rp.q n d) (B := 1000) k0 k1 (by decide) (by grind) (by grind); refine ofQ_db ((b.sub a).muli k) d1 d2 (Rat.le_trans (cast_le (by decide)) g.1) (Rat.le_trans g.2 (cast_le (by decide)))
  · rw [e] at hs
    exact absurd hs (by decide)
section
variable {len : Int} {c d : List Int}
theorem mgo_db {D : Int} (hG : Ck.Good len c d) {n1 d1 : Int} (o0 : Rp.Ok n1 d1) (ds0 : Dd D (Rp.q n1 d1)) (a0 : 0 ≤ Rp.q n1 d1) (a1 : Rp.q n1 d1 ≤ (len : Rat)) (E1 : 1 ≤ D) (E2 : D ≤ 8000000) : ∀ f k, f + k = d.length → ∀ l1 l2, Rp.Ok l1 l2 → Dd D (Rp.q l1 l2) → 0 ≤ Rp.q l1 l2 → Rp.q l1 l2 ≤ ((12000 : Int) : Rat) →
    ((mgo len c d n1 d1 f k l1 l2).2.2 = 0 ∧ ∃ g : Int, 1 ≤ g ∧ g ≤ 12 ∧ Dd (D * g) (Rp.q (mgo len c d n1 d1 f k l1 l2).1 (mgo len c d n1 d1 f k l1 l2).2.1)) ∨ mgo len c d n1 d1 f k l1 l2 = (0, 0, 6)
  | 0, _, _, _, _, _, _, _, _ => .inr rfl
  | f + 1, k, hk, l1, l2, hok, dd, h0, h1 => by
    have ih := mgo_db hG o0 ds0 a0 a1 E1 E2 f (k + 1) (by omega); have hst := hG.step k (by omega); have r1 := hG.range k (by omega); have r2 := hG.range (k + 1) (by omega); have hl1 := cast_le hG.len1; have hl0 := cast_le hG.len0; have o1 : Rp.Ok (at_ c k) 1 := Rp.Ok_one (by have := hG.len1; omega) (by have := hG.len1; omega); have o2 : Rp.Ok (at_ c (k + 1)) 1 := Rp.Ok_one (by have := hG.len1; omega) (by have := hG.len1; omega); have o3 : Rp.Ok len 1 := Rp.Ok_one (by have := hG.len0; omega) (by have := hG.len1; omega); obtain ⟨m1, m2⟩ := mxS_ok o0 o1; obtain ⟨m3, m4⟩ := mnS_ok o3 o2; rw [Rp.q_one] at m2; rw [Rp.q_one, Rp.q_one] at m4; have b1 := cast_le r1.1; have b2 := cast_le r1.2; have b3 := cast_le r2.1; have b4 := cast_le r2.2; rw [c0] at b1 b3; have z1 : ((0 : Int) : Rat) ≤ ((1 : Int) : Rat) := cast_le (by decide); rw [c0] at z1
    have g1 : Dd D (Rp.q (mxS n1 d1 (at_ c k) 1).1 (mxS n1 d1 (at_ c k) 1).2) := by
      rw [m2]
      split
      · exact Dd.int _ _
      · exact ds0
    have g2 : Dd D (Rp.q (mnS len 1 (at_ c (k + 1)) 1).1 (mnS len 1 (at_ c (k + 1)) 1).2) := by
      rw [m4]
      split <;> exact Dd.int _ _
    have w := wthS_db (k := at_ d k) m1 m3 g1 g2 E1 (by omega) (by rw [m2]; grind) (by rw [m2]; grind) (by rw [m4]; grind) (by rw [m4]; grind) hst.2.1 hst.2.2; have hw := wthS_is m1 m3 (k := at_ d k) (by omega) (by omega); have hx := mul_bd (t := Rp.q (mnS len 1 (at_ c (k + 1)) 1).1 (mnS len 1 (at_ c (k + 1)) 1).2 - Rp.q (mxS n1 d1 (at_ c k) 1).1 (mxS n1 d1 (at_ c k) 1).2) (k := at_ d k) (B := 1000) hst.2.1 hst.2.2 (by decide) (by rw [m2, m4]; grind) (by rw [m2, m4]; grind)
    have bg1 : Rp.q (mxS n1 d1 (at_ c k) 1).1 (mxS n1 d1 (at_ c k) 1).2 ≤ ((1000 : Int) : Rat) := by rw [m2]; grind
    have bg0 : 0 ≤ Rp.q (mxS n1 d1 (at_ c k) 1).1 (mxS n1 d1 (at_ c k) 1).2 := by rw [m2]; grind
    unfold mgo
    generalize mxS n1 d1 (at_ c k) 1 = bg at *
    generalize mnS len 1 (at_ c (k + 1)) 1 = en at *
    by_cases hz : at_ d k = 0 ∨ ¬ Rp.q bg.1 bg.2 < Rp.q en.1 en.2
    · rw [if_pos hz]
      exact ih l1 l2 hok dd h0 h1
    · rw [if_neg hz, if_neg (by rw [w]; simp)]
      have hd1 : 1 ≤ at_ d k := by omega
      rcases hw with ⟨_, w2, w3⟩ | hw
      · by_cases hle : ¬ Rp.q (wthS bg.1 bg.2 en.1 en.2 (at_ d k)).1 (wthS bg.1 bg.2 en.1 en.2 (at_ d k)).2.1 < Rp.q l1 l2
        · rw [if_pos hle]
          have hkc := cast_le hd1
          have hk0 : ((at_ d k : Int) : Rat) ≠ 0 := by
            have := cast_lt (show (0 : Int) < at_ d k by omega); intro e0; rw [e0] at this; exact absurd this (by decide)
          have dv := dd.divi hk0; have hb := Rat.div_mul_cancel (a := Rp.q l1 l2) hk0
          have v0 : 0 ≤ Rp.q l1 l2 / ((at_ d k : Int) : Rat) := by
            rcases lt_or (Rp.q l1 l2 / ((at_ d k : Int) : Rat)) 0 with g | g
            · have := Rat.mul_le_mul_of_nonneg_right (c := ((at_ d k : Int) : Rat)) (show Rp.q l1 l2 / ((at_ d k : Int) : Rat) ≤ 0 from Rat.le_of_lt g) (Rat.le_trans z1 hkc)
              have h3 : Rp.q l1 l2 = 0 := by grind
              rw [h3] at g
              have : (0 : Rat) / ((at_ d k : Int) : Rat) = 0 := by grind
              rw [this] at g; exact absurd g (by decide)
            · exact g
          have v1 : Rp.q l1 l2 / ((at_ d k : Int) : Rat) ≤ Rp.q l1 l2 := by
            have := Rat.mul_le_mul_of_nonneg_left hkc v0; rw [hb] at this; have e1 : ((1 : Int) : Rat) = 1 := rfl
            grind
          have z2 := cast_le (show (-1000000000 : Int) ≤ 0 by decide); have z3 := cast_le (show (12000 + 1000 : Int) ≤ 1000000000 by decide); rw [c0] at z2; rw [Rat.intCast_add] at z3; have z4 : ((0 : Int) : Rat) ≤ ((1000 : Int) : Rat) := cast_le (by decide); rw [c0] at z4; have D0 := Int.mul_le_mul_of_nonneg_left (show at_ d k ≤ 12 from hst.2.2) (show 0 ≤ D by omega); have D00 := Int.mul_le_mul_of_nonneg_left hd1 (show 0 ≤ D by omega)
          have D1 : (1 : Int) ≤ D * at_ d k := by omega
          have D2 : D * at_ d k ≤ 100000000 := by omega
          have hs : (Rp.divS l1 l2 (at_ d k) 1).2.2 = 0 := by
            rw [Rp.divS_ok hok (Rp.Ok_one (by omega) (by omega)) (by omega), Rp.q_one]; exact ofQ_db dv D1 D2 (by grind) (by grind)
          have hs' := Rp.ofQ_cases (Rp.q l1 l2 / Rp.q (at_ d k) 1); rw [← Rp.divS_ok hok (Rp.Ok_one (by omega) (by omega)) (by omega), Rp.q_one] at hs'
          unfold rchS
          rw [if_pos hs]
          rcases hs' with ⟨_, ok2, hq2⟩ | e
          · have gs : Dd (D * at_ d k) (Rp.q bg.1 bg.2 + Rp.q l1 l2 / ((at_ d k : Int) : Rat)) := (g1.up _).add dv
            have ht : (Rp.addS bg.1 bg.2 (Rp.divS l1 l2 (at_ d k) 1).1 (Rp.divS l1 l2 (at_ d k) 1).2.1).2.2 = 0 := by
              rw [Rp.addS_ok m1 ok2, hq2]; exact ofQ_db gs D1 D2 (by grind) (by grind)
            have ht' := Rp.ofQ_cases (Rp.q bg.1 bg.2 + Rp.q (Rp.divS l1 l2 (at_ d k) 1).1 (Rp.divS l1 l2 (at_ d k) 1).2.1); rw [← Rp.addS_ok m1 ok2] at ht'; refine .inl ⟨ht, at_ d k, hd1, hst.2.2, ?_⟩
            rcases ht' with ⟨_, _, hq3⟩ | e
            · rw [hq3, hq2]
              exact gs
            · rw [e] at ht
              exact absurd ht (by decide)
          · rw [e] at hs
            exact absurd hs (by decide)
        · rw [if_neg hle]
          rw [Decidable.not_not] at hle
          have ds : Dd D (Rp.q l1 l2 - Rp.q (wthS bg.1 bg.2 en.1 en.2 (at_ d k)).1 (wthS bg.1 bg.2 en.1 en.2 (at_ d k)).2.1) := by
            rw [w3]; exact dd.sub ((g2.sub g1).muli _)
          have hbe : 0 ≤ Rp.q (wthS bg.1 bg.2 en.1 en.2 (at_ d k)).1 (wthS bg.1 bg.2 en.1 en.2 (at_ d k)).2.1 := by
            rw [w3]; have hlt := (not_or.1 hz).2; rw [Decidable.not_not] at hlt; have hk0 := cast_le hst.2.1; exact Rat.mul_nonneg (by grind) hk0
          have z2 := cast_le (show (-1000000000 : Int) ≤ 0 by decide); have z3 := cast_le (show (12000 : Int) ≤ 1000000000 by decide); rw [c0] at z2
          have hs : (Rp.subS l1 l2 (wthS bg.1 bg.2 en.1 en.2 (at_ d k)).1 (wthS bg.1 bg.2 en.1 en.2 (at_ d k)).2.1).2.2 = 0 := by
            rw [Rp.subS_ok hok w2]; exact ofQ_db ds E1 (by omega) (by grind) (by grind)
          have hs' := Rp.ofQ_cases (Rp.q l1 l2 - Rp.q (wthS bg.1 bg.2 en.1 en.2 (at_ d k)).1 (wthS bg.1 bg.2 en.1 en.2 (at_ d k)).2.1); rw [← Rp.subS_ok hok w2] at hs'; rw [if_neg (by rw [hs]; simp)]
          rcases hs' with ⟨_, ok3, hq3⟩ | e
          · exact ih _ _ ok3 (by rw [hq3]; exact ds) (by rw [hq3]; grind) (by rw [hq3]; grind)
          · rw [e] at hs
            exact absurd hs (by decide)
      · rw [hw] at w
        exact absurd w (by decide)
end
/-- What lies before a point. -/
def cu (c : CkD) (x : Rat) : Rat := cum c.2.1 c.2.2 x c.2.2.length
def tt (c : CkD) : Int := tot c.2.1 c.2.2 c.2.2.length
/-- The share of one of n. -/
def sh (n : Int) (c : CkD) : Int × Int × Int := Rp.makeS (tt c) n
def shq (n : Int) (c : CkD) : Rat := Rp.q (sh n c).1 (sh n c).2.1
theorem sh_ok {c : CkD} (hc : Ak.ckD c = 0) {n : Int} (n1 : 1 ≤ n) (n2 : n ≤ 6) : (sh n c).2.2 = 0 ∧ Rp.Ok (sh n c).1 (sh n c).2.1 ∧ shq n c * (n : Rat) = ((tt c : Int) : Rat) ∧ Dd n (shq n c) ∧ 0 < shq n c ∧ shq n c ≤ ((12000 : Int) : Rat) := by
  have hG := chk_good (show Ck.chk c.1 c.2.1 c.2.2 = 0 from hc); have t0 := tot_pos hG; have t1 := (tot_bd hG _ (Nat.le_refl _)).2; have l1 := hG.len1; have la := hG.last
  unfold shq sh tt
  generalize hT : tot c.2.1 c.2.2 c.2.2.length = T at *
  have np := cast_lt (show (0 : Int) < n by omega); rw [c0] at np; have n1c := cast_le n1; have e1 : ((1 : Int) : Rat) = 1 := rfl; rw [e1] at n1c
  have e2 : ((n : Int) : Rat) ≠ 0 := by
    intro e; rw [e] at np; exact absurd np (by decide)
  have hd : Dd n ((T : Rat) / ((n : Int) : Rat)) := by
    have := (Dd.int 1 T).divi (k := n) e2
    rwa [Int.one_mul] at this
  have hm := Rat.div_mul_cancel (a := (T : Rat)) e2; have hq : Rp.q T n = (T : Rat) / ((n : Int) : Rat) := Rat.divInt_eq_div _ _; have a0 := cast_lt (show (0 : Int) < T by omega); have a1 := cast_le (show T ≤ 12000 by omega); rw [c0] at a0
  have p0 : 0 < (T : Rat) / ((n : Int) : Rat) := by
    rcases lt_or 0 ((T : Rat) / ((n : Int) : Rat)) with g | g
    · exact g
    · have := Rat.mul_le_mul_of_nonneg_right g (Rat.le_of_lt np)
      rw [hm] at this
      grind
  have p1 : (T : Rat) / ((n : Int) : Rat) ≤ ((12000 : Int) : Rat) := by
    have := Rat.mul_le_mul_of_nonneg_left n1c (Rat.le_of_lt p0); rw [hm] at this
    grind
  have z2 := cast_le (show (-1000000000 : Int) ≤ 0 by decide); have z3 := cast_le (show (12000 : Int) ≤ 1000000000 by decide); rw [c0] at z2; have hz : (Rp.ofQ ((T : Rat) / ((n : Int) : Rat))).2.2 = 0 := ofQ_db hd n1 (by omega) (by grind) (by grind); have hc := Rp.ofQ_cases ((T : Rat) / ((n : Int) : Rat))
  unfold Rp.makeS
  rw [if_neg (by omega), hq]
  rcases hc with ⟨_, ok, hv⟩ | e
  · rw [hv]
    exact ⟨hz, ok, hm, hd, p0, p1⟩
  · rw [e] at hz
    exact absurd hz (by decide)
theorem cu_len {c : CkD} (hc : Ak.ckD c = 0) : cu c (c.1 : Rat) = ((tt c : Int) : Rat) := cum_len (chk_good (show Ck.chk c.1 c.2.1 c.2.2 = 0 from hc)) _ (Nat.le_refl _)
theorem cu_zero {c : CkD} (hc : Ak.ckD c = 0) : cu c 0 = 0 := cum_low (chk_good (show Ck.chk c.1 c.2.1 c.2.2 = 0 from hc)) Rat.le_refl _ (Nat.le_refl _)
theorem cu_mono {c : CkD} (hc : Ak.ckD c = 0) {x y : Rat} (h : x ≤ y) : cu c x ≤ cu c y := cum_mono (chk_good (show Ck.chk c.1 c.2.1 c.2.2 = 0 from hc)) h _ (Nat.le_refl _)
theorem pt_q {len x y : Int} (h : Ck.pt len x y = true) (l0 : 1 ≤ len) (l1 : len ≤ 1000) : Rp.Ok x y ∧ 0 ≤ Rp.q x y ∧ Rp.q x y ≤ (len : Rat) := by
  obtain ⟨ok, x0, _⟩ := pt_spec h; exact ⟨ok, (q_nonneg ok).2 x0, Ak.pt_le l0 l1 h⟩
theorem pt_mk {len x y : Int} (ok : Rp.Ok x y) (h0 : 0 ≤ Rp.q x y) (h1 : Rp.q x y ≤ (len : Rat)) : Ck.pt len x y = true := by
  refine decide_eq_true ⟨ok, (q_nonneg ok).1 h0, ?_⟩
  have hy : (0 : Int) < y := by have := ok.1; omega
  have hyc := cast_lt hy; have hq : Rp.q x y = (x : Rat) / (y : Rat) := Rat.divInt_eq_div _ _
  have hy0 : ((y : Int) : Rat) ≠ 0 := by
    intro e0; rw [e0] at hyc; exact absurd hyc (by decide)
  have hc2 := Rat.div_mul_cancel (a := (x : Rat)) hy0; have := Rat.mul_le_mul_of_nonneg_right h1 (Rat.le_of_lt hyc); rw [hq, hc2, ← Rat.intCast_mul, Rat.intCast_le_intCast] at this; exact this
end Ch
end Go.Proofs.YtniagnldiegamaaGreat

