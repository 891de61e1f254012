/- The mark: the first point up to which a cake has a value: plain mathematics. -/
import Derived.Test.YtaaamcleilpnhaaVal
namespace Go.Proofs.Ytaaamcleilpnhaa
namespace Ck
theorem lt_or (x y : Rat) : x < y ∨ y ≤ x := by grind
theorem cast_le {a b : Int} (h : a ≤ b) : ((a : Int) : Rat) ≤ (b : Int) := Rat.intCast_le_intCast.2 h
theorem cast_lt {a b : Int} (h : a < b) : ((a : Int) : Rat) < (b : Int) := Rat.intCast_lt_intCast.2 h
/-- Two points behind the first intervals have the same of them. -/
theorem cum_full {len : Int} {c d : List Int} (hG : Good len c d) {x y : Rat} : ∀ k, k ≤ d.length → ((at_ c k : Int) : Rat) ≤ x → ((at_ c k : Int) : Rat) ≤ y → cum c d x k = cum c d y k
  | 0, _, _, _ => rfl
  | k + 1, hk, hx, hy => by
    have h1 := cast_lt (hG.step k (by omega)).1
    have ih := cum_full hG (x := x) (y := y) k (by omega) (by grind) (by grind)
    unfold cum
    rw [ih, clq_high hx h1, clq_high hy h1]
/-- What lies behind a point counts for nothing. -/
theorem cum_rest {len : Int} {c d : List Int} (hG : Good len c d) {x : Rat} {k : Nat} (hx : x ≤ ((at_ c k : Int) : Rat)) : ∀ t, k + t ≤ d.length → cum c d x (k + t) = cum c d x k
  | 0, _ => rfl
  | t + 1, ht => by
    have ih := cum_rest hG hx t (by omega)
    have h1 := cast_le (hG.mono k (k + t) (by omega) (by omega))
    show cum c d x (k + t) + (at_ d (k + t) : Rat) * clq x (at_ c (k + t)) (at_ c (k + t + 1)) = _
    rw [ih, clq_low (Rat.le_trans hx h1)]
    grind
/-- The mark behind the first intervals for what is left of the value, or the error in its place. -/
def mgo (len : Int) (c d : List Int) (n1 d1 : Int) : Nat → Nat → Int → Int → Int × Int × Int
  | 0, _, _, _ => (0, 0, 6)
  | f + 1, k, l1, l2 =>
    if at_ d k = 0 ∨ ¬ Rp.q (mxS n1 d1 (at_ c k) 1).1 (mxS n1 d1 (at_ c k) 1).2 < Rp.q (mnS len 1 (at_ c (k + 1)) 1).1 (mnS len 1 (at_ c (k + 1)) 1).2 then mgo len c d n1 d1 f (k + 1) l1 l2
    else if (wthS (mxS n1 d1 (at_ c k) 1).1 (mxS n1 d1 (at_ c k) 1).2 (mnS len 1 (at_ c (k + 1)) 1).1 (mnS len 1 (at_ c (k + 1)) 1).2 (at_ d k)).2.2 ≠ 0 then (0, 0, 16)
    else if ¬ Rp.q (wthS (mxS n1 d1 (at_ c k) 1).1 (mxS n1 d1 (at_ c k) 1).2 (mnS len 1 (at_ c (k + 1)) 1).1 (mnS len 1 (at_ c (k + 1)) 1).2 (at_ d k)).1 (wthS (mxS n1 d1 (at_ c k) 1).1 (mxS n1 d1 (at_ c k) 1).2 (mnS len 1 (at_ c (k + 1)) 1).1 (mnS len 1 (at_ c (k + 1)) 1).2 (at_ d k)).2.1 < Rp.q l1 l2 then rchS (mxS n1 d1 (at_ c k) 1).1 (mxS n1 d1 (at_ c k) 1).2 (at_ d k) l1 l2
    else if (Rp.subS l1 l2 (wthS (mxS n1 d1 (at_ c k) 1).1 (mxS n1 d1 (at_ c k) 1).2 (mnS len 1 (at_ c (k + 1)) 1).1 (mnS len 1 (at_ c (k + 1)) 1).2 (at_ d k)).1 (wthS (mxS n1 d1 (at_ c k) 1).1 (mxS n1 d1 (at_ c k) 1).2 (mnS len 1 (at_ c (k + 1)) 1).1 (mnS len 1 (at_ c (k + 1)) 1).2 (at_ d k)).2.1).2.2 ≠ 0 then (0, 0, 16)
    else mgo len c d n1 d1 f (k + 1) (Rp.subS l1 l2 (wthS (mxS n1 d1 (at_ c k) 1).1 (mxS n1 d1 (at_ c k) 1).2 (mnS len 1 (at_ c (k + 1)) 1).1 (mnS len 1 (at_ c (k + 1)) 1).2 (at_ d k)).1 (wthS (mxS n1 d1 (at_ c k) 1).1 (mxS n1 d1 (at_ c k) 1).2 (mnS len 1 (at_ c (k + 1)) 1).1 (mnS len 1 (at_ c (k + 1)) 1).2 (at_ d k)).2.1).1 (Rp.subS l1 l2 (wthS (mxS n1 d1 (at_ c k) 1).1 (mxS n1 d1 (at_ c k) 1).2 (mnS len 1 (at_ c (k + 1)) 1).1 (mnS len 1 (at_ c (k + 1)) 1).2 (at_ d k)).1 (wthS (mxS n1 d1 (at_ c k) 1).1 (mxS n1 d1 (at_ c k) 1).2 (mnS len 1 (at_ c (k + 1)) 1).1 (mnS len 1 (at_ c (k + 1)) 1).2 (at_ d k)).2.1).2.1
theorem rchS_is {n d m c k : Int} (h : Rp.Ok n d) (h2 : Rp.Ok m c) (k0 : 1 ≤ k) (k1 : k ≤ 1000000000000000000) :
    ((rchS n d k m c).2.2 = 0 ∧ Rp.Ok (rchS n d k m c).1 (rchS n d k m c).2.1 ∧ (k : Rat) * (Rp.q (rchS n d k m c).1 (rchS n d k m c).2.1 - Rp.q n d) = Rp.q m c) ∨ rchS n d k m c = (0, 0, 16) := by
  have hs := Rp.ofQ_cases (Rp.q m c / Rp.q k 1)
  rw [← Rp.divS_ok h2 (Rp.Ok_one (by omega) k1) (by omega)] at hs
  unfold rchS
  rcases hs with ⟨e, hok, hq⟩ | e
  · rw [if_pos e]
    have ht := Rp.ofQ_cases (Rp.q n d + Rp.q (Rp.divS m c k 1).1 (Rp.divS m c k 1).2.1)
    rw [← Rp.addS_ok h hok] at ht
    rcases ht with ⟨e', hok', hq'⟩ | e'
    · refine .inl ⟨e', hok', ?_⟩
      rw [hq', hq, Rp.q_one]
      have hk : ((k : Int) : Rat) ≠ 0 := by
        have := cast_lt (show (0 : Int) < k by omega)
        intro e0
        rw [e0] at this
        exact absurd this (by decide)
      grind
    · exact .inr e'
  · rw [e]
    exact .inr rfl
/-- What a mark is. -/
def IsMark (len : Int) (c d : List Int) (A v : Rat) (r : Int × Int × Int) : Prop :=
  (r.2.2 = 0 ∧ Rp.Ok r.1 r.2.1 ∧ A ≤ Rp.q r.1 r.2.1 ∧ Rp.q r.1 r.2.1 ≤ (len : Rat) ∧ cum c d (Rp.q r.1 r.2.1) d.length - cum c d A d.length = v ∧ ∀ z, A ≤ z → z < Rp.q r.1 r.2.1 → cum c d z d.length - cum c d A d.length < v) ∨
  (r = (0, 0, 6) ∧ cum c d (len : Rat) d.length - cum c d A d.length < v) ∨ r = (0, 0, 16)
theorem mgo_is {len : Int} {c d : List Int} (hG : Good len c d) {n1 d1 : Int} (h : Rp.Ok n1 d1) (v : Rat) : ∀ f k, f + k = d.length → ∀ l1 l2, Rp.Ok l1 l2 → 0 < Rp.q l1 l2 → Rp.q l1 l2 = v - (cum c d (len : Rat) k - cum c d (Rp.q n1 d1) k) →
    IsMark len c d (Rp.q n1 d1) v (mgo len c d n1 d1 f k l1 l2)
  | 0, k, hk, l1, l2, hok, h0, hl => by
    obtain rfl : k = d.length := by omega
    refine .inr (.inl ⟨rfl, ?_⟩)
    grind
  | f + 1, k, hk, l1, l2, hok, h0, hl => by
    have ih := mgo_is hG h v f (k + 1) (by omega)
    have hst := hG.step k (by omega)
    have r1 := hG.range k (by omega)
    have r2 := hG.range (k + 1) (by omega)
    have hl0 := hG.len0
    have hl1 := hG.len1
    have o1 : Rp.Ok (at_ c k) 1 := Rp.Ok_one (by omega) (by omega)
    have o2 : Rp.Ok (at_ c (k + 1)) 1 := Rp.Ok_one (by omega) (by omega)
    have o3 : Rp.Ok len 1 := Rp.Ok_one (by omega) (by omega)
    obtain ⟨m1, m2⟩ := mxS_ok h o1
    obtain ⟨m3, m4⟩ := mnS_ok o3 o2
    have hlo := cast_lt hst.1
    have hhi := cast_le (show at_ c (k + 1) ≤ len by
      have := hG.mono (k + 1) d.length (by omega) (Nat.le_refl _)
      have := hG.last
      omega)
    have hw := wthS_is m1 m3 (k := at_ d k) (by omega) (by omega)
    rw [Rp.q_one] at m2
    rw [Rp.q_one, Rp.q_one] at m4
    have hen : Rp.q (mnS len 1 (at_ c (k + 1)) 1).1 (mnS len 1 (at_ c (k + 1)) 1).2 = ((at_ c (k + 1) : Int) : Rat) := by
      rw [m4]
      grind
    unfold mgo
    generalize mxS n1 d1 (at_ c k) 1 = bg at *
    generalize mnS len 1 (at_ c (k + 1)) 1 = en at *
    have hc1 : clq (len : Rat) (at_ c k) (at_ c (k + 1)) = ((at_ c (k + 1) : Int) : Rat) - ((at_ c k : Int) : Rat) := clq_high hhi hlo
    have hcA : clq (Rp.q n1 d1) (at_ c k) (at_ c (k + 1)) = if Rp.q bg.1 bg.2 < ((at_ c (k + 1) : Int) : Rat) then Rp.q bg.1 bg.2 - ((at_ c k : Int) : Rat) else ((at_ c (k + 1) : Int) : Rat) - ((at_ c k : Int) : Rat) := by
      rw [m2]
      unfold clq
      grind
    have hs1 : cum c d (len : Rat) (k + 1) = cum c d (len : Rat) k + (at_ d k : Rat) * clq (len : Rat) (at_ c k) (at_ c (k + 1)) := rfl
    have hsA : cum c d (Rp.q n1 d1) (k + 1) = cum c d (Rp.q n1 d1) k + (at_ d k : Rat) * clq (Rp.q n1 d1) (at_ c k) (at_ c (k + 1)) := rfl
    rw [hc1] at hs1
    rw [hcA] at hsA
    by_cases hz : at_ d k = 0 ∨ ¬ Rp.q bg.1 bg.2 < Rp.q en.1 en.2
    · rw [if_pos hz]
      refine ih l1 l2 hok h0 ?_
      rw [hl, hs1, hsA]
      rcases hz with hz | hz
      · rw [hz]
        grind
      · rw [hen] at hz
        rw [if_neg hz]
        grind
    · rw [if_neg hz]
      have hd1 : 1 ≤ at_ d k := by omega
      have hz2 := (not_or.1 hz).2
      rw [Decidable.not_not, hen] at hz2
      rw [if_pos hz2] at hsA
      have hD := cast_lt (show (0 : Int) < at_ d k by omega)
      rcases hw with ⟨w1, w2, w3⟩ | w
      · rw [if_neg (by rw [w1]; simp)]
        rw [hen] at w3
        generalize wthS bg.1 bg.2 en.1 en.2 (at_ d k) = W at *
        by_cases hle : ¬ Rp.q W.1 W.2.1 < Rp.q l1 l2
        · rw [if_pos hle]
          rcases rchS_is m1 hok hd1 (by omega) with ⟨p1, p2, p3⟩ | p
          · generalize rchS bg.1 bg.2 (at_ d k) l1 l2 = P at *
            obtain ⟨X, hX⟩ : ∃ X, Rp.q P.1 P.2.1 = X := ⟨_, rfl⟩
            obtain ⟨B, hB⟩ : ∃ B, Rp.q bg.1 bg.2 = B := ⟨_, rfl⟩
            rw [hX, hB] at p3
            rw [hB] at m2 hz2 hsA w3
            have hBX : B < X := by
              rcases lt_or B X with g | g
              · exact g
              · have := Rat.mul_le_mul_of_nonneg_left (c := ((at_ d k : Int) : Rat)) g (Rat.le_of_lt hD)
                grind
            have hXe : X ≤ ((at_ c (k + 1) : Int) : Rat) := by
              rcases lt_or ((at_ c (k + 1) : Int) : Rat) X with g | g
              · have := Rat.mul_lt_mul_of_pos_left g hD
                grind
              · exact g
            have hAB : Rp.q n1 d1 ≤ B := by rw [m2]; grind
            have hkB : ((at_ c k : Int) : Rat) ≤ B := by rw [m2]; grind
            have key : ∀ z, B ≤ z → z ≤ X → cum c d z d.length - cum c d (Rp.q n1 d1) d.length = v - ((at_ d k : Int) : Rat) * (X - z) := by
              intro z hz1 hz3
              have e1 := cum_rest hG (x := z) (k := k + 1) (Rat.le_trans hz3 hXe) f (by omega)
              have e2 := cum_rest hG (x := Rp.q n1 d1) (k := k + 1) (by grind) f (by omega)
              rw [show k + 1 + f = d.length by omega] at e1 e2
              have e3 : cum c d z (k + 1) = cum c d z k + (at_ d k : Rat) * clq z (at_ c k) (at_ c (k + 1)) := rfl
              have e4 : clq z (at_ c k) (at_ c (k + 1)) = z - ((at_ c k : Int) : Rat) := by
                unfold clq
                grind
              have e5 := cum_full hG (x := z) (y := (len : Rat)) k (by omega) (Rat.le_trans hkB hz1) (by grind)
              rw [e1, e2, e3, e4, e5, hsA]
              grind
            refine .inl ⟨p1, p2, ?_, ?_, ?_, ?_⟩
            · rw [hX]; grind
            · rw [hX]; grind
            · rw [hX, key X (Rat.le_of_lt hBX) Rat.le_refl]
              grind
            · intro z hzA hzX
              rw [hX] at hzX
              rcases lt_or z B with g | g
              · have e1 := key B Rat.le_refl (Rat.le_of_lt hBX)
                have e2 := cum_mono hG (Rat.le_of_lt g) d.length (Nat.le_refl _)
                have e3 := Rat.mul_lt_mul_of_pos_left hBX hD
                grind
              · have e1 := key z g (Rat.le_of_lt hzX)
                have e3 := Rat.mul_lt_mul_of_pos_left hzX hD
                grind
          · rw [p]
            exact .inr (.inr rfl)
        · rw [if_neg hle]
          rw [Decidable.not_not] at hle
          have ht := Rp.ofQ_cases (Rp.q l1 l2 - Rp.q W.1 W.2.1)
          rw [← Rp.subS_ok hok w2] at ht
          rcases ht with ⟨t1, t2, t3⟩ | t
          · rw [if_neg (by rw [t1]; simp)]
            refine ih _ _ t2 (by rw [t3]; grind) ?_
            rw [t3, hl, hs1, hsA, w3]
            grind
          · rw [t]
            rw [if_pos (by decide)]
            exact .inr (.inr rfl)
      · rw [w]
        rw [if_pos (by decide)]
        exact .inr (.inr rfl)
end Ck
end Go.Proofs.Ytaaamcleilpnhaa
