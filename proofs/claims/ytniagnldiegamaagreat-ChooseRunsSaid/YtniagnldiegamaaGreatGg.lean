/- What a cake is worth between two points: plain mathematics. The mark: the first point up to which a cake has a value: plain mathematics. Values add up, and marks are inverse to them: plain mathematics on what both answer. -/
import Derived.Test.YtniagnldiegamaaGreatStretch
import Derived.Test.YtniagnldiegamaaGreatTot
namespace Go.Proofs.YtniagnldiegamaaGreat
namespace Rp
theorem q_one (n : Int) : q n 1 = (n : Rat) := by
  unfold q
  rw [show (1 : Int) = ((1 : Nat) : Int) from rfl, Rat.divInt_ofNat]; exact Rat.mkRat_one n
end Rp
namespace Ck
/-- How much of the interval from lo to hi lies before x. -/
def clq (x lo hi : Rat) : Rat := if x ≤ lo then 0 else if hi ≤ x then hi - lo else x - lo
theorem clq_mono {x y lo hi : Rat} (h : x ≤ y) (k : lo ≤ hi) : clq x lo hi ≤ clq y lo hi := by
  unfold clq
  grind
theorem clq_low {x lo hi : Rat} (h : x ≤ lo) : clq x lo hi = 0 := by
  unfold clq
  rw [if_pos h]
theorem clq_high {x lo hi : Rat} (h : hi ≤ x) (k : lo < hi) : clq x lo hi = hi - lo := by
  unfold clq
  grind
/-- What two points have of an interval between them. -/
theorem clq_cut {x y lo hi : Rat} (h : x ≤ y) (k : lo < hi) : (if (if x < lo then lo else x) < (if hi < y then hi else y) then (if hi < y then hi else y) - (if x < lo then lo else x) else 0) = clq y lo hi - clq x lo hi := by
  unfold clq
  grind
/-- What lies before x in the first intervals is worth. -/
def cum (c d : List Int) (x : Rat) : Nat → Rat
  | 0 => 0
  | k + 1 => cum c d x k + (at_ d k : Rat) * clq x (at_ c k) (at_ c (k + 1))
theorem cum_mono {len : Int} {c d : List Int} (hG : Good len c d) {x y : Rat} (h : x ≤ y) : ∀ k, k ≤ d.length → cum c d x k ≤ cum c d y k
  | 0, _ => by simp [cum]
  | k + 1, hk => by
    have ih := cum_mono hG h k (by omega); have h2 := hG.step k (by omega)
    have h3 : ((at_ c k : Int) : Rat) ≤ (at_ c (k + 1) : Int) := by
      rw [Rat.intCast_le_intCast]
      omega
    have h4 := clq_mono h h3
    have h5 : (0 : Rat) ≤ ((at_ d k : Int) : Rat) := by
      have := Rat.intCast_le_intCast (a := 0) (b := at_ d k)
      simpa using this.2 (by omega)
    have h6 := Rat.mul_le_mul_of_nonneg_left h4 h5
    unfold cum
    grind
theorem cum_low {len : Int} {c d : List Int} (hG : Good len c d) {x : Rat} (h : x ≤ 0) : ∀ k, k ≤ d.length → cum c d x k = 0
  | 0, _ => rfl
  | k + 1, hk => by
    have ih := cum_low hG h k (by omega); have h1 := (hG.range k (by omega)).1
    have h2 : (0 : Rat) ≤ ((at_ c k : Int) : Rat) := by
      have := Rat.intCast_le_intCast (a := 0) (b := at_ c k)
      simpa using this.2 h1
    unfold cum
    rw [ih, clq_low (Rat.le_trans h h2)]
    grind

/-- The sum of the worths of the first intervals, between two points, or the error in its place. -/
def vgo (c d : List Int) (n1 d1 n2 d2 : Int) : Nat → Int × Int × Int
  | 0 => (0, 1, 0)
  | k + 1 =>
    if (vgo c d n1 d1 n2 d2 k).2.2 ≠ 0 then vgo c d n1 d1 n2 d2 k
    else if at_ d k = 0 ∨ ¬ Rp.q (mxS n1 d1 (at_ c k) 1).1 (mxS n1 d1 (at_ c k) 1).2 < Rp.q (mnS n2 d2 (at_ c (k + 1)) 1).1 (mnS n2 d2 (at_ c (k + 1)) 1).2 then vgo c d n1 d1 n2 d2 k
    else if (wthS (mxS n1 d1 (at_ c k) 1).1 (mxS n1 d1 (at_ c k) 1).2 (mnS n2 d2 (at_ c (k + 1)) 1).1 (mnS n2 d2 (at_ c (k + 1)) 1).2 (at_ d k)).2.2 ≠ 0 then (0, 0, 16)
    else Rp.addS (vgo c d n1 d1 n2 d2 k).1 (vgo c d n1 d1 n2 d2 k).2.1 (wthS (mxS n1 d1 (at_ c k) 1).1 (mxS n1 d1 (at_ c k) 1).2 (mnS n2 d2 (at_ c (k + 1)) 1).1 (mnS n2 d2 (at_ c (k + 1)) 1).2 (at_ d k)).1 (wthS (mxS n1 d1 (at_ c k) 1).1 (mxS n1 d1 (at_ c k) 1).2 (mnS n2 d2 (at_ c (k + 1)) 1).1 (mnS n2 d2 (at_ c (k + 1)) 1).2 (at_ d k)).2.1
theorem mxS_ok {n d m c : Int} (h : Rp.Ok n d) (k : Rp.Ok m c) : Rp.Ok (mxS n d m c).1 (mxS n d m c).2 ∧ Rp.q (mxS n d m c).1 (mxS n d m c).2 = if Rp.q n d < Rp.q m c then Rp.q m c else Rp.q n d := by
  unfold mxS
  split
  · exact ⟨k, rfl⟩
  · exact ⟨h, rfl⟩
theorem mnS_ok {n d m c : Int} (h : Rp.Ok n d) (k : Rp.Ok m c) : Rp.Ok (mnS n d m c).1 (mnS n d m c).2 ∧ Rp.q (mnS n d m c).1 (mnS n d m c).2 = if Rp.q m c < Rp.q n d then Rp.q m c else Rp.q n d := by
  unfold mnS
  split
  · exact ⟨k, rfl⟩
  · exact ⟨h, rfl⟩
/-- A worth is that of the length, or there is no ratio of it. -/
theorem wthS_is {n d m c k : Int} (h : Rp.Ok n d) (h2 : Rp.Ok m c) (k0 : -1000000000000000000 ≤ k) (k1 : k ≤ 1000000000000000000) :
    ((wthS n d m c k).2.2 = 0 ∧ Rp.Ok (wthS n d m c k).1 (wthS n d m c k).2.1 ∧ Rp.q (wthS n d m c k).1 (wthS n d m c k).2.1 = (Rp.q m c - Rp.q n d) * (k : Rat)) ∨ wthS n d m c k = (0, 0, 16) := by
  have hs := Rp.ofQ_cases (Rp.q m c - Rp.q n d); rw [← Rp.subS_ok h2 h] at hs
  unfold wthS
  rcases hs with ⟨e, hok, hq⟩ | e
  · rw [if_pos e]
    have ht := Rp.ofQ_cases (Rp.q (Rp.subS m c n d).1 (Rp.subS m c n d).2.1 * Rp.q k 1); rw [← Rp.mulS_ok hok (Rp.Ok_one k0 k1)] at ht
    rcases ht with ⟨e', hok', hq'⟩ | e'
    · exact .inl ⟨e', hok', by rw [hq', hq, Rp.q_one]⟩
    · exact .inr e'
  · rw [e]
    exact .inr rfl
/-- What the sum is: the difference of what lies before both points, or there is no ratio of a part of it. -/
theorem vgo_is {len : Int} {c d : List Int} (hG : Good len c d) {n1 d1 n2 d2 : Int} (h : Rp.Ok n1 d1) (h2 : Rp.Ok n2 d2) (hle : Rp.q n1 d1 ≤ Rp.q n2 d2) : ∀ k, k ≤ d.length →
    ((vgo c d n1 d1 n2 d2 k).2.2 = 0 ∧ Rp.Ok (vgo c d n1 d1 n2 d2 k).1 (vgo c d n1 d1 n2 d2 k).2.1 ∧ Rp.q (vgo c d n1 d1 n2 d2 k).1 (vgo c d n1 d1 n2 d2 k).2.1 = cum c d (Rp.q n2 d2) k - cum c d (Rp.q n1 d1) k) ∨ vgo c d n1 d1 n2 d2 k = (0, 0, 16)
  | 0, _ => by
    refine .inl ⟨rfl, (Rp.Ok_one (F := 0) (by decide) (by decide) : Rp.Ok 0 1), ?_⟩
    show Rp.q 0 1 = 0 - 0
    rw [Rp.q_one]
    show (0 : Rat) = 0 - 0
    grind
  | k + 1, hk => by
    have ih := vgo_is hG h h2 hle k (by omega); have hst := hG.step k (by omega); have r1 := hG.range k (by omega); have r2 := hG.range (k + 1) (by omega); have hl1 := hG.len1; have o1 : Rp.Ok (at_ c k) 1 := Rp.Ok_one (by omega) (by omega); have o2 : Rp.Ok (at_ c (k + 1)) 1 := Rp.Ok_one (by omega) (by omega); obtain ⟨m1, m2⟩ := mxS_ok h o1; obtain ⟨m3, m4⟩ := mnS_ok h2 o2
    have hlo : ((at_ c k : Int) : Rat) < (at_ c (k + 1) : Int) := by
      rw [Rat.intCast_lt_intCast]
      omega
    have hcut := clq_cut hle hlo; rw [← Rp.q_one (at_ c k), ← Rp.q_one (at_ c (k + 1)), ← m2, ← m4] at hcut; have hw := wthS_is m1 m3 (k := at_ d k) (by omega) (by omega)
    rcases ih with ⟨e, hok, hq⟩ | e
    · unfold vgo cum
      rw [if_neg (by rw [e]; simp)]
      by_cases hz : at_ d k = 0 ∨ ¬ Rp.q (mxS n1 d1 (at_ c k) 1).1 (mxS n1 d1 (at_ c k) 1).2 < Rp.q (mnS n2 d2 (at_ c (k + 1)) 1).1 (mnS n2 d2 (at_ c (k + 1)) 1).2
      · rw [if_pos hz]
        refine .inl ⟨e, hok, ?_⟩; rw [hq]
        rcases hz with hz | hz
        · rw [hz]
          simp
          grind
        · rw [if_neg hz] at hcut
          rw [Rp.q_one, Rp.q_one] at hcut
          have : clq (Rp.q n2 d2) (at_ c k) (at_ c (k + 1)) = clq (Rp.q n1 d1) (at_ c k) (at_ c (k + 1)) := by grind
          rw [this]
          grind
      · rw [if_neg hz]
        have hz2 := (not_or.1 hz).2; rw [Decidable.not_not] at hz2; rw [if_pos hz2, Rp.q_one, Rp.q_one] at hcut
        rcases hw with ⟨w1, w2, w3⟩ | w
        · rw [if_neg (by rw [w1]; simp)]
          have ht := Rp.ofQ_cases (Rp.q (vgo c d n1 d1 n2 d2 k).1 (vgo c d n1 d1 n2 d2 k).2.1 + Rp.q (wthS (mxS n1 d1 (at_ c k) 1).1 (mxS n1 d1 (at_ c k) 1).2 (mnS n2 d2 (at_ c (k + 1)) 1).1 (mnS n2 d2 (at_ c (k + 1)) 1).2 (at_ d k)).1 (wthS (mxS n1 d1 (at_ c k) 1).1 (mxS n1 d1 (at_ c k) 1).2 (mnS n2 d2 (at_ c (k + 1)) 1).1 (mnS n2 d2 (at_ c (k + 1)) 1).2 (at_ d k)).2.1); rw [← Rp.addS_ok hok w2] at ht
          rcases ht with ⟨t1, t2, t3⟩ | t
          · refine .inl ⟨t1, t2, ?_⟩
            rw [t3, hq, w3, hcut]
            grind
          · exact .inr t
        · rw [w]
          exact .inr rfl
    · unfold vgo
      rw [if_pos (by rw [e]; decide)]; exact .inr e
end Ck
end Go.Proofs.YtniagnldiegamaaGreat
namespace Go.Proofs.YtniagnldiegamaaGreat
namespace Ck
theorem lt_or (x y : Rat) : x < y ∨ y ≤ x := by grind
theorem cast_le {a b : Int} (h : a ≤ b) : ((a : Int) : Rat) ≤ (b : Int) := Rat.intCast_le_intCast.2 h
theorem cast_lt {a b : Int} (h : a < b) : ((a : Int) : Rat) < (b : Int) := Rat.intCast_lt_intCast.2 h
/-- Two points behind the first intervals have the same of them. -/
theorem cum_full {len : Int} {c d : List Int} (hG : Good len c d) {x y : Rat} : ∀ k, k ≤ d.length → ((at_ c k : Int) : Rat) ≤ x → ((at_ c k : Int) : Rat) ≤ y → cum c d x k = cum c d y k
  | 0, _, _, _ => rfl
  | k + 1, hk, hx, hy => by
    have h1 := cast_lt (hG.step k (by omega)).1; have ih := cum_full hG (x := x) (y := y) k (by omega) (by grind) (by grind)
    unfold cum
    rw [ih, clq_high hx h1, clq_high hy h1]
/-- What lies behind a point counts for nothing. -/
theorem cum_rest {len : Int} {c d : List Int} (hG : Good len c d) {x : Rat} {k : Nat} (hx : x ≤ ((at_ c k : Int) : Rat)) : ∀ t, k + t ≤ d.length → cum c d x (k + t) = cum c d x k
  | 0, _ => rfl
  | t + 1, ht => by
    have ih := cum_rest hG hx t (by omega); have h1 := cast_le (hG.mono k (k + t) (by omega) (by omega))
    show cum c d x (k + t) + (at_ d (k + t) : Rat) * clq x (at_ c (k + t)) (at_ c (k + t + 1)) = _
    rw [ih, clq_low (Rat.le_trans hx h1)]
    grind
/-- The mark behind the first intervals for what is left of the value, or the error in its place. -/
def mgo (len : Int) (c d : List Int) (n1 d1 : Int) : Nat → Nat → Int → Int → Int × Int × Int
  | 0, _, _, _ => (0, 0, 6)
  | f + 1, k, l1, l2 =>
    if at_ d k = 0 ∨ ¬ Rp.q (mxS n1 d1 (at_ c k) 1).1 (mxS n1 d1 (at_ c k) 1).2 < Rp.q (mnS len 1 (at_ c (k + 1)) 1).1 (mnS len 1 (at_ c (k + 1)) 1).2 then mgo len c d n1 d1 f (k + 1) l1 l2
    else if (wthS (mxS n1 d1 (at_ c k) 1).1 (mxS n1 d1 (at_ c k) 1).2 (mnS len 1 (at_ c (k + 1)) 1).1 (mnS len 1 (at_ c (k + 1)) 1).2 (at_ d k)).2.2 ≠ 0 then (0, 0, 16)
    else if ¬ Rp.q (wthS (mxS n1 d1 (at_ c k) 1).1 (mxS n1 d1 (at_ c k) 1).2 (mnS len 1 (at_ c (k + 1)) 1).1 (mnS len 1 (at_ c (k + 1)) 1).2 (at_ d k)).1 (wthS (mxS n1 d1 (at_ c k) 1).1 (mxS n1 d1 (at_ c k) 1).2 (mnS len 1 (at_ c (k + 1)) 1).1 (mnS len 1 (at_ c (k + 1)) 1).2 (at_ d k)).2.1 < Rp.q l1 l2 then rchS (mxS n1 d1 (at_ c k) 1).1 (mxS n1 d1 (at_ c k) 1).2 (at_ d k) l1 l2
    else if (Rp.subS l1 l2 (wthS (mxS n1 d1 (at_ c k) 1).1 (mxS n1 d1 (at_ c k) 1).2 (mnS len 1 (at_ c (k + 1)) 1).1 (mnS len 1 (at_ c (k + 1)) 1).2 (at_ d k)).1 (wthS (mxS n1 d1 (at_ c k) 1).1 (mxS n1 d1 (at_ c k) 1).2 (mnS len 1 (at_ c (k + 1)) 1).1 (mnS len 1 (at_ c (k + 1)) 1).2 (at_ d k)).2.1).2.2 ≠ 0 then (0, 0, 16)
    else mgo len c d n1 d1 f (k + 1) (Rp.subS l1 l2 (wthS (mxS n1 d1 (at_ c k) 1).1 (mxS n1 d1 (at_ c k) 1).2 (mnS len 1 (at_ c (k + 1)) 1).1 (mnS len 1 (at_ c (k + 1)) 1).2 (at_ d k)).1 (wthS (mxS n1 d1 (at_ c k) 1).1 (mxS n1 d1 (at_ c k) 1).2 (mnS len 1 (at_ c (k + 1)) 1).1 (mnS len 1 (at_ c (k + 1)) 1).2 (at_ d k)).2.1).1 (Rp.subS l1 l2 (wthS (mxS n1 d1 (at_ c k) 1).1 (mxS n1 d1 (at_ c k) 1).2 (mnS len 1 (at_ c (k + 1)) 1).1 (mnS len 1 (at_ c (k + 1)) 1).2 (at_ d k)).1 (wthS (mxS n1 d1 (at_ c k) 1).1 (mxS n1 d1 (at_ c k) 1).2 (mnS len 1 (at_ c (k + 1)) 1).1 (mnS len 1 (at_ c (k + 1)) 1).2 (at_ d k)).2.1).2.1
theorem rchS_is {n d m c k : Int} (h : Rp.Ok n d) (h2 : Rp.Ok m c) (k0 : 1 ≤ k) (k1 : k ≤ 1000000000000000000) :
    ((rchS n d k m c).2.2 = 0 ∧ Rp.Ok (rchS n d k m c).1 (rchS n d k m c).2.1 ∧ (k : Rat) * (Rp.q (rchS n d k m c).1 (rchS n d k m c).2.1 - Rp.q n d) = Rp.q m c) ∨ rchS n d k m c = (0, 0, 16) := by
  have hs := Rp.ofQ_cases (Rp.q m c / Rp.q k 1); rw [← Rp.divS_ok h2 (Rp.Ok_one (by omega) k1) (by omega)] at hs
  unfold rchS
  rcases hs with ⟨e, hok, hq⟩ | e
  · rw [if_pos e]
    have ht := Rp.ofQ_cases (Rp.q n d + Rp.q (Rp.divS m c k 1).1 (Rp.divS m c k 1).2.1); rw [← Rp.addS_ok h hok] at ht
    rcases ht with ⟨e', hok', hq'⟩ | e'
    · refine .inl ⟨e', hok', ?_⟩
      rw [hq', hq, Rp.q_one]
      have hk : ((k : Int) : Rat) ≠ 0 := by
        have := cast_lt (show (0 : Int) < k by omega); intro e0; rw [e0] at this; exact absurd this (by decide)
      grind
    · exact .inr e'
  · rw [e]
    exact .inr rfl
/-- What a mark is. -/
def IsMark (len : Int) (c d : List Int) (A v : Rat) (r : Int × Int × Int) : Prop :=
  (r.2.2 = 0 ∧ Rp.Ok r.1 r.2.1 ∧ A ≤ Rp.q r.1 r.2.1 ∧ Rp.q r.1 r.2.1 ≤ (len : Rat) ∧ cum c d (Rp.q r.1 r.2.1) d.length - cum c d A d.length = v ∧ ∀ z, A ≤ z → z < Rp.q r.1 r.2.1 → cum c d z d.length - cum c d A d.length < v) ∨
  (r = (0, 0, 6) ∧ cum c d (len : Rat) d.length - cum c d A d.length < v) ∨ r = (0, 0, 16)
theorem mgo_is {len : Int} {c d : List Int} (hG : Good len c d) {n1 d1 : Int} (h : Rp.Ok n1 d1) (v : Rat) : ∀ f k, f + k = d.length → ∀ l1 l2, Rp.Ok l1 l2 → 0 < Rp.q l1 l2 → Rp.q l1 l2 = v - (cum c d (len : Rat) k - cum c d (Rp.q n1 d1) k) →
    IsMark len c d (Rp.q n1 d1) v (mgo len c d n1 d1 f k l1 l2)
  | 0, k, hk, l1, l2, hok, h0, hl => by
    obtain rfl : k = d.length := by omega
    refine .inr (.inl ⟨rfl, ?_⟩)
    grind
  | f + 1, k, hk, l1, l2, hok, h0, hl => by
    have ih := mgo_is hG h v f (k + 1) (by omega); have hst := hG.step k (by omega); have r1 := hG.range k (by omega); have r2 := hG.range (k + 1) (by omega); have hl0 := hG.len0; have hl1 := hG.len1; have o1 : Rp.Ok (at_ c k) 1 := Rp.Ok_one (by omega) (by omega); have o2 : Rp.Ok (at_ c (k + 1)) 1 := Rp.Ok_one (by omega) (by omega); have o3 : Rp.Ok len 1 := Rp.Ok_one (by omega) (by omega); obtain ⟨m1, m2⟩ := mxS_ok h o1; obtain ⟨m3, m4⟩ := mnS_ok o3 o2; have hlo := cast_lt hst.1
    have hhi := cast_le (show at_ c (k + 1) ≤ len by
      have := hG.mono (k + 1) d.length (by omega) (Nat.le_refl _); have := hG.last
      omega)
    have hw := wthS_is m1 m3 (k := at_ d k) (by omega) (by omega); rw [Rp.q_one] at m2; rw [Rp.q_one, Rp.q_one] at m4
    have hen : Rp.q (mnS len 1 (at_ c (k + 1)) 1).1 (mnS len 1 (at_ c (k + 1)) 1).2 = ((at_ c (k + 1) : Int) : Rat) := by
      rw [m4]
      grind
    unfold mgo
    generalize mxS n1 d1 (at_ c k) 1 = bg at *
    generalize mnS len 1 (at_ c (k + 1)) 1 = en at *
    have hc1 : clq (len : Rat) (at_ c k) (at_ c (k + 1)) = ((at_ c (k + 1) : Int) : Rat) - ((at_ c k : Int) : Rat) := clq_high hhi hlo
    have hcA : clq (Rp.q n1 d1) (at_ c k) (at_ c (k + 1)) = if Rp.q bg.1 bg.2 < ((at_ c (k + 1) : Int) : Rat) then Rp.q bg.1 bg.2 - ((at_ c k : Int) : Rat) else ((at_ c (k + 1) : Int) : Rat) - ((at_ c k : Int) : Rat) := by
      rw [m2]
      unfold clq
      grind
    have hs1 : cum c d (len : Rat) (k + 1) = cum c d (len : Rat) k + (at_ d k : Rat) * clq (len : Rat) (at_ c k) (at_ c (k + 1)) := rfl; have hsA : cum c d (Rp.q n1 d1) (k + 1) = cum c d (Rp.q n1 d1) k + (at_ d k : Rat) * clq (Rp.q n1 d1) (at_ c k) (at_ c (k + 1)) := rfl; rw [hc1] at hs1; rw [hcA] at hsA
    by_cases hz : at_ d k = 0 ∨ ¬ Rp.q bg.1 bg.2 < Rp.q en.1 en.2
    · rw [if_pos hz]
      refine ih l1 l2 hok h0 ?_; rw [hl, hs1, hsA]
      rcases hz with hz | hz
      · rw [hz]
        grind
      · rw [hen] at hz
        rw [if_neg hz]
        grind
    · rw [if_neg hz]
      have hd1 : 1 ≤ at_ d k := by omega
      have hz2 := (not_or.1 hz).2; rw [Decidable.not_not, hen] at hz2; rw [if_pos hz2] at hsA; have hD := cast_lt (show (0 : Int) < at_ d k by omega)
      rcases hw with ⟨w1, w2, w3⟩ | w
      · rw [if_neg (by rw [w1]; simp)]
        rw [hen] at w3
        generalize wthS bg.1 bg.2 en.1 en.2 (at_ d k) = W at *
        by_cases hle : ¬ Rp.q W.1 W.2.1 < Rp.q l1 l2
        · rw [if_pos hle]
          rcases rchS_is m1 hok hd1 (by omega) with ⟨p1, p2, p3⟩ | p
          · generalize rchS bg.1 bg.2 (at_ d k) l1 l2 = P at *
            obtain ⟨X, hX⟩ : ∃ X, Rp.q P.1 P.2.1 = X := ⟨_, rfl⟩; obtain ⟨B, hB⟩ : ∃ B, Rp.q bg.1 bg.2 = B := ⟨_, rfl⟩; rw [hX, hB] at p3; rw [hB] at m2 hz2 hsA w3
            have hBX : B < X := by
              rcases lt_or B X with g | g
              · exact g
              · have := Rat.mul_le_mul_of_nonneg_left (c := ((at_ d k : Int) : Rat)) g (Rat.le_of_lt hD)
                grind
            have hXe : X ≤ ((at_ c (k + 1) : Int) : Rat) := by
              rcases lt_or ((at_ c (k + 1) : Int) : Rat) X with g | g
              · have := Rat.mul_lt_mul_of_pos_left g hD
                grind
              · exact g
            have hAB : Rp.q n1 d1 ≤ B := by rw [m2]; grind
            have hkB : ((at_ c k : Int) : Rat) ≤ B := by rw [m2]; grind
            have key : ∀ z, B ≤ z → z ≤ X → cum c d z d.length - cum c d (Rp.q n1 d1) d.length = v - ((at_ d k : Int) : Rat) * (X - z) := by
              intro z hz1 hz3; have e1 := cum_rest hG (x := z) (k := k + 1) (Rat.le_trans hz3 hXe) f (by omega); have e2 := cum_rest hG (x := Rp.q n1 d1) (k := k + 1) (by grind) f (by omega); rw [show k + 1 + f = d.length by omega] at e1 e2; have e3 : cum c d z (k + 1) = cum c d z k + (at_ d k : Rat) * clq z (at_ c k) (at_ c (k + 1)) := rfl
              have e4 : clq z (at_ c k) (at_ c (k + 1)) = z - ((at_ c k : Int) : Rat) := by
                unfold clq
                grind
              have e5 := cum_full hG (x := z) (y := (len : Rat)) k (by omega) (Rat.le_trans hkB hz1) (by grind); rw [e1, e2, e3, e4, e5, hsA]
              grind
            refine .inl ⟨p1, p2, ?_, ?_, ?_, ?_⟩
            · rw [hX]; grind
            · rw [hX]; grind
            · rw [hX, key X (Rat.le_of_lt hBX) Rat.le_refl]
              grind
            · intro z hzA hzX
              rw [hX] at hzX
              rcases lt_or z B with g | g
              · have e1 := key B Rat.le_refl (Rat.le_of_lt hBX)
                have e2 := cum_mono hG (Rat.le_of_lt g) d.length (Nat.le_refl _); have e3 := Rat.mul_lt_mul_of_pos_left hBX hD
                grind
              · have e1 := key z g (Rat.le_of_lt hzX)
                have e3 := Rat.mul_lt_mul_of_pos_left hzX hD
                grind
          · rw [p]
            exact .inr (.inr rfl)
        · rw [if_neg hle]
          rw [Decidable.not_not] at hle; have ht := Rp.ofQ_cases (Rp.q l1 l2 - Rp.q W.1 W.2.1); rw [← Rp.subS_ok hok w2] at ht
          rcases ht with ⟨t1, t2, t3⟩ | t
          · rw [if_neg (by rw [t1]; simp)]
            refine ih _ _ t2 (by rw [t3]; grind) ?_; rw [t3, hl, hs1, hsA, w3]
            grind
          · rw [t]
            rw [if_pos (by decide)]; exact .inr (.inr rfl)
      · rw [w]
        rw [if_pos (by decide)]; exact .inr (.inr rfl)
end Ck
end Go.Proofs.YtniagnldiegamaaGreat
namespace Go.Proofs.YtniagnldiegamaaGreat
namespace Ck
variable {len : Int} {c d : List Int}
/-- The mark of a value (from a point of a valid cake on, for a value that is a ratio and at least 0). -/
def mrk (len : Int) (c d : List Int) (n1 d1 m1 m2 : Int) : Int × Int × Int := if m1 = 0 then (n1, d1, 0) else mgo len c d n1 d1 d.length 0 m1 m2
theorem q_nonneg {n d : Int} (h : Rp.Ok n d) : 0 ≤ Rp.q n d ↔ 0 ≤ n := by
  have h1 := Rp.q_lt h (Rp.Ok_one (F := 0) (by decide) (by decide)); rw [Rp.q_one, Int.mul_one, Int.zero_mul] at h1; have h2 : (((0 : Int)) : Rat) = 0 := rfl; rw [h2] at h1
  constructor
  · intro g
    have : ¬ n < 0 := fun e => absurd (h1.2 e) (Rat.not_lt.2 g)
    omega
  · intro g
    exact Rat.not_lt.1 (fun e => absurd (h1.1 e) (by omega))
theorem q_zero {n d : Int} (h : Rp.Ok n d) : Rp.q n d = 0 ↔ n = 0 := by
  constructor
  · intro g
    have := Rp.q_num h; rw [g] at this; exact this.symm
  · intro g
    subst g
    unfold Rp.q
    simp
theorem mrk_is (hG : Good len c d) {n1 d1 m1 m2 : Int} (h : Rp.Ok n1 d1) (hl : Rp.q n1 d1 ≤ (len : Rat)) (h2 : Rp.Ok m1 m2) (hn : 0 ≤ m1) : IsMark len c d (Rp.q n1 d1) (Rp.q m1 m2) (mrk len c d n1 d1 m1 m2) := by
  unfold mrk
  by_cases hz : m1 = 0
  · rw [if_pos hz, (q_zero h2).2 hz]
    refine .inl ⟨rfl, h, Rat.le_refl, hl, ?_, fun z hA hlt => ?_⟩
    · show cum c d (Rp.q n1 d1) d.length - _ = _
      grind
    · exact absurd hlt (Rat.not_lt.2 hA)
  · rw [if_neg hz]
    have h0 : 0 < Rp.q m1 m2 := by
      have e1 := (q_nonneg h2).2 hn
      have e2 : Rp.q m1 m2 ≠ 0 := fun e => hz ((q_zero h2).1 e)
      grind
    refine mgo_is hG h _ d.length 0 (by omega) m1 m2 h2 h0 ?_
    show Rp.q m1 m2 = Rp.q m1 m2 - (0 - 0)
    grind
/-- A value that is a ratio. -/
theorem vgo_ok (hG : Good len c d) {n1 d1 n2 d2 : Int} (h : Rp.Ok n1 d1) (h2 : Rp.Ok n2 d2) (hle : Rp.q n1 d1 ≤ Rp.q n2 d2) (e : (vgo c d n1 d1 n2 d2 d.length).2.2 = 0) :
    Rp.Ok (vgo c d n1 d1 n2 d2 d.length).1 (vgo c d n1 d1 n2 d2 d.length).2.1 ∧ Rp.q (vgo c d n1 d1 n2 d2 d.length).1 (vgo c d n1 d1 n2 d2 d.length).2.1 = cum c d (Rp.q n2 d2) d.length - cum c d (Rp.q n1 d1) d.length := by
  rcases vgo_is hG h h2 hle d.length (Nat.le_refl _) with ⟨_, k1, k2⟩ | k
  · exact ⟨k1, k2⟩
  · rw [k] at e
    exact absurd e (by decide)
theorem vgo_err (hG : Good len c d) {n1 d1 n2 d2 : Int} (h : Rp.Ok n1 d1) (h2 : Rp.Ok n2 d2) (hle : Rp.q n1 d1 ≤ Rp.q n2 d2) : (vgo c d n1 d1 n2 d2 d.length).2.2 = 0 ∨ vgo c d n1 d1 n2 d2 d.length = (0, 0, 16) := by
  rcases vgo_is hG h h2 hle d.length (Nat.le_refl _) with ⟨k0, _⟩ | k
  · exact .inl k0
  · exact .inr k
end Ck
end Go.Proofs.YtniagnldiegamaaGreat
/- Cakes that are worth the same everywhere have the same marks and values: plain mathematics. -/
namespace Go.Proofs.YtniagnldiegamaaGreat
namespace Ck
end Ck
end Go.Proofs.YtniagnldiegamaaGreat
/- The stretches that come, one after the other, and what Value and Mark make of them: plain mathematics. -/
namespace Go.Proofs.YtniagnldiegamaaGreat
namespace Ck
/-- A cake's cuts and densities, and two points. -/
structure Sx where
  c : List Int
  d : List Int
  n1 : Int
  d1 : Int
  n2 : Int
  d2 : Int
namespace Sx
/-- Where the part of an interval begins, where it ends, its worth. -/
def bg (X : Sx) (k : Nat) : Int × Int := mxS X.n1 X.d1 (at_ X.c k) 1
def en (X : Sx) (k : Nat) : Int × Int := mnS X.n2 X.d2 (at_ X.c (k + 1)) 1
def wt (X : Sx) (k : Nat) : Int × Int × Int := wthS (X.bg k).1 (X.bg k).2 (X.en k).1 (X.en k).2 (at_ X.d k)
/-- The interval has a stretch. -/
def has (X : Sx) (k : Nat) : Prop := at_ X.d k ≠ 0 ∧ Rp.q (X.bg k).1 (X.bg k).2 < Rp.q (X.en k).1 (X.en k).2
instance (X : Sx) (k : Nat) : Decidable (X.has k) := by unfold has; infer_instance
abbrev It (X : Sx) : Type := { k : Nat // X.has k }
/-- One of them has no ratio. -/
def bad (X : Sx) (l : List X.It) : Bool := l.any (fun x => decide ((X.wt x.1).2.2 ≠ 0))
/-- What has come when k intervals have been looked at. -/
def idx (X : Sx) : Nat → List X.It
  | 0 => []
  | k + 1 => if h : X.has k then (if X.bad (X.idx k) = true then X.idx k else X.idx k ++ [⟨k, h⟩]) else X.idx k
theorem idx_no (X : Sx) {k : Nat} (h : ¬ X.has k) : X.idx (k + 1) = X.idx k := by
  show (if h : X.has k then _ else _) = _
  rw [dif_neg h]
theorem idx_yes (X : Sx) {k : Nat} (h : X.has k) (hb : X.bad (X.idx k) = false) : X.idx (k + 1) = X.idx k ++ [⟨k, h⟩] := by
  show (if h : X.has k then _ else _) = _
  rw [dif_pos h, if_neg (by rw [hb]; decide)]
theorem idx_bad (X : Sx) {k : Nat} (hb : X.bad (X.idx k) = true) : X.idx (k + 1) = X.idx k := by
  show (if h : X.has k then (if X.bad (X.idx k) = true then X.idx k else X.idx k ++ [⟨k, h⟩]) else X.idx k) = _
  by_cases h : X.has k
  · rw [dif_pos h, if_pos hb]
  · rw [dif_neg h]
theorem idx_stay (X : Sx) {k : Nat} (hb : X.bad (X.idx k) = true) : ∀ t, X.idx (k + t) = X.idx k
  | 0 => rfl
  | t + 1 => by
    have ih := idx_stay X hb t
    show X.idx (k + t + 1) = _
    rw [idx_bad X (by rw [ih]; exact hb), ih]
theorem idx_end (X : Sx) {k m : Nat} (hb : X.bad (X.idx k) = true) (h : k ≤ m) : X.idx m = X.idx k := by
  have := idx_stay X hb (m - k)
  rwa [show k + (m - k) = m by omega] at this
theorem bad_snoc (X : Sx) (l : List X.It) (x : X.It) : X.bad (l ++ [x]) = (X.bad l || decide ((X.wt x.1).2.2 ≠ 0)) := by
  unfold bad
  simp
theorem idx_len (X : Sx) : ∀ k, (X.idx k).length ≤ k
  | 0 => Nat.le_refl _
  | k + 1 => by
    have ih := idx_len X k
    by_cases h : X.has k
    · cases hb : X.bad (X.idx k) with
      | true => rw [idx_bad X hb]; omega
      | false => rw [idx_yes X h hb, List.length_append]; simp; omega
    · rw [idx_no X h]; omega
/-- What Value makes of a stretch. -/
def vst (X : Sx) (a : Int × Int × Int) (x : X.It) : Int × Int × Int :=
  if a.2.2 ≠ 0 then a else if (X.wt x.1).2.2 ≠ 0 then (0, 0, 16) else Rp.addS a.1 a.2.1 (X.wt x.1).1 (X.wt x.1).2.1
def vall (X : Sx) (l : List X.It) : Int × Int × Int := l.foldl X.vst (0, 1, 0)
theorem vall_snoc (X : Sx) (l : List X.It) (x : X.It) : X.vall (l ++ [x]) = X.vst (X.vall l) x := by
  unfold vall
  rw [List.foldl_append]
  rfl
theorem vst_err (X : Sx) : ∀ (l : List X.It) (a : Int × Int × Int), a.2.2 ≠ 0 → l.foldl X.vst a = a
  | [], _, _ => rfl
  | x :: l, a, h => by
    rw [List.foldl_cons]
    have : X.vst a x = a := by unfold vst; rw [if_pos h]
    rw [this]; exact vst_err X l a h
theorem vst_bad (X : Sx) : ∀ (l : List X.It) (a : Int × Int × Int), X.bad l = true → (l.foldl X.vst a).2.2 ≠ 0
  | [], _, h => by cases h
  | x :: l, a, h => by
    rw [List.foldl_cons]
    by_cases e : (X.vst a x).2.2 ≠ 0
    · rw [vst_err X l _ e]
      exact e
    · refine vst_bad X l _ ?_
      unfold bad at h
      rw [List.any_cons, Bool.or_eq_true] at h
      rcases h with h | h
      · exfalso
        apply e
        rw [decide_eq_true_iff] at h
        unfold vst
        by_cases ea : a.2.2 ≠ 0
        · rw [if_pos ea]; exact ea
        · rw [if_neg ea, if_pos h]; decide
      · exact h
theorem vgo_fold (X : Sx) : ∀ k, vgo X.c X.d X.n1 X.d1 X.n2 X.d2 k = X.vall (X.idx k)
  | 0 => rfl
  | k + 1 => by
    have ih := vgo_fold X k
    unfold vgo
    rw [ih]
    by_cases h : X.has k
    · cases hb : X.bad (X.idx k) with
      | true =>
        rw [idx_bad X hb, if_pos (show (X.vall (X.idx k)).2.2 ≠ 0 from vst_bad X _ _ hb)]
      | false =>
        rw [idx_yes X h hb, vall_snoc]
        unfold vst
        by_cases e : (X.vall (X.idx k)).2.2 ≠ 0
        · rw [if_pos e, if_pos e]
        · rw [if_neg e, if_neg e, if_neg (by
            rintro (g | g)
            · exact h.1 g
            · exact g h.2)]
          rfl
    · rw [idx_no X h]
      by_cases e : (X.vall (X.idx k)).2.2 ≠ 0
      · rw [if_pos e]
      · rw [if_neg e, if_pos (by
          unfold has at h
          by_cases g : at_ X.d k = 0
          · exact .inl g
          · exact .inr (fun g2 => h ⟨g, g2⟩))]
/-- What Mark makes of a stretch: what is left of the value, or the answer. -/
def mst (X : Sx) (a : (Int × Int) ⊕ (Int × Int × Int)) (x : X.It) : (Int × Int) ⊕ (Int × Int × Int) :=
  match a with
  | .inr r => .inr r
  | .inl l =>
    if (X.wt x.1).2.2 ≠ 0 then .inr (0, 0, 16)
    else if ¬ Rp.q (X.wt x.1).1 (X.wt x.1).2.1 < Rp.q l.1 l.2 then .inr (rchS (X.bg x.1).1 (X.bg x.1).2 (at_ X.d x.1) l.1 l.2)
    else if (Rp.subS l.1 l.2 (X.wt x.1).1 (X.wt x.1).2.1).2.2 ≠ 0 then .inr (0, 0, 16)
    else .inl ((Rp.subS l.1 l.2 (X.wt x.1).1 (X.wt x.1).2.1).1, (Rp.subS l.1 l.2 (X.wt x.1).1 (X.wt x.1).2.1).2.1)
def mall (X : Sx) (l1 l2 : Int) (l : List X.It) : (Int × Int) ⊕ (Int × Int × Int) := l.foldl X.mst (.inl (l1, l2))
theorem mall_snoc (X : Sx) (l1 l2 : Int) (l : List X.It) (x : X.It) : X.mall l1 l2 (l ++ [x]) = X.mst (X.mall l1 l2 l) x := by
  unfold mall
  rw [List.foldl_append]
  rfl
theorem mst_err (X : Sx) : ∀ (l : List X.It) (r : Int × Int × Int), l.foldl X.mst (.inr r) = .inr r
  | [], _ => rfl
  | x :: l, r => by
    rw [List.foldl_cons]; exact mst_err X l r
theorem mst_bad (X : Sx) : ∀ (l : List X.It) (a : (Int × Int) ⊕ (Int × Int × Int)), X.bad l = true → ∃ r, l.foldl X.mst a = .inr r
  | [], _, h => by cases h
  | x :: l, a, h => by
    rw [List.foldl_cons]
    cases e : X.mst a x with
    | inr r => exact ⟨r, mst_err X l r⟩
    | inl y =>
      refine mst_bad X l _ ?_
      unfold bad at h
      rw [List.any_cons, Bool.or_eq_true] at h
      rcases h with h | h
      · exfalso
        rw [decide_eq_true_iff] at h
        unfold mst at e
        cases a with
        | inr r => cases e
        | inl z => dsimp only at e; rw [if_pos h] at e; cases e
      · exact h
theorem mgo_fold (X : Sx) (len : Int) (h2 : X.n2 = len) (h3 : X.d2 = 1) (l1 l2 : Int) (m : Nat) : ∀ k, k ≤ m →
    (∀ l, X.mall l1 l2 (X.idx k) = .inl l → mgo len X.c X.d X.n1 X.d1 m 0 l1 l2 = mgo len X.c X.d X.n1 X.d1 (m - k) k l.1 l.2) ∧
    (∀ r, X.mall l1 l2 (X.idx k) = .inr r → mgo len X.c X.d X.n1 X.d1 m 0 l1 l2 = r)
  | 0, _ => ⟨fun l h => by injection h with h; subst h; rfl, fun r h => by injection h⟩
  | k + 1, hk => by
    have ih := mgo_fold X len h2 h3 l1 l2 m k (by omega)
    cases hb : X.bad (X.idx k) with
    | true =>
      rw [idx_bad X hb]; refine ⟨fun l h => ?_, ih.2⟩; obtain ⟨r, hr⟩ := mst_bad X (X.idx k) (.inl (l1, l2)) hb; have : X.mall l1 l2 (X.idx k) = .inr r := hr; rw [this] at h
      cases h
    | false =>
      obtain ⟨f, hf⟩ : ∃ f, m - k = f + 1 := ⟨m - k - 1, by omega⟩
      have hf' : m - (k + 1) = f := by omega
      by_cases h : X.has k
      · rw [idx_yes X h hb, mall_snoc]
        cases ea : X.mall l1 l2 (X.idx k) with
        | inr r =>
          have := ih.2 r ea; exact ⟨(fun l e => by cases e), fun r' e => by injection e with e; subst e; exact this⟩
        | inl l =>
          have e0 := ih.1 l ea; rw [hf] at e0; rw [hf', e0]; rw [mgo]
          rw [if_neg (by
            subst h2; rintro (g | g)
            · exact h.1 g
            · refine g ?_
              have := h.2
              unfold bg en at this
              rw [h3] at this
              exact this)]
          have hw : wthS (mxS X.n1 X.d1 (at_ X.c k) 1).1 (mxS X.n1 X.d1 (at_ X.c k) 1).2 (mnS len 1 (at_ X.c (k + 1)) 1).1 (mnS len 1 (at_ X.c (k + 1)) 1).2 (at_ X.d k) = X.wt k := by
            unfold wt en bg
            rw [h2, h3]
          rw [hw]
          unfold mst
          dsimp only
          by_cases g1 : (X.wt k).2.2 ≠ 0
          · rw [if_pos g1, if_pos g1]
            exact ⟨(fun l e => by cases e), fun r e => by injection e with e⟩
          · rw [if_neg g1, if_neg g1]
            by_cases g2 : ¬ Rp.q (X.wt k).1 (X.wt k).2.1 < Rp.q l.1 l.2
            · rw [if_pos g2, if_pos g2]
              exact ⟨(fun l e => by cases e), fun r e => by injection e with e⟩
            · rw [if_neg g2, if_neg g2]
              by_cases g3 : (Rp.subS l.1 l.2 (X.wt k).1 (X.wt k).2.1).2.2 ≠ 0
              · rw [if_pos g3, if_pos g3]
                exact ⟨(fun l e => by cases e), fun r e => by injection e with e⟩
              · rw [if_neg g3, if_neg g3]
                exact ⟨fun l e => by injection e with e; subst e; rfl, (fun r e => by cases e)⟩
      · rw [idx_no X h]
        refine ⟨fun l ea => ?_, ih.2⟩; rw [ih.1 l ea, hf, hf']
        show mgo len X.c X.d X.n1 X.d1 (f + 1) k l.1 l.2 = _
        conv => lhs; unfold mgo
        rw [if_pos (by
          subst h2
          unfold has at h
          by_cases g : at_ X.d k = 0
          · exact .inl g
          · refine .inr (fun g2 => h ⟨g, ?_⟩)
            unfold bg en
            rw [h3]
            exact g2)]
/-- A stretch, as it comes. -/
def sv (X : Sx) (k : Nat) : Value :=
  if (X.wt k).2.2 = 0 then .agg #[.int .i64 (X.bg k).1, .int .i64 (X.bg k).2, .int .i64 (X.wt k).1, .int .i64 (X.wt k).2.1, .int .i64 (at_ X.d k)]
  else .agg #[.int .i64 0, .int .i64 0, .int .i64 0, .int .i64 0, .int .i64 0]
end Sx
end Ck
end Go.Proofs.YtniagnldiegamaaGreat

