/- What a cake is worth between two points: plain mathematics. -/
import Derived.Test.YtaaamcleilpnhaaStretch
import Derived.Test.YtaaamcleilpnhaaTot
namespace Go.Proofs.Ytaaamcleilpnhaa
namespace Rp
theorem q_one (n : Int) : q n 1 = (n : Rat) := by
  unfold q
  rw [show (1 : Int) = ((1 : Nat) : Int) from rfl, Rat.divInt_ofNat]
  exact Rat.mkRat_one n
end Rp
namespace Ck
/-- How much of the interval from lo to hi lies before x. -/
def clq (x lo hi : Rat) : Rat := if x ≤ lo then 0 else if hi ≤ x then hi - lo else x - lo
theorem clq_mono {x y lo hi : Rat} (h : x ≤ y) (k : lo ≤ hi) : clq x lo hi ≤ clq y lo hi := by
  unfold clq
  grind
theorem clq_low {x lo hi : Rat} (h : x ≤ lo) : clq x lo hi = 0 := by
  unfold clq
  rw [if_pos h]
theorem clq_high {x lo hi : Rat} (h : hi ≤ x) (k : lo < hi) : clq x lo hi = hi - lo := by
  unfold clq
  grind
/-- What two points have of an interval between them. -/
theorem clq_cut {x y lo hi : Rat} (h : x ≤ y) (k : lo < hi) : (if (if x < lo then lo else x) < (if hi < y then hi else y) then (if hi < y then hi else y) - (if x < lo then lo else x) else 0) = clq y lo hi - clq x lo hi := by
  unfold clq
  grind
/-- What lies before x in the first intervals is worth. -/
def cum (c d : List Int) (x : Rat) : Nat → Rat
  | 0 => 0
  | k + 1 => cum c d x k + (at_ d k : Rat) * clq x (at_ c k) (at_ c (k + 1))
theorem cum_mono {len : Int} {c d : List Int} (hG : Good len c d) {x y : Rat} (h : x ≤ y) : ∀ k, k ≤ d.length → cum c d x k ≤ cum c d y k
  | 0, _ => by simp [cum]
  | k + 1, hk => by
    have ih := cum_mono hG h k (by omega)
    have h2 := hG.step k (by omega)
    have h3 : ((at_ c k : Int) : Rat) ≤ (at_ c (k + 1) : Int) := by
      rw [Rat.intCast_le_intCast]
      omega
    have h4 := clq_mono h h3
    have h5 : (0 : Rat) ≤ ((at_ d k : Int) : Rat) := by
      have := Rat.intCast_le_intCast (a := 0) (b := at_ d k)
      simpa using this.2 (by omega)
    have h6 := Rat.mul_le_mul_of_nonneg_left h4 h5
    unfold cum
    grind
theorem cum_low {len : Int} {c d : List Int} (hG : Good len c d) {x : Rat} (h : x ≤ 0) : ∀ k, k ≤ d.length → cum c d x k = 0
  | 0, _ => rfl
  | k + 1, hk => by
    have ih := cum_low hG h k (by omega)
    have h1 := (hG.range k (by omega)).1
    have h2 : (0 : Rat) ≤ ((at_ c k : Int) : Rat) := by
      have := Rat.intCast_le_intCast (a := 0) (b := at_ c k)
      simpa using this.2 h1
    unfold cum
    rw [ih, clq_low (Rat.le_trans h h2)]
    grind

/-- The sum of the worths of the first intervals, between two points, or the error in its place. -/
def vgo (c d : List Int) (n1 d1 n2 d2 : Int) : Nat → Int × Int × Int
  | 0 => (0, 1, 0)
  | k + 1 =>
    if (vgo c d n1 d1 n2 d2 k).2.2 ≠ 0 then vgo c d n1 d1 n2 d2 k
    else if at_ d k = 0 ∨ ¬ Rp.q (mxS n1 d1 (at_ c k) 1).1 (mxS n1 d1 (at_ c k) 1).2 < Rp.q (mnS n2 d2 (at_ c (k + 1)) 1).1 (mnS n2 d2 (at_ c (k + 1)) 1).2 then vgo c d n1 d1 n2 d2 k
    else if (wthS (mxS n1 d1 (at_ c k) 1).1 (mxS n1 d1 (at_ c k) 1).2 (mnS n2 d2 (at_ c (k + 1)) 1).1 (mnS n2 d2 (at_ c (k + 1)) 1).2 (at_ d k)).2.2 ≠ 0 then (0, 0, 16)
    else Rp.addS (vgo c d n1 d1 n2 d2 k).1 (vgo c d n1 d1 n2 d2 k).2.1 (wthS (mxS n1 d1 (at_ c k) 1).1 (mxS n1 d1 (at_ c k) 1).2 (mnS n2 d2 (at_ c (k + 1)) 1).1 (mnS n2 d2 (at_ c (k + 1)) 1).2 (at_ d k)).1 (wthS (mxS n1 d1 (at_ c k) 1).1 (mxS n1 d1 (at_ c k) 1).2 (mnS n2 d2 (at_ c (k + 1)) 1).1 (mnS n2 d2 (at_ c (k + 1)) 1).2 (at_ d k)).2.1
theorem mxS_ok {n d m c : Int} (h : Rp.Ok n d) (k : Rp.Ok m c) : Rp.Ok (mxS n d m c).1 (mxS n d m c).2 ∧ Rp.q (mxS n d m c).1 (mxS n d m c).2 = if Rp.q n d < Rp.q m c then Rp.q m c else Rp.q n d := by
  unfold mxS
  split
  · exact ⟨k, rfl⟩
  · exact ⟨h, rfl⟩
theorem mnS_ok {n d m c : Int} (h : Rp.Ok n d) (k : Rp.Ok m c) : Rp.Ok (mnS n d m c).1 (mnS n d m c).2 ∧ Rp.q (mnS n d m c).1 (mnS n d m c).2 = if Rp.q m c < Rp.q n d then Rp.q m c else Rp.q n d := by
  unfold mnS
  split
  · exact ⟨k, rfl⟩
  · exact ⟨h, rfl⟩
/-- A worth is that of the length, or there is no ratio of it. -/
theorem wthS_is {n d m c k : Int} (h : Rp.Ok n d) (h2 : Rp.Ok m c) (k0 : -1000000000000000000 ≤ k) (k1 : k ≤ 1000000000000000000) :
    ((wthS n d m c k).2.2 = 0 ∧ Rp.Ok (wthS n d m c k).1 (wthS n d m c k).2.1 ∧ Rp.q (wthS n d m c k).1 (wthS n d m c k).2.1 = (Rp.q m c - Rp.q n d) * (k : Rat)) ∨ wthS n d m c k = (0, 0, 16) := by
  have hs := Rp.ofQ_cases (Rp.q m c - Rp.q n d)
  rw [← Rp.subS_ok h2 h] at hs
  unfold wthS
  rcases hs with ⟨e, hok, hq⟩ | e
  · rw [if_pos e]
    have ht := Rp.ofQ_cases (Rp.q (Rp.subS m c n d).1 (Rp.subS m c n d).2.1 * Rp.q k 1)
    rw [← Rp.mulS_ok hok (Rp.Ok_one k0 k1)] at ht
    rcases ht with ⟨e', hok', hq'⟩ | e'
    · exact .inl ⟨e', hok', by rw [hq', hq, Rp.q_one]⟩
    · exact .inr e'
  · rw [e]
    exact .inr rfl
/-- What the sum is: the difference of what lies before both points, or there is no ratio of a part of it. -/
theorem vgo_is {len : Int} {c d : List Int} (hG : Good len c d) {n1 d1 n2 d2 : Int} (h : Rp.Ok n1 d1) (h2 : Rp.Ok n2 d2) (hle : Rp.q n1 d1 ≤ Rp.q n2 d2) : ∀ k, k ≤ d.length →
    ((vgo c d n1 d1 n2 d2 k).2.2 = 0 ∧ Rp.Ok (vgo c d n1 d1 n2 d2 k).1 (vgo c d n1 d1 n2 d2 k).2.1 ∧ Rp.q (vgo c d n1 d1 n2 d2 k).1 (vgo c d n1 d1 n2 d2 k).2.1 = cum c d (Rp.q n2 d2) k - cum c d (Rp.q n1 d1) k) ∨ vgo c d n1 d1 n2 d2 k = (0, 0, 16)
  | 0, _ => by
    refine .inl ⟨rfl, (Rp.Ok_one (F := 0) (by decide) (by decide) : Rp.Ok 0 1), ?_⟩
    show Rp.q 0 1 = 0 - 0
    rw [Rp.q_one]
    show (0 : Rat) = 0 - 0
    grind
  | k + 1, hk => by
    have ih := vgo_is hG h h2 hle k (by omega)
    have hst := hG.step k (by omega)
    have r1 := hG.range k (by omega)
    have r2 := hG.range (k + 1) (by omega)
    have hl1 := hG.len1
    have o1 : Rp.Ok (at_ c k) 1 := Rp.Ok_one (by omega) (by omega)
    have o2 : Rp.Ok (at_ c (k + 1)) 1 := Rp.Ok_one (by omega) (by omega)
    obtain ⟨m1, m2⟩ := mxS_ok h o1
    obtain ⟨m3, m4⟩ := mnS_ok h2 o2
    have hlo : ((at_ c k : Int) : Rat) < (at_ c (k + 1) : Int) := by
      rw [Rat.intCast_lt_intCast]
      omega
    have hcut := clq_cut hle hlo
    rw [← Rp.q_one (at_ c k), ← Rp.q_one (at_ c (k + 1)), ← m2, ← m4] at hcut
    have hw := wthS_is m1 m3 (k := at_ d k) (by omega) (by omega)
    rcases ih with ⟨e, hok, hq⟩ | e
    · unfold vgo cum
      rw [if_neg (by rw [e]; simp)]
      by_cases hz : at_ d k = 0 ∨ ¬ Rp.q (mxS n1 d1 (at_ c k) 1).1 (mxS n1 d1 (at_ c k) 1).2 < Rp.q (mnS n2 d2 (at_ c (k + 1)) 1).1 (mnS n2 d2 (at_ c (k + 1)) 1).2
      · rw [if_pos hz]
        refine .inl ⟨e, hok, ?_⟩
        rw [hq]
        rcases hz with hz | hz
        · rw [hz]
          simp
          grind
        · rw [if_neg hz] at hcut
          rw [Rp.q_one, Rp.q_one] at hcut
          have : clq (Rp.q n2 d2) (at_ c k) (at_ c (k + 1)) = clq (Rp.q n1 d1) (at_ c k) (at_ c (k + 1)) := by grind
          rw [this]
          grind
      · rw [if_neg hz]
        have hz2 := (not_or.1 hz).2
        rw [Decidable.not_not] at hz2
        rw [if_pos hz2, Rp.q_one, Rp.q_one] at hcut
        rcases hw with ⟨w1, w2, w3⟩ | w
        · rw [if_neg (by rw [w1]; simp)]
          have ht := Rp.ofQ_cases (Rp.q (vgo c d n1 d1 n2 d2 k).1 (vgo c d n1 d1 n2 d2 k).2.1 + Rp.q (wthS (mxS n1 d1 (at_ c k) 1).1 (mxS n1 d1 (at_ c k) 1).2 (mnS n2 d2 (at_ c (k + 1)) 1).1 (mnS n2 d2 (at_ c (k + 1)) 1).2 (at_ d k)).1 (wthS (mxS n1 d1 (at_ c k) 1).1 (mxS n1 d1 (at_ c k) 1).2 (mnS n2 d2 (at_ c (k + 1)) 1).1 (mnS n2 d2 (at_ c (k + 1)) 1).2 (at_ d k)).2.1)
          rw [← Rp.addS_ok hok w2] at ht
          rcases ht with ⟨t1, t2, t3⟩ | t
          · refine .inl ⟨t1, t2, ?_⟩
            rw [t3, hq, w3, hcut]
            grind
          · exact .inr t
        · rw [w]
          exact .inr rfl
    · unfold vgo
      rw [if_pos (by rw [e]; decide)]
      exact .inr e
end Ck
end Go.Proofs.Ytaaamcleilpnhaa
