/- A normal cake is worth what the cake is: plain mathematics. -/
import Derived.Test.YtmfnlapoefihkaaGreatGg
import Derived.Test.YtmfnlapoefihkaaGreatNorm
import Derived.Test.YtmfnlapoefihkaaGreatGj
namespace Go.Proofs.YtmfnlapoefihkaaGreat
namespace Ck
theorem clq_join {x s y z : Rat} (h : s ≤ y) (k : y ≤ z) : clq x s z = clq x s y + clq x y z := by
  unfold clq
  grind
theorem cum_congr {c d c' d' : List Int} {x : Rat} : ∀ k, (∀ j, j ≤ k → at_ c j = at_ c' j) → (∀ j, j < k → at_ d j = at_ d' j) → cum c d x k = cum c' d' x k
  | 0, _, _ => rfl
  | k + 1, h1, h2 => by
    unfold cum
    rw [cum_congr k (fun j hj => h1 j (by omega)) (fun j hj => h2 j (by omega)), h1 k (by omega), h1 (k + 1) (by omega), h2 k (by omega)]
theorem nCD_len (c d : List Int) : ∀ k, (nC c d k).length = (nD d k).length
  | 0 => rfl
  | k + 1 => by
    have ih := nCD_len c d k
    unfold nC nD
    split
    · rw [List.length_append, List.length_append, ih]
      rfl
    · exact ih
/-- The last density and the last cut of the first intervals, at least one. -/
theorem nD_last {len : Int} {c d : List Int} (hG : Good len c d) : ∀ k, k < d.length → 1 ≤ (nD d (k + 1)).length ∧ at_ (nD d (k + 1)) ((nD d (k + 1)).length - 1) = at_ d k ∧ at_ (nC c d (k + 1)) ((nC c d (k + 1)).length - 1) ≤ at_ c k
  | 0, hk => by
    have h : fresh d 0 = true := rfl; rw [nD_yes h, nC_yes h]; exact ⟨Nat.le_refl _, rfl, Int.le_refl _⟩
  | k + 1, hk => by
    obtain ⟨i1, i2, i3⟩ := nD_last hG k (by omega)
    rcases h : fresh d (k + 1) with _ | _
    · rw [nD_no h, nC_no h]
      have h' : at_ d (k + 1) = at_ d k := by
        unfold fresh at h
        rw [Bool.or_eq_false_iff, decide_eq_false_iff_not, decide_eq_false_iff_not, Decidable.not_not] at h; exact h.2
      have := (hG.step k (by omega)).1; exact ⟨i1, by rw [h', i2], by omega⟩
    · rw [nD_yes h, nC_yes h]
      refine ⟨by rw [List.length_append]; simp, ?_, ?_⟩
      · rw [List.length_append]
        exact at_end
      · rw [List.length_append]
        show at_ (nC c d (k + 1) ++ [at_ c (k + 1)]) (nC c d (k + 1)).length ≤ _
        rw [at_end]; exact Int.le_refl _
theorem cum_nor {len : Int} {c d : List Int} (hG : Good len c d) (x : Rat) : ∀ k, k ≤ d.length → cum (nC c d k ++ [at_ c k]) (nD d k) x (nD d k).length = cum c d x k
  | 0, _ => rfl
  | k + 1, hk => by
    have ih := cum_nor hG x k (by omega); have hl := nCD_len c d k; have hst := (hG.step k (by omega)).1
    rcases h : fresh d k with _ | _
    · obtain ⟨t, rfl⟩ : ∃ t, k = t + 1 := ⟨k - 1, by
        unfold fresh at h
        rw [Bool.or_eq_false_iff, decide_eq_false_iff_not] at h
        omega⟩
      have h' : at_ d (t + 1) = at_ d t := by
        unfold fresh at h
        rw [Bool.or_eq_false_iff, decide_eq_false_iff_not, decide_eq_false_iff_not, Decidable.not_not] at h; exact h.2
      obtain ⟨i1, i2, i3⟩ := nD_last hG t (by omega); have hs0 := (hG.step t (by omega)).1; rw [nD_no h, nC_no h]; obtain ⟨p, hp⟩ : ∃ p, (nD d (t + 1)).length = p + 1 := ⟨(nD d (t + 1)).length - 1, by omega⟩; rw [hp] at ih hl i2 ⊢; rw [hl] at i3
      have e1 : at_ (nC c d (t + 1) ++ [at_ c (t + 1)]) (p + 1) = at_ c (t + 1) := by
        rw [← hl]; exact at_end
      have e2 : at_ (nC c d (t + 1) ++ [at_ c (t + 1 + 1)]) (p + 1) = at_ c (t + 1 + 1) := by
        rw [← hl]; exact at_end
      have e3 : at_ (nC c d (t + 1) ++ [at_ c (t + 1)]) p = at_ (nC c d (t + 1)) p := at_app (by omega); have e4 : at_ (nC c d (t + 1) ++ [at_ c (t + 1 + 1)]) p = at_ (nC c d (t + 1)) p := at_app (by omega); have ec := cum_congr (c := nC c d (t + 1) ++ [at_ c (t + 1)]) (c' := nC c d (t + 1) ++ [at_ c (t + 1 + 1)]) (d := nD d (t + 1)) (d' := nD d (t + 1)) (x := x) p (fun j hj => by rw [at_app (by omega), at_app (by omega)]) (fun _ _ => rfl)
      have ej := clq_join (x := x) (Rat.intCast_le_intCast.2 (show at_ (nC c d (t + 1)) p ≤ at_ c (t + 1) by
        rw [show p + 1 - 1 = p from rfl] at i3
        omega)) (Rat.le_of_lt (Rat.intCast_lt_intCast.2 hst))
      rw [show p + 1 - 1 = p from rfl] at i2; have q1 : cum (nC c d (t + 1) ++ [at_ c (t + 1)]) (nD d (t + 1)) x (p + 1) = cum (nC c d (t + 1) ++ [at_ c (t + 1)]) (nD d (t + 1)) x p + (at_ (nD d (t + 1)) p : Rat) * clq x (at_ (nC c d (t + 1) ++ [at_ c (t + 1)]) p) (at_ (nC c d (t + 1) ++ [at_ c (t + 1)]) (p + 1)) := rfl; have q2 : cum (nC c d (t + 1) ++ [at_ c (t + 1 + 1)]) (nD d (t + 1)) x (p + 1) = cum (nC c d (t + 1) ++ [at_ c (t + 1 + 1)]) (nD d (t + 1)) x p + (at_ (nD d (t + 1)) p : Rat) * clq x (at_ (nC c d (t + 1) ++ [at_ c (t + 1 + 1)]) p) (at_ (nC c d (t + 1) ++ [at_ c (t + 1 + 1)]) (p + 1)) := rfl; have q3 : cum c d x (t + 1 + 1) = cum c d x (t + 1) + (at_ d (t + 1) : Rat) * clq x (at_ c (t + 1)) (at_ c (t + 1 + 1)) := rfl; rw [q2, q3, ← ih, q1, e1, e2, e3, e4, ec, i2, h', ej]
      grind
    · rw [nD_yes h, nC_yes h, List.length_append]
      show cum (nC c d k ++ [at_ c k] ++ [at_ c (k + 1)]) (nD d k ++ [at_ d k]) x (nD d k).length + (at_ (nD d k ++ [at_ d k]) (nD d k).length : Rat) * clq x (at_ (nC c d k ++ [at_ c k] ++ [at_ c (k + 1)]) (nD d k).length) (at_ (nC c d k ++ [at_ c k] ++ [at_ c (k + 1)]) ((nD d k).length + 1)) = cum c d x k + (at_ d k : Rat) * clq x (at_ c k) (at_ c (k + 1))
      have e1 : at_ (nD d k ++ [at_ d k]) (nD d k).length = at_ d k := at_end
      have e2 : at_ (nC c d k ++ [at_ c k] ++ [at_ c (k + 1)]) (nD d k).length = at_ c k := by
        rw [at_app (by rw [List.length_append, hl]; simp), ← hl]; exact at_end
      have e3 : at_ (nC c d k ++ [at_ c k] ++ [at_ c (k + 1)]) ((nD d k).length + 1) = at_ c (k + 1) := by
        have := at_end (l := nC c d k ++ [at_ c k]) (x := at_ c (k + 1)); rw [List.length_append, hl] at this; exact this
      rw [e1, e2, e3, ← ih]
      congr 1
      exact cum_congr _ (fun j hj => at_app (by rw [List.length_append, hl]; simp; omega)) (fun j hj => at_app hj)
end Ck
end Go.Proofs.YtmfnlapoefihkaaGreat
/- A normal cake is valid, and no two densities side by side are equal: plain mathematics. -/
namespace Go.Proofs.YtmfnlapoefihkaaGreat
namespace Ck
/-- The cuts of a normal cake rise, from 0 on, and lie before the cut that comes next. -/
theorem nC_rise {len : Int} {c d : List Int} (hG : Good len c d) : ∀ k, k ≤ d.length → (∀ i, i + 1 < (nC c d k).length → at_ (nC c d k) i < at_ (nC c d k) (i + 1)) ∧ (∀ i, i < (nC c d k).length → at_ (nC c d k) i < at_ c k)
  | 0, _ => ⟨fun i hi => by simp [nC] at hi, fun i hi => by simp [nC] at hi⟩
  | k + 1, hk => by
    obtain ⟨h1, h2⟩ := nC_rise hG k (by omega); have hst := (hG.step k (by omega)).1
    rcases h : fresh d k with _ | _
    · rw [nC_no h]
      exact ⟨h1, fun i hi => by have := h2 i hi; omega⟩
    · rw [nC_yes h, List.length_append]
      refine ⟨fun i hi => ?_, fun i hi => ?_⟩
      · have hi' : i + 1 < (nC c d k).length + 1 := hi
        rw [at_app (l := nC c d k) (i := i) (by omega)]
        rcases Nat.lt_or_ge (i + 1) (nC c d k).length with g | g
        · rw [at_app g]
          exact h1 i g
        · rw [show i + 1 = (nC c d k).length by omega, at_end]
          exact h2 i (by omega)
      · have hi' : i < (nC c d k).length + 1 := hi
        rcases Nat.lt_or_ge i (nC c d k).length with g | g
        · rw [at_app g]
          have := h2 i g
          omega
        · rw [show i = (nC c d k).length by omega, at_end]
          exact hst
theorem nC_first {len : Int} {c d : List Int} (hG : Good len c d) : ∀ k, 1 ≤ k → k ≤ d.length → at_ (nC c d k) 0 = 0
  | 0, h, _ => absurd h (by omega)
  | 1, _, _ => by
    have h : fresh d 0 = true := rfl; rw [nC_yes h]; exact hG.first
  | k + 2, _, hk => by
    have ih := nC_first hG (k + 1) (by omega) (by omega); have hl := nCD_len c d (k + 1); obtain ⟨i1, _, _⟩ := nD_last hG k (by omega)
    rcases h : fresh d (k + 1) with _ | _
    · rw [nC_no h]
      exact ih
    · rw [nC_yes h, at_app (by omega)]
      exact ih
end Ck
end Go.Proofs.YtmfnlapoefihkaaGreat
/- A normal cake is valid: plain mathematics. -/
namespace Go.Proofs.YtmfnlapoefihkaaGreat
namespace Ck
theorem nD_mem {len : Int} {c d : List Int} (hG : Good len c d) : ∀ k, k ≤ d.length → ∀ x ∈ nD d k, 0 ≤ x ∧ x ≤ 12
  | 0, _, x, hx => by simp [nD] at hx
  | k + 1, hk, x, hx => by
    have ih := nD_mem hG k (by omega); have hst := hG.step k (by omega)
    unfold nD at hx
    split at hx
    · rcases List.mem_append.1 hx with hx | hx
      · exact ih x hx
      · have : x = at_ d k := by simpa using hx
        subst this; exact ⟨hst.2.1, hst.2.2⟩
    · exact ih x hx
theorem nD_has {len : Int} {c d : List Int} (hG : Good len c d) (j : Nat) (hj : j < d.length) : ∀ t, j + 1 + t ≤ d.length → at_ d j ∈ nD d (j + 1 + t)
  | 0, _ => by
    obtain ⟨i1, i2, _⟩ := nD_last hG j hj
    show at_ d j ∈ nD d (j + 1)
    rw [← i2, at_lt (by omega)]; exact List.getElem_mem _
  | t + 1, ht => by
    have ih := nD_has hG j hj t (by omega)
    show at_ d j ∈ nD d ((j + 1 + t) + 1)
    unfold nD
    split
    · exact List.mem_append.2 (.inl ih)
    · exact ih
theorem nor_good {len : Int} {c d : List Int} (hG : Good len c d) : Good len (nC c d d.length ++ [len]) (nD d d.length) := by
  have hl := nCD_len c d d.length; have hc := nC_len c d d.length; have hsh := hG.shape; obtain ⟨r1, r2⟩ := nC_rise hG d.length (Nat.le_refl _); rw [hG.last] at r2
  have hne : 1 ≤ (nD d d.length).length := by
    have := (nD_last hG (d.length - 1) (by omega)).1; rw [show d.length - 1 + 1 = d.length by omega] at this; exact this
  refine ⟨hG.len0, hG.len1, ⟨?_, hne, ?_⟩, ?_, ?_, fun k hk => ⟨?_, ?_⟩, ?_⟩
  · rw [List.length_append, hl]
    rfl
  · rw [List.length_append]
    show _ + 1 ≤ 40
    omega
  · rw [at_app (by omega)]
    exact nC_first hG d.length (by omega) (Nat.le_refl _)
  · rw [← hl]
    exact at_end
  · rw [at_app (by omega)]
    rcases Nat.lt_or_ge (k + 1) (nC c d d.length).length with g | g
    · rw [at_app g]
      exact r1 k g
    · rw [show k + 1 = (nC c d d.length).length by omega, at_end]
      exact r2 k (by omega)
  · rw [at_lt hk]
    exact nD_mem hG d.length (Nat.le_refl _) _ (List.getElem_mem _)
  · have hs := hG.some_
    unfold wanted at hs ⊢
    rw [List.any_eq_true] at hs ⊢; obtain ⟨x, hx, hp⟩ := hs; obtain ⟨j, hj, rfl⟩ := List.mem_iff_getElem.1 hx; refine ⟨d[j], ?_, hp⟩; have := nD_has hG j hj (d.length - (j + 1)) (by omega); rw [show j + 1 + (d.length - (j + 1)) = d.length by omega, at_lt hj] at this; exact this
end Ck
end Go.Proofs.YtmfnlapoefihkaaGreat
/- A normal cake is its own: plain mathematics. -/
namespace Go.Proofs.YtmfnlapoefihkaaGreat
namespace Ck
end Ck
end Go.Proofs.YtmfnlapoefihkaaGreat

