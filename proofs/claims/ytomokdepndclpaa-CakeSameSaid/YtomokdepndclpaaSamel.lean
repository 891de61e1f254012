/- What the law CakeSame uses: Normal, Part, Mark of a valid cake. -/
import Derived.Test.YtomokdepndclpaaNam2
import Derived.Test.YtomokdepndclpaaInvm
import Derived.Test.YtomokdepndclpaaValint
import Derived.Test.YtomokdepndclpaaInvl
import Derived.Test.YtomokdepndclpaaNormm
import Derived.Test.YtomokdepndclpaaDens
namespace Go.Proofs.Ytomokdepndclpaa
open Go.RowKit
theorem good_i64 {len : Int} {c d : List Int} (hG : Ck.Good len c d) : (∀ x ∈ c, I64 x) ∧ ∀ x ∈ d, I64 x := by
  have hs := hG.shape
  constructor
  · intro x hx
    obtain ⟨j, hj, rfl⟩ := List.mem_iff_getElem.1 hx
    have := hG.range j (by omega)
    rw [Ck.at_lt hj] at this
    exact ⟨by omega, by omega⟩
  · intro x hx
    obtain ⟨j, hj, rfl⟩ := List.mem_iff_getElem.1 hx
    have := (hG.step j hj).2
    rw [Ck.at_lt hj] at this
    exact ⟨by omega, by omega⟩
theorem good_len {len : Int} {c d : List Int} (hG : Ck.Good len c d) : c.length ≤ maxLen ∧ d.length ≤ maxLen := by
  have hs := hG.shape
  unfold maxLen
  exact ⟨by omega, by omega⟩
section
variable {len : Int} {K : Option Addr} {cuts : List Int} {Z : Option Addr} {dens : List Int} {w : World}
theorem nor_c (ck cz : Nat) (h : IsCake w len K cuts Z dens) (hc : Ck.chk len cuts dens = 0) :
    Calls Try.prog 20 #[.agg #[.int .i64 len, .slice K cuts.length ck, .slice Z dens.length cz]] w (CakeQ len (Ck.nC cuts dens dens.length ++ [len]) (Ck.nD dens dens.length) 0 w) := by
  have hG := Ck.chk_good hc
  have hN := Ck.nor_good hG
  have := ckNormal_any len K cuts ck Z dens cz w h
  rw [show Ck.norS len cuts dens = (len, Ck.nC cuts dens dens.length ++ [len], Ck.nD dens dens.length, 0) by unfold Ck.norS; rw [if_pos hc]] at this
  refine this.mono ?_
  rintro e w' ⟨v1, v2, rfl, o1, o2, _, hb⟩
  obtain ⟨K', ck', Z', cz', rfl, rfl, hI⟩ := own_cake (len := len) h.1 (good_len hN) o1 o2 (good_i64 hN).1 (good_i64 hN).2
  exact ⟨K', ck', Z', cz', rfl, hI, hb⟩
/-- What Part answers. -/
theorem part_c (ck cz : Nat) (a b : Int) (h : IsCake w len K cuts Z dens) (hck : cuts.length ≤ ck) (hcz : dens.length ≤ cz) (hc : Ck.chk len cuts dens = 0) (ha : I64 a) (hb : I64 b) :
    ((a < 0 ∨ len < b ∨ b ≤ a) ∧ Calls Try.prog 19 #[.agg #[.int .i64 len, .slice K cuts.length ck, .slice Z dens.length cz], .int .i64 a, .int .i64 b] w (CakeQ 0 [] [] 2 w)) ∨
    (¬ (a < 0 ∨ len < b ∨ b ≤ a) ∧ ¬ Ck.chk (b - a) (Ck.pC cuts a b dens.length) (Ck.pD cuts dens a b dens.length) = 0 ∧ Calls Try.prog 19 #[.agg #[.int .i64 len, .slice K cuts.length ck, .slice Z dens.length cz], .int .i64 a, .int .i64 b] w (CakeQ 0 [] [] 6 w)) ∨
    (¬ (a < 0 ∨ len < b ∨ b ≤ a) ∧ Ck.chk (b - a) (Ck.pC cuts a b dens.length) (Ck.pD cuts dens a b dens.length) = 0 ∧ Calls Try.prog 19 #[.agg #[.int .i64 len, .slice K cuts.length ck, .slice Z dens.length cz], .int .i64 a, .int .i64 b] w (CakeQ (b - a) (Ck.pC cuts a b dens.length) (Ck.pD cuts dens a b dens.length) 0 w)) := by
  have hp := ckPart_any len K cuts ck Z dens cz a b w h hck hcz ha hb
  have nil : ∀ x : Int, (Ck.parS len cuts dens a b = (0, [], [], x)) → Calls Try.prog 19 #[.agg #[.int .i64 len, .slice K cuts.length ck, .slice Z dens.length cz], .int .i64 a, .int .i64 b] w (CakeQ 0 [] [] x w) := by
    intro x e
    rw [e] at hp
    refine hp.mono ?_
    rintro e w' ⟨v1, v2, rfl, o1, o2, _, hb⟩
    obtain ⟨K', ck', Z', cz', rfl, rfl, hI⟩ := own_cake (len := 0) ⟨by decide, by decide⟩ ⟨by simp, by simp⟩ o1 o2 (by intro x hx; cases hx) (by intro x hx; cases hx)
    exact ⟨K', ck', Z', cz', rfl, hI, hb⟩
  by_cases hr : a < 0 ∨ len < b ∨ b ≤ a
  · exact .inl ⟨hr, nil 2 (by unfold Ck.parS; rw [if_pos hc, if_pos hr])⟩
  · by_cases hk : Ck.chk (b - a) (Ck.pC cuts a b dens.length) (Ck.pD cuts dens a b dens.length) = 0
    · refine .inr (.inr ⟨hr, hk, ?_⟩)
      have hG := Ck.chk_good hk
      rw [show Ck.parS len cuts dens a b = (b - a, Ck.pC cuts a b dens.length, Ck.pD cuts dens a b dens.length, 0) by unfold Ck.parS; rw [if_pos hc, if_neg hr, if_pos hk]] at hp
      refine hp.mono ?_
      rintro e w' ⟨v1, v2, rfl, o1, o2, _, hb⟩
      have h0 := hG.len0
      have h1 := hG.len1
      obtain ⟨K', ck', Z', cz', rfl, rfl, hI⟩ := own_cake (len := b - a) ⟨by omega, by omega⟩ (good_len hG) o1 o2 (good_i64 hG).1 (good_i64 hG).2
      exact ⟨K', ck', Z', cz', rfl, hI, hb⟩
    · exact .inr (.inl ⟨hr, hk, nil 6 (by unfold Ck.parS; rw [if_pos hc, if_neg hr, if_neg hk])⟩)
/-- The total of a part is the value between its ends. -/
theorem part_tot {a b : Int} (hc : Ck.chk len cuts dens = 0) (hr : ¬ (a < 0 ∨ len < b ∨ b ≤ a)) :
    Ck.tot (Ck.pC cuts a b dens.length) (Ck.pD cuts dens a b dens.length) (Ck.pD cuts dens a b dens.length).length = Ck.vint cuts dens a b dens.length :=
  Ck.tot_part (Ck.chk_good hc) (by omega) (by omega) dens.length (Nat.le_refl _)
theorem val_ints (ck cz : Nat) {a b : Int} (h : IsCake w len K cuts Z dens) (hc : Ck.chk len cuts dens = 0) (hr : ¬ (a < 0 ∨ len < b ∨ b ≤ a)) :
    Calls Try.prog 21 #[.agg #[.int .i64 len, .slice K cuts.length ck, .slice Z dens.length cz], .agg #[.int .i64 a, .int .i64 1], .agg #[.int .i64 b, .int .i64 1]] w fun e w' => e = .returned (.tuple #[.agg #[.int .i64 (Ck.vint cuts dens a b dens.length), .int .i64 1], .int .i64 0]) ∧ Below w.heap.size w w' := by
  have hG := Ck.chk_good hc
  have := value_good len K cuts ck Z dens cz a 1 b 1 w h hc (pt_int (by omega) (by omega) hG.len1) (pt_int (by omega) (by omega) hG.len1) (by
    rw [Rp.q_one, Rp.q_one, Rat.intCast_lt_intCast]
    omega)
  rw [Ck.vgo_int hG (by omega) (by omega) (by omega) dens.length (Nat.le_refl _)] at this
  exact this
end
end Go.Proofs.Ytomokdepndclpaa
/- A normal cake has the same density at each point; a good cake's check is 0: plain mathematics. -/
namespace Go.Proofs.Ytomokdepndclpaa
namespace Ck
theorem chk_of_good {len : Int} {c d : List Int} (hG : Good len c d) : chk len c d = 0 := by
  have hs := hG.shape
  have h0 := hG.len0
  have h1 := hG.len1
  unfold chk
  rw [if_neg (by unfold great; simp; omega), if_neg (by unfold shapeBad; simp; omega), if_neg (by
    unfold endsBad
    rw [hG.first, show c.length - 1 = d.length by omega, hG.last]
    simp), if_neg (by
    rw [bad_not (fun j hj => by
      have := hG.step j hj
      unfold badAt
      simp
      omega)]
    decide), if_pos hG.some_]
theorem nC_pre {c d : List Int} (k : Nat) : ∀ t i, i < (nC c d k).length → i < (nC c d (k + t)).length ∧ at_ (nC c d (k + t)) i = at_ (nC c d k) i
  | 0, _, h => ⟨h, rfl⟩
  | t + 1, i, h => by
    obtain ⟨h1, h2⟩ := nC_pre k t i h
    cases hf : fresh d (k + t) with
    | true =>
      rw [← Nat.add_assoc, nC_yes hf, List.length_append, at_app h1]
      exact ⟨by omega, h2⟩
    | false =>
      rw [← Nat.add_assoc, nC_no hf]
      exact ⟨h1, h2⟩
theorem nD_pre {d : List Int} (k : Nat) : ∀ t i, i < (nD d k).length → i < (nD d (k + t)).length ∧ at_ (nD d (k + t)) i = at_ (nD d k) i
  | 0, _, h => ⟨h, rfl⟩
  | t + 1, i, h => by
    obtain ⟨h1, h2⟩ := nD_pre k t i h
    cases hf : fresh d (k + t) with
    | true =>
      rw [← Nat.add_assoc, nD_yes hf, List.length_append, at_app h1]
      exact ⟨by omega, h2⟩
    | false =>
      rw [← Nat.add_assoc, nD_no hf]
      exact ⟨h1, h2⟩
theorem nC_far {len : Int} {c d : List Int} (hG : Good len c d) (k : Nat) : ∀ t i, k + t ≤ d.length → (nC c d k).length ≤ i → i < (nC c d (k + t)).length → at_ c k ≤ at_ (nC c d (k + t)) i
  | 0, i, _, h, h' => absurd h' (Nat.not_lt.2 h)
  | t + 1, i, ht, h, h' => by
    have ih := nC_far hG k t i (by omega) h
    cases hf : fresh d (k + t) with
    | true =>
      rw [← Nat.add_assoc, nC_yes hf, List.length_append] at h'
      rw [← Nat.add_assoc, nC_yes hf]
      rcases Nat.lt_or_ge i (nC c d (k + t)).length with g | g
      · rw [at_app g]
        exact ih g
      · obtain rfl : i = (nC c d (k + t)).length := by simp at h'; omega
        rw [at_end]
        exact hG.mono k (k + t) (by omega) (by omega)
    | false =>
      rw [← Nat.add_assoc, nC_no hf] at h' ⊢
      exact ih h'
theorem place_last_le {c : List Int} {n m : Int} : ∀ l, place c n m l = 0 ∨ ¬ n < at_ c (place c n m l) * m
  | 0 => .inl rfl
  | l + 1 => by
    have ih := place_last_le (c := c) (n := n) (m := m) l
    unfold place
    split
    · exact ih
    · exact .inr ‹_›
theorem place_above {c : List Int} {n m : Int} : ∀ l j, place c n m l < j → j ≤ l → n < at_ c j * m
  | 0, j, h, h' => by omega
  | l + 1, j, h, h' => by
    have ih := place_above (c := c) (n := n) (m := m) l j
    unfold place at h
    split at h
    · rename_i g
      rcases Nat.lt_or_ge j (l + 1) with e | e
      · exact ih h (by omega)
      · obtain rfl : j = l + 1 := by omega
        exact g
    · omega
theorem dens_nor {len : Int} {c d : List Int} (hG : Good len c d) {n m : Int} (hm : 0 < m) (hn : 0 ≤ n) : at_ (nD d d.length) (place (nC c d d.length ++ [len]) n m ((nD d d.length).length - 1)) = at_ d (place c n m (d.length - 1)) := by
  have hs := hG.shape
  obtain ⟨k, hk⟩ : ∃ k, place c n m (d.length - 1) = k := ⟨_, rfl⟩
  have hkl : k < d.length := by
    have := place_le c n m (d.length - 1)
    omega
  have p1 := place_last_le (c := c) (n := n) (m := m) (d.length - 1)
  have p2 := place_above (c := c) (n := n) (m := m) (d.length - 1)
  rw [hk] at p1 p2 ⊢
  obtain ⟨l1, l2, l3⟩ := nD_last hG k hkl
  have hCD := nCD_len c d (k + 1)
  have hCDa := nCD_len c d d.length
  obtain ⟨t, ht⟩ : ∃ t, d.length = k + 1 + t := ⟨d.length - (k + 1), by omega⟩
  obtain ⟨f, hf⟩ : ∃ f, (nD d (k + 1)).length - 1 = f := ⟨_, rfl⟩
  have hfl : f < (nD d (k + 1)).length := by omega
  have hfc : f < (nC c d (k + 1)).length := by omega
  obtain ⟨q1, q2⟩ := nD_pre (d := d) (k + 1) t f hfl
  obtain ⟨q3, q4⟩ := nC_pre (c := c) (d := d) (k + 1) t f hfc
  rw [← ht] at q1 q2 q3 q4
  have hpl : place (nC c d d.length ++ [len]) n m ((nD d d.length).length - 1) = f := by
    refine place_eq _ n m f _ (by omega) (fun j h1 h2 => ?_) ?_
    · have hjl : j < (nC c d d.length).length := by omega
      rw [at_app hjl]
      have hfar := nC_far hG (k + 1) t j (by omega) (by omega) (by rw [← ht]; exact hjl)
      rw [← ht] at hfar
      rcases Nat.lt_or_ge (k + 1) d.length with g | g
      · have := p2 (k + 1) (by omega) (by omega)
        exact Int.lt_of_lt_of_le this (Int.mul_le_mul_of_nonneg_right hfar (by omega))
      · obtain rfl : t = 0 := by omega
        rw [ht] at hjl
        simp at hjl
        omega
    · right
      rw [at_app q3, q4, ← hf, show (nD d (k + 1)).length - 1 = (nC c d (k + 1)).length - 1 by omega]
      have h4 : at_ c k * m ≤ n := by
        rcases p1 with e | e
        · rw [e, hG.first]
          omega
        · omega
      have h5 := Int.mul_le_mul_of_nonneg_right l3 (show 0 ≤ m by omega)
      omega
  rw [hpl, q2, ← hf]
  exact l2
end Ck
end Go.Proofs.Ytomokdepndclpaa
