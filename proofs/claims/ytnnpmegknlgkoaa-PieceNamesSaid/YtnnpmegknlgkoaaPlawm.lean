/- The mathematics of the statements on pieces: which results are pieces, and which points they have. -/
import Derived.Test.YtnnpmegknlgkoaaPal
namespace Go.Proofs.Ytnnpmegknlgkoaa
open Go.RowKit
namespace Pc
theorem inc_at : ∀ {l : List Rat} {i j : Nat}, Inc l → i < j → j < l.length → qat l i < qat l j
  | [], _, _, _, _, h => by simp at h
  | p :: l, 0, j + 1, h, _, hl => by
    have hl' : j < l.length := by simpa using hl
    have e : qat (p :: l) (j + 1) = l[j] := by rw [qat_lt hl]; rfl
    rw [e]
    exact h.1 _ (List.getElem_mem hl')
  | p :: l, i + 1, j + 1, h, hij, hl => by
    have ih := inc_at (l := l) (i := i) (j := j) h.2 (by omega) (by simpa using hl)
    unfold qat at ih ⊢
    simpa using ih
theorem chk_of_good {L : List (Rat × Rat)} (h : Good L) : chk (L.map raw) = 0 := by
  refine chk_ok (by rw [List.length_map]; have := h.len; omega) (fun k hk => ?_)
  rw [List.length_map] at hk
  have el := ends_len L
  have e := ends_at hk
  have m := mem_ends1 hk
  have h1 : (sat L k).1 < (sat L k).2 := by rw [← e.1, ← e.2]; exact inc_at h.inc (by omega) (by omega)
  have s1 : spanB (at_ (L.map raw) k) = true := by
    rw [at_map L hk]
    show lessB (sat L k).1.num ((sat L k).1.den : Int) (sat L k).2.num ((sat L k).2.den : Int) = true
    rw [less_fit (h.fit _ m.1) (h.fit _ m.2)]
    exact decide_eq_true h1
  unfold bad
  rw [s1]
  rcases k with _ | k
  · rfl
  · have hk' : k < L.length := by omega
    have e' := ends_at hk'
    have m' := mem_ends1 hk'
    have h2 : (sat L k).2 < (sat L (k + 1)).1 := by rw [← e.1, ← e'.2]; exact inc_at h.inc (by omega) (by omega)
    have s2 : lessB (at_ (L.map raw) (k + 1 - 1)).c (at_ (L.map raw) (k + 1 - 1)).d (at_ (L.map raw) (k + 1)).a (at_ (L.map raw) (k + 1)).b = true := by
      rw [show k + 1 - 1 = k from rfl, at_map L hk', at_map L hk]
      show lessB (sat L k).2.num ((sat L k).2.den : Int) (sat L (k + 1)).1.num ((sat L (k + 1)).1.den : Int) = true
      rw [less_fit (h.fit _ m'.2) (h.fit _ m.1)]
      exact decide_eq_true h2
    rw [s2]
    simp
/-- A set operation's spans. -/
def opP (f : Bool → Bool → Bool) (A B : List (Rat × Rat)) : List (Rat × Rat) := pairs (swp f (ends A) (ends B) false false false)
theorem opP_len (f : Bool → Bool → Bool) {A B : List (Rat × Rat)} (hA : Good A) (hB : Good B) : (swp f (ends A) (ends B) false false false).length ≤ 2 * A.length + 2 * B.length ∧ (opP f A B).length ≤ A.length + B.length := by
  have h := swp_len (f := f) hA.inc hB.inc (x := false) (y := false) (k := false)
  rw [ends_len, ends_len] at h
  have e : (opP f A B).length = _ := pairs_len _ _ (Nat.le_refl _)
  rw [e]
  omega
theorem opP_good {f : Bool → Bool → Bool} (hf : f false false = false) {A B : List (Rat × Rat)} (hA : Good A) (hB : Good B) (hl : A.length + B.length ≤ 60) : Good (opP f A B) ∧ ∀ p, inn (opP f A B) p = f (inn A p) (inn B p) := by
  have h := inn_swp f hf hA.inc hB.inc
  have hs := swp_fit f hA hB
  exact ⟨⟨h.1, fun r hr => hs.1 r (ends_pairs _ _ (Nat.le_refl _) (even_swp f hf hA.inc hB.inc (ends_even A) (ends_even B)) ▸ hr), by have := (opP_len f hA hB).2; omega⟩, h.2⟩
theorem setS_op {f : Bool → Bool → Bool} {A B : List (Rat × Rat)} (hA : Good A) (hB : Good B) (hl : A.length + B.length ≤ 60) : setS f (A.map raw) (B.map raw) = (opP f A B, 0) := by
  rw [setS_both (chk_of_good hA) (chk_of_good hB)]
  have := (opP_len f hA hB).1
  unfold ofE
  rw [if_neg (by omega)]
  rfl
theorem good_ext {L M : List (Rat × Rat)} (hL : Good L) (hM : Good M) (h : ∀ p, inn L p = inn M p) : L = M := inn_ext hL.inc hM.inc h
theorem hasS_good {L : List (Rat × Rat)} (h : Good L) {n d : Int} (ho : Rp.Ok n d) : hasS (L.map raw) n d = (inn L (Rp.q n d), 0) := by
  unfold hasS
  rw [if_pos (chk_of_good h), if_pos ho, map_toQ_raw]
theorem valid_good {xs : List Raw} (h : validB xs = true) : ∃ L, xs = L.map raw ∧ Good L ∧ L.length ≤ 20 := by
  unfold validB at h
  rw [Bool.and_eq_true] at h
  obtain ⟨L, rfl, gL⟩ := chk_good (of_decide_eq_true h.2)
  refine ⟨L, rfl, gL, ?_⟩
  have h1 := h.1
  have := gL.len
  unfold greatB at h1
  rw [List.length_map] at h1
  simp at h1
  omega
end Pc
end Go.Proofs.Ytnnpmegknlgkoaa
