/- The mathematics of the statements on pieces: which results are pieces, and which points they have. Lengths and worths of pieces add up: what is summed over the spans of the union and of the meet is what is summed over both. -/
import Derived.Test.YtomokdepndclpaaPal
namespace Go.Proofs.Ytomokdepndclpaa
open Go.RowKit
namespace Pc
theorem inc_at : ∀ {l : List Rat} {i j : Nat}, Inc l → i < j → j < l.length → qat l i < qat l j
  | [], _, _, _, _, h => by simp at h
  | p :: l, 0, j + 1, h, _, hl => by
    have hl' : j < l.length := by simpa using hl
    have e : qat (p :: l) (j + 1) = l[j] := by rw [qat_lt hl]; rfl
    rw [e]
    exact h.1 _ (List.getElem_mem hl')
  | p :: l, i + 1, j + 1, h, hij, hl => by
    have ih := inc_at (l := l) (i := i) (j := j) h.2 (by omega) (by simpa using hl)
    unfold qat at ih ⊢
    simpa using ih
theorem chk_of_good {L : List (Rat × Rat)} (h : Good L) : chk (L.map raw) = 0 := by
  refine chk_ok (by rw [List.length_map]; have := h.len; omega) (fun k hk => ?_)
  rw [List.length_map] at hk
  have el := ends_len L
  have e := ends_at hk
  have m := mem_ends1 hk
  have h1 : (sat L k).1 < (sat L k).2 := by rw [← e.1, ← e.2]; exact inc_at h.inc (by omega) (by omega)
  have s1 : spanB (at_ (L.map raw) k) = true := by
    rw [at_map L hk]
    show lessB (sat L k).1.num ((sat L k).1.den : Int) (sat L k).2.num ((sat L k).2.den : Int) = true
    rw [less_fit (h.fit _ m.1) (h.fit _ m.2)]
    exact decide_eq_true h1
  unfold bad
  rw [s1]
  rcases k with _ | k
  · rfl
  · have hk' : k < L.length := by omega
    have e' := ends_at hk'
    have m' := mem_ends1 hk'
    have h2 : (sat L k).2 < (sat L (k + 1)).1 := by rw [← e.1, ← e'.2]; exact inc_at h.inc (by omega) (by omega)
    have s2 : lessB (at_ (L.map raw) (k + 1 - 1)).c (at_ (L.map raw) (k + 1 - 1)).d (at_ (L.map raw) (k + 1)).a (at_ (L.map raw) (k + 1)).b = true := by
      rw [show k + 1 - 1 = k from rfl, at_map L hk', at_map L hk]
      show lessB (sat L k).2.num ((sat L k).2.den : Int) (sat L (k + 1)).1.num ((sat L (k + 1)).1.den : Int) = true
      rw [less_fit (h.fit _ m'.2) (h.fit _ m.1)]
      exact decide_eq_true h2
    rw [s2]
    simp
/-- A set operation's spans. -/
def opP (f : Bool → Bool → Bool) (A B : List (Rat × Rat)) : List (Rat × Rat) := pairs (swp f (ends A) (ends B) false false false)
theorem opP_len (f : Bool → Bool → Bool) {A B : List (Rat × Rat)} (hA : Good A) (hB : Good B) : (swp f (ends A) (ends B) false false false).length ≤ 2 * A.length + 2 * B.length ∧ (opP f A B).length ≤ A.length + B.length := by
  have h := swp_len (f := f) hA.inc hB.inc (x := false) (y := false) (k := false)
  rw [ends_len, ends_len] at h
  have e : (opP f A B).length = _ := pairs_len _ _ (Nat.le_refl _)
  rw [e]
  omega
theorem opP_good {f : Bool → Bool → Bool} (hf : f false false = false) {A B : List (Rat × Rat)} (hA : Good A) (hB : Good B) (hl : A.length + B.length ≤ 60) : Good (opP f A B) ∧ ∀ p, inn (opP f A B) p = f (inn A p) (inn B p) := by
  have h := inn_swp f hf hA.inc hB.inc
  have hs := swp_fit f hA hB
  exact ⟨⟨h.1, fun r hr => hs.1 r (ends_pairs _ _ (Nat.le_refl _) (even_swp f hf hA.inc hB.inc (ends_even A) (ends_even B)) ▸ hr), by have := (opP_len f hA hB).2; omega⟩, h.2⟩
theorem setS_op {f : Bool → Bool → Bool} {A B : List (Rat × Rat)} (hA : Good A) (hB : Good B) (hl : A.length + B.length ≤ 60) : setS f (A.map raw) (B.map raw) = (opP f A B, 0) := by
  rw [setS_both (chk_of_good hA) (chk_of_good hB)]
  have := (opP_len f hA hB).1
  unfold ofE
  rw [if_neg (by omega)]
  rfl
theorem good_ext {L M : List (Rat × Rat)} (hL : Good L) (hM : Good M) (h : ∀ p, inn L p = inn M p) : L = M := inn_ext hL.inc hM.inc h
theorem hasS_good {L : List (Rat × Rat)} (h : Good L) {n d : Int} (ho : Rp.Ok n d) : hasS (L.map raw) n d = (inn L (Rp.q n d), 0) := by
  unfold hasS
  rw [if_pos (chk_of_good h), if_pos ho, map_toQ_raw]
theorem valid_good {xs : List Raw} (h : validB xs = true) : ∃ L, xs = L.map raw ∧ Good L ∧ L.length ≤ 20 := by
  unfold validB at h
  rw [Bool.and_eq_true] at h
  obtain ⟨L, rfl, gL⟩ := chk_good (of_decide_eq_true h.2)
  refine ⟨L, rfl, gL, ?_⟩
  have h1 := h.1
  have := gL.len
  unfold greatB at h1
  rw [List.length_map] at h1
  simp at h1
  omega
end Pc
end Go.Proofs.Ytomokdepndclpaa
namespace Go.Proofs.Ytomokdepndclpaa
namespace Pc
/-- The sum of a measure of the spans, told by what lies before each point. -/
def sumG (g : Rat → Rat) : List (Rat × Rat) → Rat
  | [] => 0
  | s :: L => (g s.2 - g s.1) + sumG g L
def bq : Bool → Rat
  | true => 1
  | false => 0
/-- What the ends add, one after another. -/
def sg (g : Rat → Rat) : List Rat → Bool → Rat
  | [], _ => 0
  | p :: l, k => (bq k - bq (!k)) * g p + sg g l (!k)
theorem sg_ends (g : Rat → Rat) : ∀ (L : List (Rat × Rat)), sg g (ends L) false = sumG g L
  | [] => rfl
  | s :: L => by
    have ih := sg_ends g L
    show (bq false - bq true) * g s.1 + ((bq true - bq false) * g s.2 + sg g (ends L) false) = (g s.2 - g s.1) + sumG g L
    rw [ih]
    simp only [bq]
    grind
theorem sg_off (g : Rat → Rat) (p : Rat) (l : List Rat) (x : Bool) : sg g l x = (bq x - bq (xor x (hit p l))) * g p + sg g (off p l) (xor x (hit p l)) := by
  cases l with
  | nil => simp [sg, off, hit]; grind
  | cons q l =>
    by_cases e : q = p
    · subst e
      simp only [sg, off, hit, if_true, decide_true, Bool.xor_true]
    · simp only [sg, off, hit, if_neg e, decide_eq_false e, Bool.xor_false]
      grind
theorem sg_swp (g : Rat → Rat) (f : Bool → Bool → Bool) (a b : List Rat) (x y : Bool) (h : ¬ (a = [] ∧ b = [])) :
    sg g (swp f a b x y (f x y)) (f x y) = (bq (f x y) - bq (f (xor x (hit (near a b) a)) (xor y (hit (near a b) b)))) * g (near a b) +
      sg g (swp f (off (near a b) a) (off (near a b) b) (xor x (hit (near a b) a)) (xor y (hit (near a b) b)) (f (xor x (hit (near a b) a)) (xor y (hit (near a b) b)))) (f (xor x (hit (near a b) a)) (xor y (hit (near a b) b))) := by
  by_cases hk : f (xor x (hit (near a b) a)) (xor y (hit (near a b) b)) = f x y
  · rw [swp_same h hk, hk]
    grind
  · have e : f (xor x (hit (near a b) a)) (xor y (hit (near a b) b)) = !(f x y) := by
      revert hk
      generalize f _ _ = z
      generalize f x y = v
      cases z <;> cases v <;> simp
    rw [swp_turn h hk, e]
    rfl
theorem sg_both (g : Rat → Rat) : ∀ (n : Nat) (a b : List Rat), a.length + b.length ≤ n → ∀ x y, sg g (swp (fun x y => x || y) a b x y (x || y)) (x || y) + sg g (swp (fun x y => x && y) a b x y (x && y)) (x && y) = sg g a x + sg g b y := by
  intro n
  induction n with
  | zero => intro a b h x y; have ha : a = [] := List.eq_nil_of_length_eq_zero (by omega); have hb : b = [] := List.eq_nil_of_length_eq_zero (by omega); subst ha hb; rw [swp_nil, swp_nil]; simp [sg]
  | succ n ih =>
    intro a b h x y
    by_cases kk : a = [] ∧ b = []
    · obtain ⟨rfl, rfl⟩ := kk; rw [swp_nil, swp_nil]; simp [sg]
    · have hh := near_hit a b kk
      have h1 := off_len (near a b) a
      have h2 := off_len (near a b) b
      have hl : (off (near a b) a).length + (off (near a b) b).length ≤ n := by
        rcases hh with k | k
        · have := off_lt _ _ k; omega
        · have := off_lt _ _ k; omega
      have u := sg_swp g (fun x y => x || y) a b x y kk
      have m := sg_swp g (fun x y => x && y) a b x y kk
      have IH := ih _ _ hl (xor x (hit (near a b) a)) (xor y (hit (near a b) b))
      rw [sg_off g (near a b) a x, sg_off g (near a b) b y, u, m]
      generalize xor x (hit (near a b) a) = x' at *
      generalize xor y (hit (near a b) b) = y' at *
      generalize sg g (off (near a b) a) x' = A at *
      generalize sg g (off (near a b) b) y' = B at *
      try simp only at IH ⊢
      generalize sg g (swp (fun x y => x || y) (off (near a b) a) (off (near a b) b) x' y' (x' || y')) (x' || y') = U at *
      generalize sg g (swp (fun x y => x && y) (off (near a b) a) (off (near a b) b) x' y' (x' && y')) (x' && y') = M at *
      cases x <;> cases y <;> cases x' <;> cases y' <;> simp only [bq, Bool.or_true, Bool.or_false, Bool.and_true, Bool.and_false] <;> grind
theorem sumG_both (g : Rat → Rat) {A B : List (Rat × Rat)} (hA : Good A) (hB : Good B) : sumG g (opP (fun x y => x || y) A B) + sumG g (opP (fun x y => x && y) A B) = sumG g A + sumG g B := by
  have h := sg_both g _ (ends A) (ends B) (Nat.le_refl _) false false
  have e1 := ends_pairs _ _ (Nat.le_refl _) (even_swp (fun x y => x || y) rfl hA.inc hB.inc (ends_even A) (ends_even B))
  have e2 := ends_pairs _ _ (Nat.le_refl _) (even_swp (fun x y => x && y) rfl hA.inc hB.inc (ends_even A) (ends_even B))
  rw [← sg_ends, ← sg_ends, ← sg_ends g A, ← sg_ends g B]
  unfold opP
  rw [e1, e2]
  exact h
end Pc
end Go.Proofs.Ytomokdepndclpaa
