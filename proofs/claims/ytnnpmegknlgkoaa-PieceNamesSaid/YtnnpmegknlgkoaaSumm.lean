/- Lengths and worths of pieces add up: what is summed over the spans of the union and of the meet is what is summed over both. -/
import Derived.Test.YtnnpmegknlgkoaaPlawm
namespace Go.Proofs.Ytnnpmegknlgkoaa
namespace Pc
/-- The sum of a measure of the spans, told by what lies before each point. -/
def sumG (g : Rat → Rat) : List (Rat × Rat) → Rat
  | [] => 0
  | s :: L => (g s.2 - g s.1) + sumG g L
def bq : Bool → Rat
  | true => 1
  | false => 0
/-- What the ends add, one after another. -/
def sg (g : Rat → Rat) : List Rat → Bool → Rat
  | [], _ => 0
  | p :: l, k => (bq k - bq (!k)) * g p + sg g l (!k)
theorem sg_ends (g : Rat → Rat) : ∀ (L : List (Rat × Rat)), sg g (ends L) false = sumG g L
  | [] => rfl
  | s :: L => by
    have ih := sg_ends g L
    show (bq false - bq true) * g s.1 + ((bq true - bq false) * g s.2 + sg g (ends L) false) = (g s.2 - g s.1) + sumG g L
    rw [ih]
    simp only [bq]
    grind
theorem sg_off (g : Rat → Rat) (p : Rat) (l : List Rat) (x : Bool) : sg g l x = (bq x - bq (xor x (hit p l))) * g p + sg g (off p l) (xor x (hit p l)) := by
  cases l with
  | nil => simp [sg, off, hit]; grind
  | cons q l =>
    by_cases e : q = p
    · subst e
      simp only [sg, off, hit, if_true, decide_true, Bool.xor_true]
    · simp only [sg, off, hit, if_neg e, decide_eq_false e, Bool.xor_false]
      grind
theorem sg_swp (g : Rat → Rat) (f : Bool → Bool → Bool) (a b : List Rat) (x y : Bool) (h : ¬ (a = [] ∧ b = [])) :
    sg g (swp f a b x y (f x y)) (f x y) = (bq (f x y) - bq (f (xor x (hit (near a b) a)) (xor y (hit (near a b) b)))) * g (near a b) +
      sg g (swp f (off (near a b) a) (off (near a b) b) (xor x (hit (near a b) a)) (xor y (hit (near a b) b)) (f (xor x (hit (near a b) a)) (xor y (hit (near a b) b)))) (f (xor x (hit (near a b) a)) (xor y (hit (near a b) b))) := by
  by_cases hk : f (xor x (hit (near a b) a)) (xor y (hit (near a b) b)) = f x y
  · rw [swp_same h hk, hk]
    grind
  · have e : f (xor x (hit (near a b) a)) (xor y (hit (near a b) b)) = !(f x y) := by
      revert hk
      generalize f _ _ = z
      generalize f x y = v
      cases z <;> cases v <;> simp
    rw [swp_turn h hk, e]
    rfl
theorem sg_both (g : Rat → Rat) : ∀ (n : Nat) (a b : List Rat), a.length + b.length ≤ n → ∀ x y, sg g (swp (fun x y => x || y) a b x y (x || y)) (x || y) + sg g (swp (fun x y => x && y) a b x y (x && y)) (x && y) = sg g a x + sg g b y := by
  intro n
  induction n with
  | zero => intro a b h x y; have ha : a = [] := List.eq_nil_of_length_eq_zero (by omega); have hb : b = [] := List.eq_nil_of_length_eq_zero (by omega); subst ha hb; rw [swp_nil, swp_nil]; simp [sg]
  | succ n ih =>
    intro a b h x y
    by_cases kk : a = [] ∧ b = []
    · obtain ⟨rfl, rfl⟩ := kk; rw [swp_nil, swp_nil]; simp [sg]
    · have hh := near_hit a b kk
      have h1 := off_len (near a b) a
      have h2 := off_len (near a b) b
      have hl : (off (near a b) a).length + (off (near a b) b).length ≤ n := by
        rcases hh with k | k
        · have := off_lt _ _ k; omega
        · have := off_lt _ _ k; omega
      have u := sg_swp g (fun x y => x || y) a b x y kk
      have m := sg_swp g (fun x y => x && y) a b x y kk
      have IH := ih _ _ hl (xor x (hit (near a b) a)) (xor y (hit (near a b) b))
      rw [sg_off g (near a b) a x, sg_off g (near a b) b y, u, m]
      generalize xor x (hit (near a b) a) = x' at *
      generalize xor y (hit (near a b) b) = y' at *
      generalize sg g (off (near a b) a) x' = A at *
      generalize sg g (off (near a b) b) y' = B at *
      try simp only at IH ⊢
      generalize sg g (swp (fun x y => x || y) (off (near a b) a) (off (near a b) b) x' y' (x' || y')) (x' || y') = U at *
      generalize sg g (swp (fun x y => x && y) (off (near a b) a) (off (near a b) b) x' y' (x' && y')) (x' && y') = M at *
      cases x <;> cases y <;> cases x' <;> cases y' <;> simp only [bq, Bool.or_true, Bool.or_false, Bool.and_true, Bool.and_false] <;> grind
theorem sumG_both (g : Rat → Rat) {A B : List (Rat × Rat)} (hA : Good A) (hB : Good B) : sumG g (opP (fun x y => x || y) A B) + sumG g (opP (fun x y => x && y) A B) = sumG g A + sumG g B := by
  have h := sg_both g _ (ends A) (ends B) (Nat.le_refl _) false false
  have e1 := ends_pairs _ _ (Nat.le_refl _) (even_swp (fun x y => x || y) rfl hA.inc hB.inc (ends_even A) (ends_even B))
  have e2 := ends_pairs _ _ (Nat.le_refl _) (even_swp (fun x y => x && y) rfl hA.inc hB.inc (ends_even A) (ends_even B))
  rw [← sg_ends, ← sg_ends, ← sg_ends g A, ← sg_ends g B]
  unfold opP
  rw [e1, e2]
  exact h
end Pc
end Go.Proofs.Ytnnpmegknlgkoaa
