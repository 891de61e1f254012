/- Sets of points: what the sweep's piece has, when two pieces are the same, and that the sweep's piece is a piece. -/
import Derived.Test.YtnnpmegknlgkoaaPsweep
namespace Go.Proofs.Ytnnpmegknlgkoaa
namespace Pc
theorem chg_mem {t : Rat → Bool} : ∀ {l : List Rat} {k : Bool} {r : Rat}, r ∈ chg t l k → r ∈ l
  | [], _, _, h => by simp [chg] at h
  | p :: l, k, r, h => by
    unfold chg at h
    split at h
    · exact List.mem_cons_of_mem _ (chg_mem h)
    · rcases List.mem_cons.1 h with rfl | h
      · simp
      · exact List.mem_cons_of_mem _ (chg_mem h)
theorem inc_chg {t : Rat → Bool} : ∀ {l : List Rat} {k : Bool}, Inc l → Inc (chg t l k)
  | [], _, _ => trivial
  | p :: l, k, h => by
    unfold chg
    split
    · exact inc_chg h.2
    · exact ⟨fun q hq => h.1 q (chg_mem hq), inc_chg h.2⟩
/-- The parity behind the last end. -/
def fin (l : List Rat) (x : Bool) : Bool := l.foldl (fun b _ => !b) x
theorem par_swp (f : Bool → Bool → Bool) : ∀ (n : Nat) (a b : List Rat), a.length + b.length ≤ n → Inc a → Inc b → ∀ x y p, par (swp f a b x y (f x y)) (f x y) p = f (par a x p) (par b y p) := by
  intro n
  induction n with
  | zero => intro a b h _ _ x y p; have ha : a = [] := List.eq_nil_of_length_eq_zero (by omega); have hb : b = [] := List.eq_nil_of_length_eq_zero (by omega); subst ha hb; unfold swp; simp [par]
  | succ n ih =>
    intro a b h ha hb x y p
    by_cases kk : a = [] ∧ b = []
    · obtain ⟨rfl, rfl⟩ := kk; unfold swp; simp [par]
    · have hh := near_hit a b kk
      have h1 := off_len (near a b) a
      have h2 := off_len (near a b) b
      have hl : (off (near a b) a).length + (off (near a b) b).length ≤ n := by
        rcases hh with k | k
        · have := off_lt _ _ k; omega
        · have := off_lt _ _ k; omega
      have hn := near_le ha hb
      have IH := ih _ _ hl (inc_off ha) (inc_off hb) (xor x (hit (near a b) a)) (xor y (hit (near a b) b)) p
      by_cases hp : near a b ≤ p
      · have ea : par a x p = par (off (near a b) a) (xor x (hit (near a b) a)) p := by
          rcases Rat.le_iff_lt_or_eq.1 hp with hlt | heq
          · exact (par_off hlt x).symm
          · rw [← heq, par_hit ha hn.1, par_far _ _ _ hn.1]
        have eb : par b y p = par (off (near a b) b) (xor y (hit (near a b) b)) p := by
          rcases Rat.le_iff_lt_or_eq.1 hp with hlt | heq
          · exact (par_off hlt y).symm
          · rw [← heq, par_hit hb hn.2, par_far _ _ _ hn.2]
        rw [ea, eb, ← IH]
        by_cases hk : f (xor x (hit (near a b) a)) (xor y (hit (near a b) b)) = f x y
        · rw [swp_same kk hk, hk]
        · have e : f (xor x (hit (near a b) a)) (xor y (hit (near a b) b)) = !(f x y) := by
            revert hk
            generalize f _ _ = z
            generalize f x y = v
            cases z <;> cases v <;> simp
          rw [swp_turn kk hk, par, if_pos hp, e]
      · have hfa : par a x p = x := by
          refine par_far a x p fun r hr => ?_
          cases a with
          | nil => simp at hr
          | cons q a =>
            have hq : near (q :: a) b ≤ q := by
              cases b with
              | nil => simp [near]
              | cons s b => simp only [near]; split <;> grind
            rcases List.mem_cons.1 hr with rfl | hr
            · grind
            · have := ha.1 r hr; grind
        have hfb : par b y p = y := by
          refine par_far b y p fun r hr => ?_
          cases b with
          | nil => simp at hr
          | cons q b =>
            have hq : near a (q :: b) ≤ q := by
              cases a with
              | nil => simp [near]
              | cons s a => simp only [near]; split <;> grind
            rcases List.mem_cons.1 hr with rfl | hr
            · grind
            · have := hb.1 r hr; grind
        rw [hfa, hfb]
        refine par_far _ _ _ fun r hr => ?_
        rw [swp_chg f _ _ _ (Nat.le_refl _) ha hb] at hr
        have hm := chg_mem hr
        have : near a b ≤ r := by
          unfold mrg at hm
          rw [dif_neg kk] at hm
          rcases List.mem_cons.1 hm with rfl | hm
          · grind
          · rw [mem_mrg _ _ _ hl] at hm
            rcases hm with hm | hm
            · have := hn.1 r hm; grind
            · have := hn.2 r hm; grind
        grind
theorem inc_swp (f : Bool → Bool → Bool) {a b : List Rat} (ha : Inc a) (hb : Inc b) (x y k : Bool) : Inc (swp f a b x y k) := by
  rw [swp_chg f _ _ _ (Nat.le_refl _) ha hb]
  exact inc_chg (inc_mrg _ _ _ (Nat.le_refl _) ha hb)
theorem fin_len : ∀ (l : List Rat) (x : Bool), fin l x = if l.length % 2 = 0 then x else !x
  | [], x => rfl
  | p :: l, x => by
    have ih := fin_len l (!x)
    show fin l (!x) = _
    rw [ih, List.length_cons]
    by_cases h : l.length % 2 = 0
    · rw [if_pos h, if_neg (by omega)]
    · rw [if_neg h, if_pos (by omega)]; simp
/-- Far behind all ends. -/
theorem par_fin : ∀ (l : List Rat) (x : Bool) (p : Rat), (∀ r ∈ l, r ≤ p) → par l x p = fin l x
  | [], _, _, _ => rfl
  | q :: l, x, p, h => by
    rw [par, if_pos (h q (by simp)), par_fin l (!x) p (fun r hr => h r (by simp [hr]))]
    rfl
theorem top_of (l : List Rat) : ∃ z : Rat, ∀ r ∈ l, r ≤ z := by
  induction l with
  | nil => exact ⟨0, by simp⟩
  | cons p l ih =>
    obtain ⟨z, hz⟩ := ih
    refine ⟨if p ≤ z then z else p, fun r hr => ?_⟩
    rcases List.mem_cons.1 hr with rfl | hr
    · split <;> grind
    · have := hz r hr; split <;> grind
/-- The sweep's ends go by twos, if those of both lists do. -/
theorem even_swp (f : Bool → Bool → Bool) (hf : f false false = false) {a b : List Rat} (ha : Inc a) (hb : Inc b) (ea : a.length % 2 = 0) (eb : b.length % 2 = 0) : (swp f a b false false false).length % 2 = 0 := by
  obtain ⟨z, hz⟩ := top_of (a ++ b ++ swp f a b false false false)
  have h := par_swp f _ a b (Nat.le_refl _) ha hb false false z
  rw [hf] at h
  rw [par_fin a false z (fun r hr => hz r (by simp [hr])), par_fin b false z (fun r hr => hz r (by simp [hr])), par_fin _ false z (fun r hr => hz r (by simp [hr])), fin_len, fin_len, fin_len, if_pos ea, if_pos eb, hf] at h
  by_cases k : (swp f a b false false false).length % 2 = 0
  · exact k
  · rw [if_neg k] at h; cases h
theorem ends_pairs : ∀ (n : Nat) (l : List Rat), l.length ≤ n → l.length % 2 = 0 → ends (pairs l) = l := by
  intro n
  induction n with
  | zero => intro l h _; have : l = [] := List.eq_nil_of_length_eq_zero (by omega); subst this; rfl
  | succ n ih =>
    intro l h e
    match l, h, e with
    | [], _, _ => rfl
    | [_], _, e => simp at e
    | p :: q :: l, h, e =>
      simp only [List.length_cons] at h e
      simp only [pairs, ends, ih l (by omega) (by omega)]
theorem ends_even (L : List (Rat × Rat)) : (ends L).length % 2 = 0 := by
  induction L with
  | nil => rfl
  | cons s L ih => simp only [ends, List.length_cons]; omega
/-- Two pieces with the same points are the same. -/
theorem par_ext : ∀ {l m : List Rat} {x : Bool}, Inc l → Inc m → (∀ p, par l x p = par m x p) → l = m
  | [], [], _, _, _, _ => rfl
  | [], q :: m, x, _, hm, h => by
    have := h q
    rw [par, par, if_pos (by grind), par_far m _ q hm.1] at this
    cases x <;> simp at this
  | q :: l, [], x, hl, _, h => by
    have := h q
    rw [par, par, if_pos (by grind), par_far l _ q hl.1] at this
    cases x <;> simp at this
  | p :: l, q :: m, x, hl, hm, h => by
    have e : p = q := by
      have h1 := h p
      have h2 := h q
      rw [par, if_pos (by grind), par_far l _ p hl.1] at h1
      have e2 : par (q :: m) x q = !x := by rw [par, if_pos (by grind), par_far m _ q hm.1]
      rw [e2] at h2
      by_cases a : q ≤ p
      · by_cases b : p ≤ q
        · grind
        · rw [par, if_neg b] at h2
          cases x <;> simp at h2
      · rw [par, if_neg a] at h1
        cases x <;> simp at h1
    subst e
    have : l = m := par_ext (x := !x) hl.2 hm.2 fun r => by
      by_cases hr : p ≤ r
      · have := h r
        rw [par, par, if_pos hr, if_pos hr] at this
        exact this
      · rw [par_far l _ r (fun s hs => by have := hl.1 s hs; grind), par_far m _ r (fun s hs => by have := hm.1 s hs; grind)]
    rw [this]
theorem ends_inj : ∀ {L M : List (Rat × Rat)}, ends L = ends M → L = M
  | [], [], _ => rfl
  | [], _ :: _, h => by simp [ends] at h
  | _ :: _, [], h => by simp [ends] at h
  | s :: L, t :: M, h => by
    simp only [ends, List.cons.injEq] at h
    rw [ends_inj h.2.2, Prod.ext h.1 h.2.1]
theorem inn_ext {L M : List (Rat × Rat)} (hL : Inc (ends L)) (hM : Inc (ends M)) (h : ∀ p, inn L p = inn M p) : L = M :=
  ends_inj (par_ext (x := false) hL hM fun p => by rw [← inn_par L hL, ← inn_par M hM]; exact h p)
/-- The points of a set operation's piece. -/
theorem inn_swp (f : Bool → Bool → Bool) (hf : f false false = false) {A B : List (Rat × Rat)} (hA : Inc (ends A)) (hB : Inc (ends B)) :
    Inc (ends (pairs (swp f (ends A) (ends B) false false false))) ∧ ∀ p, inn (pairs (swp f (ends A) (ends B) false false false)) p = f (inn A p) (inn B p) := by
  have he := ends_pairs _ _ (Nat.le_refl _) (even_swp f hf hA hB (ends_even A) (ends_even B))
  have hi : Inc (ends (pairs (swp f (ends A) (ends B) false false false))) := by rw [he]; exact inc_swp f hA hB _ _ _
  refine ⟨hi, fun p => ?_⟩
  rw [inn_par _ hi, he, inn_par A hA, inn_par B hB]
  have := par_swp f _ _ _ (Nat.le_refl _) hA hB false false p
  rw [hf] at this
  exact this
end Pc
end Go.Proofs.Ytnnpmegknlgkoaa
