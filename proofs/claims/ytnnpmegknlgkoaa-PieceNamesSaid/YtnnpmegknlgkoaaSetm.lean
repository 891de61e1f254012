/- Sets of points as lists of ends: the sweep over two lists of ends, and the reference's way over all points, give the same spans. -/
namespace Go.Proofs.Ytnnpmegknlgkoaa
namespace Pc

/-- Strictly increasing. -/
def Inc : List Rat → Prop
  | [] => True
  | p :: l => (∀ q ∈ l, p < q) ∧ Inc l

def near (a b : List Rat) : Rat :=
  match a, b with
  | [], [] => 0
  | [], q :: _ => q
  | p :: _, [] => p
  | p :: _, q :: _ => if q < p then q else p

def off (p : Rat) : List Rat → List Rat
  | [] => []
  | q :: l => if q = p then l else q :: l

def hit (p : Rat) : List Rat → Bool
  | [] => false
  | q :: _ => decide (q = p)

theorem off_len (p : Rat) (l : List Rat) : (off p l).length ≤ l.length := by
  cases l with
  | nil => simp [off]
  | cons q l => simp only [off]; split <;> simp

theorem near_hit (a b : List Rat) (h : ¬ (a = [] ∧ b = [])) : hit (near a b) a = true ∨ hit (near a b) b = true := by
  cases a with
  | nil => cases b with
    | nil => simp at h
    | cons q b => right; simp [near, hit]
  | cons p a => cases b with
    | nil => left; simp [near, hit]
    | cons q b => by_cases k : q < p <;> simp [near, hit, k]

theorem off_lt (p : Rat) (l : List Rat) (h : hit p l = true) : (off p l).length < l.length := by
  cases l with
  | nil => simp [hit] at h
  | cons q l => simp only [hit, decide_eq_true_eq] at h; simp [off, h]

/-- What the sweep gives. -/
def swp (f : Bool → Bool → Bool) (a b : List Rat) (x y k : Bool) : List Rat :=
  if _h : a = [] ∧ b = [] then []
  else
    let p := near a b
    let x' := xor x (hit p a)
    let y' := xor y (hit p b)
    if f x' y' = k then swp f (off p a) (off p b) x' y' k
    else p :: swp f (off p a) (off p b) x' y' (f x' y')
termination_by a.length + b.length
decreasing_by
  all_goals
    have := near_hit a b (by assumption)
    have h1 := off_len (near a b) a
    have h2 := off_len (near a b) b
    rcases this with k | k
    · have := off_lt _ _ k; omega
    · have := off_lt _ _ k; omega

def mrg (a b : List Rat) : List Rat :=
  if _h : a = [] ∧ b = [] then [] else near a b :: mrg (off (near a b) a) (off (near a b) b)
termination_by a.length + b.length
decreasing_by
  all_goals
    have := near_hit a b (by assumption)
    have h1 := off_len (near a b) a
    have h2 := off_len (near a b) b
    rcases this with k | k
    · have := off_lt _ _ k; omega
    · have := off_lt _ _ k; omega

/-- Parity of the ends up to p. -/
def par : List Rat → Bool → Rat → Bool
  | [], x, _ => x
  | q :: l, x, p => if q ≤ p then par l (!x) p else x

def chg (t : Rat → Bool) : List Rat → Bool → List Rat
  | [], _ => []
  | p :: l, k => if t p = k then chg t l k else p :: chg t l (t p)

theorem chg_congr {t u : Rat → Bool} : ∀ {l : List Rat} {k : Bool}, (∀ p ∈ l, t p = u p) → chg t l k = chg u l k
  | [], _, _ => rfl
  | p :: l, k, h => by
    have hp := h p (by simp)
    have ih := fun k => chg_congr (t := t) (u := u) (l := l) (k := k) (fun q hq => h q (by simp [hq]))
    simp only [chg, hp, ih]

theorem inc_tail {p : Rat} {l : List Rat} (h : Inc (p :: l)) : Inc l := h.2

theorem inc_off {p : Rat} {l : List Rat} (h : Inc l) : Inc (off p l) := by
  cases l with
  | nil => exact h
  | cons q l => simp only [off]; split
                · exact h.2
                · exact h

theorem mem_off {p r : Rat} {l : List Rat} (h : r ∈ off p l) : r ∈ l := by
  cases l with
  | nil => simp [off] at h
  | cons q l => simp only [off] at h; split at h
                · exact List.mem_cons_of_mem _ h
                · exact h

theorem near_le {a b : List Rat} (ha : Inc a) (hb : Inc b) : (∀ r ∈ off (near a b) a, near a b < r) ∧ (∀ r ∈ off (near a b) b, near a b < r) := by
  cases a with
  | nil => cases b with
    | nil => simp [off]
    | cons q b => refine ⟨by simp [off], ?_⟩; intro r hr; simp [near, off] at hr ⊢; exact hb.1 r hr
  | cons p a => cases b with
    | nil => refine ⟨?_, by simp [off]⟩; intro r hr; simp [near, off] at hr ⊢; exact ha.1 r hr
    | cons q b =>
      by_cases k : q < p
      · have hne : p ≠ q := by grind
        simp only [near, if_pos k, off, if_neg hne, if_true]
        refine ⟨?_, fun r hr => hb.1 r hr⟩
        intro r hr
        rcases List.mem_cons.1 hr with rfl | hr
        · exact k
        · have := ha.1 r hr; grind
      · simp only [near, if_neg k, off, if_true]
        refine ⟨fun r hr => ha.1 r hr, ?_⟩
        by_cases e : q = p
        · intro r hr; rw [if_pos e] at hr; have := hb.1 r hr; grind
        · intro r hr; rw [if_neg e] at hr
          rcases List.mem_cons.1 hr with rfl | hr
          · grind
          · have := hb.1 r hr; grind

theorem mem_mrg : ∀ (n : Nat) (a b : List Rat), a.length + b.length ≤ n → ∀ r, r ∈ mrg a b ↔ r ∈ a ∨ r ∈ b := by
  intro n
  induction n with
  | zero => intro a b h r; have ha : a = [] := List.eq_nil_of_length_eq_zero (by omega); have hb : b = [] := List.eq_nil_of_length_eq_zero (by omega); subst ha hb; unfold mrg; simp
  | succ n ih =>
    intro a b h r
    by_cases k : a = [] ∧ b = []
    · obtain ⟨rfl, rfl⟩ := k; unfold mrg; simp
    · unfold mrg; rw [dif_neg k]
      have hh := near_hit a b k
      have h1 := off_len (near a b) a
      have h2 := off_len (near a b) b
      have hl : (off (near a b) a).length + (off (near a b) b).length ≤ n := by
        rcases hh with k | k
        · have := off_lt _ _ k; omega
        · have := off_lt _ _ k; omega
      rw [List.mem_cons, ih _ _ hl]
      have mo : ∀ l : List Rat, ∀ p, r ∈ l → r = p ∨ r ∈ off p l := by
        intro l p hr
        cases l with
        | nil => simp at hr
        | cons q l => simp only [off]; split
                      · rename_i e; subst e; rcases List.mem_cons.1 hr with h | h; exact Or.inl h; exact Or.inr h
                      · exact Or.inr hr
      have hm : ∀ l : List Rat, ∀ p, hit p l = true → p ∈ l := by
        intro l p hp; cases l with
        | nil => simp [hit] at hp
        | cons q l => simp only [hit, decide_eq_true_eq] at hp; simp [hp]
      constructor
      · rintro (rfl | h | h)
        · rcases hh with k | k
          · exact Or.inl (hm _ _ k)
          · exact Or.inr (hm _ _ k)
        · exact Or.inl (mem_off h)
        · exact Or.inr (mem_off h)
      · rintro (h | h)
        · rcases mo _ (near a b) h with h | h
          · exact Or.inl h
          · exact Or.inr (Or.inl h)
        · rcases mo _ (near a b) h with h | h
          · exact Or.inl h
          · exact Or.inr (Or.inr h)

theorem inc_mrg : ∀ (n : Nat) (a b : List Rat), a.length + b.length ≤ n → Inc a → Inc b → Inc (mrg a b) := by
  intro n
  induction n with
  | zero => intro a b h _ _; have ha : a = [] := List.eq_nil_of_length_eq_zero (by omega); have hb : b = [] := List.eq_nil_of_length_eq_zero (by omega); subst ha hb; unfold mrg; simp [Inc]
  | succ n ih =>
    intro a b h ha hb
    by_cases k : a = [] ∧ b = []
    · obtain ⟨rfl, rfl⟩ := k; unfold mrg; simp [Inc]
    · unfold mrg; rw [dif_neg k]
      have hh := near_hit a b k
      have h1 := off_len (near a b) a
      have h2 := off_len (near a b) b
      have hl : (off (near a b) a).length + (off (near a b) b).length ≤ n := by
        rcases hh with k | k
        · have := off_lt _ _ k; omega
        · have := off_lt _ _ k; omega
      refine ⟨?_, ih _ _ hl (inc_off ha) (inc_off hb)⟩
      intro r hr
      rw [mem_mrg _ _ _ hl] at hr
      have := near_le ha hb
      rcases hr with hr | hr
      · exact this.1 r hr
      · exact this.2 r hr

theorem par_hit {p : Rat} {l : List Rat} (h : Inc l) (hl : ∀ r ∈ off p l, p < r) (x : Bool) : par l x p = xor x (hit p l) := by
  cases l with
  | nil => simp [par, hit]
  | cons q l =>
    by_cases e : q = p
    · subst e
      have hl : ∀ r ∈ l, q < r := by simpa [off] using hl
      have : ∀ (l : List Rat) (z : Bool), (∀ r ∈ l, q < r) → par l z q = z := by
        intro l z h; cases l with
        | nil => rfl
        | cons r l => have := h r (by simp); simp only [par]; rw [if_neg (by grind)]
      simp only [par, hit, decide_true]
      rw [if_pos (by grind), this _ _ hl]; simp
    · have hq : p < q := hl q (by simp [off, e])
      simp only [par, hit, decide_eq_false e]
      rw [if_neg (by grind)]; simp

theorem par_off {p r : Rat} {l : List Rat} (hr : p < r) (x : Bool) : par (off p l) (xor x (hit p l)) r = par l x r := by
  cases l with
  | nil => simp [off, hit]
  | cons q l =>
    by_cases e : q = p
    · subst e
      simp only [off, hit, if_true, decide_true, par]
      rw [if_pos (by grind)]; simp
    · simp only [off, hit, if_neg e, decide_eq_false e]; simp

theorem swp_chg (f : Bool → Bool → Bool) : ∀ (n : Nat) (a b : List Rat), a.length + b.length ≤ n → Inc a → Inc b → ∀ x y k, swp f a b x y k = chg (fun p => f (par a x p) (par b y p)) (mrg a b) k := by
  intro n
  induction n with
  | zero => intro a b h _ _ x y k; have ha : a = [] := List.eq_nil_of_length_eq_zero (by omega); have hb : b = [] := List.eq_nil_of_length_eq_zero (by omega); subst ha hb; unfold swp mrg; simp [chg]
  | succ n ih =>
    intro a b h ha hb x y k
    by_cases kk : a = [] ∧ b = []
    · obtain ⟨rfl, rfl⟩ := kk; unfold swp mrg; simp [chg]
    · unfold swp mrg; rw [dif_neg kk, dif_neg kk]
      have hh := near_hit a b kk
      have h1 := off_len (near a b) a
      have h2 := off_len (near a b) b
      have hl : (off (near a b) a).length + (off (near a b) b).length ≤ n := by
        rcases hh with k | k
        · have := off_lt _ _ k; omega
        · have := off_lt _ _ k; omega
      have hn := near_le ha hb
      have IH := ih _ _ hl (inc_off ha) (inc_off hb) (xor x (hit (near a b) a)) (xor y (hit (near a b) b))
      have hc : ∀ k, chg (fun p => f (par (off (near a b) a) (xor x (hit (near a b) a)) p) (par (off (near a b) b) (xor y (hit (near a b) b)) p)) (mrg (off (near a b) a) (off (near a b) b)) k = chg (fun p => f (par a x p) (par b y p)) (mrg (off (near a b) a) (off (near a b) b)) k := by
        intro k
        refine chg_congr fun r hr => ?_
        rw [mem_mrg _ _ _ hl] at hr
        have : near a b < r := by
          rcases hr with hr | hr
          · exact hn.1 r hr
          · exact hn.2 r hr
        simp only [par_off this]
      simp only [chg, IH, hc, par_hit ha hn.1, par_hit hb hn.2]

/-- A list that increases is told by its members. -/
theorem inc_ext : ∀ {l m : List Rat}, Inc l → Inc m → (∀ r, r ∈ l ↔ r ∈ m) → l = m
  | [], [], _, _, _ => rfl
  | [], q :: m, _, _, h => by have := (h q).2 (by simp); simp at this
  | p :: l, [], _, _, h => by have := (h p).1 (by simp); simp at this
  | p :: l, q :: m, hl, hm, h => by
    have e : p = q := by
      have h1 := (h p).1 (by simp)
      have h2 := (h q).2 (by simp)
      rcases List.mem_cons.1 h1 with e | h1
      · exact e
      · rcases List.mem_cons.1 h2 with e | h2
        · exact e.symm
        · have := hl.1 q h2; have := hm.1 p h1; grind
    subst e
    have : l = m := inc_ext hl.2 hm.2 (fun r => by
      constructor
      · intro hr
        have h1 := (h r).1 (by simp [hr])
        rcases List.mem_cons.1 h1 with e | h1
        · have := hl.1 r hr; grind
        · exact h1
      · intro hr
        have h1 := (h r).2 (by simp [hr])
        rcases List.mem_cons.1 h1 with e | h1
        · have := hm.1 r hr; grind
        · exact h1)
    rw [this]

/-- The ends of spans. -/
def ends : List (Rat × Rat) → List Rat
  | [] => []
  | s :: l => s.1 :: s.2 :: ends l

def pairs : List Rat → List (Rat × Rat)
  | p :: q :: l => (p, q) :: pairs l
  | _ => []

def inn (l : List (Rat × Rat)) (p : Rat) : Bool := l.any fun s => !decide (p < s.1) && decide (p < s.2)

theorem par_far : ∀ (l : List Rat) (z : Bool) (q : Rat), (∀ r ∈ l, q < r) → par l z q = z
  | [], _, _, _ => rfl
  | r :: l, z, q, h => by have := h r (by simp); simp only [par]; rw [if_neg (by grind)]

theorem inn_far : ∀ (l : List (Rat × Rat)) (q : Rat), (∀ r ∈ ends l, q < r) → inn l q = false
  | [], _, _ => rfl
  | s :: l, q, h => by
    have h1 := h s.1 (by simp [ends])
    have ih := inn_far l q (fun r hr => h r (by simp [ends, hr]))
    unfold inn at ih ⊢
    rw [List.any_cons, ih, decide_eq_true h1]; rfl

theorem inn_par : ∀ (l : List (Rat × Rat)), Inc (ends l) → ∀ p, inn l p = par (ends l) false p
  | [], _, _ => rfl
  | s :: l, h, p => by
    have ih := inn_par l h.2.2 p
    have h12 : s.1 < s.2 := h.1 s.2 (by simp)
    have hi : inn (s :: l) p = ((!decide (p < s.1) && decide (p < s.2)) || inn l p) := rfl
    rw [hi]
    simp only [ends, par]
    by_cases a : p < s.1
    · have hf := inn_far l p (fun r hr => by have := h.2.1 r hr; grind)
      rw [hf, if_neg (by grind), decide_eq_true a]; rfl
    · by_cases b : p < s.2
      · rw [if_pos (by grind), if_neg (by grind), decide_eq_false a, decide_eq_true b]; rfl
      · rw [if_pos (by grind), if_pos (by grind), decide_eq_false a, decide_eq_false b]; simpa using ih

/-- The reference's way: out, as it grows from one point to the next. -/
def put1 (take : Bool) (p q : Rat) (out : List (Rat × Rat)) : List (Rat × Rat) :=
  if take then (match out.getLast? with
    | some s => if s.2 = p then out.dropLast ++ [(s.1, q)] else out ++ [(p, q)]
    | none => out ++ [(p, q)])
  else out

def rn (t : Rat → Bool) : List Rat → List (Rat × Rat) → List (Rat × Rat)
  | p :: q :: l, out => rn t (q :: l) (put1 (t p) p q out)
  | _, out => out

theorem chg_cons_eq {t : Rat → Bool} {p : Rat} {l : List Rat} {k : Bool} (h : t p = k) : chg t (p :: l) k = chg t l k := by rw [chg, if_pos h]
theorem chg_cons_ne {t : Rat → Bool} {p : Rat} {l : List Rat} {k : Bool} (h : t p ≠ k) : chg t (p :: l) k = p :: chg t l (t p) := by rw [chg, if_neg h]

theorem rn_pairs (t : Rat → Bool) : ∀ (l : List Rat) (p : Rat), Inc (p :: l) → t ((p :: l).getLast (by simp)) = false →
    (∀ init s, rn t (p :: l) (init ++ [(s, p)]) = init ++ pairs (s :: chg t (p :: l) true)) ∧
    (∀ out, (∀ s, out.getLast? = some s → s.2 < p) → rn t (p :: l) out = out ++ pairs (chg t (p :: l) false))
  | [], p, _, h => by
    have h : t p = false := by simpa using h
    constructor
    · intro init s; simp [rn, chg, h, pairs]
    · intro out _; simp [rn, chg, h, pairs]
  | q :: l, p, hi, h => by
    have h' : t ((q :: l).getLast (by simp)) = false := by simpa using h
    obtain ⟨i1, i2⟩ := rn_pairs t l q hi.2 h'
    have hpq : p < q := hi.1 q (by simp)
    constructor
    · intro init s
      rw [rn]
      by_cases k : t p = true
      · have : put1 (t p) p q (init ++ [(s, p)]) = init ++ [(s, q)] := by simp [put1, k]
        rw [this, i1, chg_cons_eq (p := p) k]
      · have k : t p = false := by simpa using k
        have : put1 (t p) p q (init ++ [(s, p)]) = init ++ [(s, p)] := by simp [put1, k]
        rw [this, i2 _ (by intro s hs; simp at hs; subst hs; exact hpq)]
        rw [chg_cons_ne (p := p) (by simp [k]), k]
        simp [pairs]
    · intro out ho
      rw [rn]
      by_cases k : t p = true
      · have : put1 (t p) p q out = out ++ [(p, q)] := by
          simp only [put1, k, if_true]
          split
          · rename_i s hs; rw [if_neg (by have := ho s hs; grind)]
          · rfl
        rw [this, i1, chg_cons_ne (p := p) (by simp [k]), k]
      · have k : t p = false := by simpa using k
        have : put1 (t p) p q out = out := by simp [put1, k]
        have hne : ∀ s, out.getLast? = some s → s.2 < q := fun s hs => by have := ho s hs; grind
        rw [this, i2 _ hne, chg_cons_eq (p := p) k]

theorem last_ge : ∀ {p : Rat} {l : List Rat}, Inc (p :: l) → ∀ r ∈ p :: l, r ≤ (p :: l).getLast (by simp)
  | p, [], _, r, hr => by have : r = p := by simpa using hr
                          subst this; simp
  | p, q :: l, h, r, hr => by
    rw [List.getLast_cons (by simp)]
    have ih := last_ge h.2
    rcases List.mem_cons.1 hr with rfl | hr
    · have := h.1 q (by simp); have := ih q (by simp); grind
    · exact ih r hr

/-- What the reference's ends and loop give is what the sweep gives. -/
theorem sets_same (f : Bool → Bool → Bool) (hf : f false false = false) (A B : List (Rat × Rat)) (hA : Inc (ends A)) (hB : Inc (ends B)) (S : List Rat) (hS : Inc S) (hm : ∀ r, r ∈ S ↔ r ∈ ends A ∨ r ∈ ends B) :
    rn (fun p => f (inn A p) (inn B p)) S [] = pairs (swp f (ends A) (ends B) false false false) := by
  rw [swp_chg f _ _ _ (Nat.le_refl _) hA hB]
  have e : S = mrg (ends A) (ends B) := inc_ext hS (inc_mrg _ _ _ (Nat.le_refl _) hA hB) (fun r => by rw [hm, mem_mrg _ _ _ (Nat.le_refl _)])
  have et : (fun p => f (par (ends A) false p) (par (ends B) false p)) = fun p => f (inn A p) (inn B p) := by funext p; rw [inn_par A hA, inn_par B hB]
  rw [et, ← e]
  cases S with
  | nil => rfl
  | cons p l =>
    have hl : f (inn A ((p :: l).getLast (by simp))) (inn B ((p :: l).getLast (by simp))) = false := by
      have hge : ∀ r ∈ p :: l, r ≤ (p :: l).getLast (by simp) := last_ge hS
      have no : ∀ C : List (Rat × Rat), (∀ r ∈ ends C, r ∈ p :: l) → inn C ((p :: l).getLast (by simp)) = false := by
        intro C hC
        generalize (p :: l).getLast (by simp) = z at hge
        have : ∀ s ∈ C, s.2 ≤ z := by
          intro s hs
          refine hge _ (hC _ ?_)
          clear hC
          induction C with
          | nil => simp at hs
          | cons c C ih => rcases List.mem_cons.1 hs with rfl | hs
                           · simp [ends]
                           · simp [ends, ih hs]
        unfold inn
        rw [List.any_eq_false]
        intro s hs
        have := this s hs
        simp only [Bool.and_eq_true, decide_eq_true_eq]
        grind
      rw [no A (fun r hr => (hm r).2 (Or.inl hr)), no B (fun r hr => (hm r).2 (Or.inr hr)), hf]
    have := (rn_pairs (fun p => f (inn A p) (inn B p)) l p hS hl).2 [] (by simp)
    simpa using this

end Pc
end Go.Proofs.Ytnnpmegknlgkoaa
