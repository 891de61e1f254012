/- Mathematics of AssignFinds: lists in their order, the first best one. -/
import Derived.Test.YtkibglbccfjkpaaAsu
namespace Go.Proofs.Ytkibglbccfjkpaa.As
/-- The number of a list in the order of lists. -/
def enc (n : Nat) : List Nat → Nat
  | [] => 0
  | x :: l => x * n ^ l.length + enc n l
theorem enc_lt {n : Nat} : ∀ {l : List Nat}, (∀ x ∈ l, x < n) → enc n l < n ^ l.length
  | [], _ => by simp [enc]
  | x :: l, h => by
    have ih := enc_lt (n := n) (l := l) fun y hy => h y (by simp [hy])
    have hx := h x (by simp)
    have h1 : (x + 1) * n ^ l.length ≤ n * n ^ l.length := Nat.mul_le_mul_right _ hx
    rw [Nat.succ_mul] at h1
    simp only [enc, List.length_cons, Nat.pow_succ]
    rw [Nat.mul_comm (n ^ l.length) n]
    omega
theorem enc_lex {n : Nat} : ∀ {l m : List Nat}, l.length = m.length → (∀ x ∈ l, x < n) → (∀ x ∈ m, x < n) → enc n l < enc n m → ∃ i, i < l.length ∧ (∀ k, k < i → l.getD k 0 = m.getD k 0) ∧ l.getD i 0 < m.getD i 0
  | [], [], _, _, _, h => by simp [enc] at h
  | [], _ :: _, hl, _, _, _ => by simp at hl
  | _ :: _, [], hl, _, _, _ => by simp at hl
  | x :: l, y :: m, hl, h1, h2, h => by
    have hl' : l.length = m.length := by simpa using hl
    have e1 := enc_lt (n := n) (l := l) fun z hz => h1 z (by simp [hz])
    have e2 := enc_lt (n := n) (l := m) fun z hz => h2 z (by simp [hz])
    simp only [enc] at h
    rw [hl'] at h e1
    rcases Nat.lt_trichotomy x y with hxy | hxy | hxy
    · exact ⟨0, by simp, fun k hk => absurd hk (by omega), by simpa [List.getD] using hxy⟩
    · subst hxy
      obtain ⟨i, hi, hk, hlt⟩ := enc_lex (l := l) (m := m) hl' (fun z hz => h1 z (by simp [hz])) (fun z hz => h2 z (by simp [hz])) (by omega)
      refine ⟨i + 1, by simpa using hi, fun k hk' => ?_, by rw [getD_cons_succ, getD_cons_succ]; exact hlt⟩
      cases k with
      | zero => simp [List.getD]
      | succ k => rw [getD_cons_succ, getD_cons_succ]; exact hk k (by omega)
    · exfalso
      have h3 : (y + 1) * n ^ m.length ≤ x * n ^ m.length := Nat.mul_le_mul_right _ hxy
      rw [Nat.succ_mul] at h3
      omega
theorem enc_inj {n : Nat} : ∀ {l m : List Nat}, l.length = m.length → (∀ x ∈ l, x < n) → (∀ x ∈ m, x < n) → enc n l = enc n m → l = m
  | [], [], _, _, _, _ => rfl
  | [], _ :: _, hl, _, _, _ => by simp at hl
  | _ :: _, [], hl, _, _, _ => by simp at hl
  | x :: l, y :: m, hl, h1, h2, h => by
    have hl' : l.length = m.length := by simpa using hl
    have e1 := enc_lt (n := n) (l := l) fun z hz => h1 z (by simp [hz])
    have e2 := enc_lt (n := n) (l := m) fun z hz => h2 z (by simp [hz])
    simp only [enc] at h
    rw [hl'] at h e1
    rcases Nat.lt_trichotomy x y with hxy | hxy | hxy
    · have h3 : (x + 1) * n ^ m.length ≤ y * n ^ m.length := Nat.mul_le_mul_right _ hxy
      rw [Nat.succ_mul] at h3
      omega
    · subst hxy
      rw [enc_inj hl' (fun z hz => h1 z (by simp [hz])) (fun z hz => h2 z (by simp [hz])) (by omega)]
    · have h3 : (y + 1) * n ^ m.length ≤ x * n ^ m.length := Nat.mul_le_mul_right _ hxy
      rw [Nat.succ_mul] at h3
      omega
theorem enc_app (n : Nat) : ∀ (p q : List Nat), enc n (p ++ q) = enc n p * n ^ q.length + enc n q
  | [], q => by simp [enc]
  | x :: p, q => by
    simp only [List.cons_append, enc, enc_app n p q, List.length_append, Nat.pow_add]
    rw [Nat.add_mul, Nat.mul_assoc]; omega
theorem enc_top {n : Nat} (hn : 1 ≤ n) : ∀ m, enc n (List.replicate m (n - 1)) + 1 = n ^ m
  | 0 => by simp [enc]
  | m + 1 => by
    have ih := enc_top hn m
    simp only [List.replicate_succ, enc, List.length_replicate]
    rw [Nat.pow_succ, Nat.sub_mul, Nat.one_mul, Nat.mul_comm (n ^ m) n]
    have : n ^ m ≤ n * n ^ m := Nat.le_mul_of_pos_left _ hn
    omega
theorem enc_zero (n : Nat) : ∀ m, enc n (List.replicate m 0) = 0
  | 0 => rfl
  | m + 1 => by simp [List.replicate_succ, enc, enc_zero n m]
theorem enc_step {n : Nat} (hn : 1 ≤ n) (p : List Nat) (x m : Nat) : enc n (p ++ (x + 1) :: List.replicate m 0) = enc n (p ++ x :: List.replicate m (n - 1)) + 1 := by
  have h := enc_top hn m
  simp only [enc_app, enc, List.length_cons, List.length_replicate, enc_zero, Nat.succ_mul]
  omega
/-- The best one of the lists before a number. -/
def BsI (V : List (List Int)) (t : Nat) (T : List Nat) : Prop :=
  (T = [] ∧ ∀ a : List Nat, a.Perm (List.range V.length) → enc V.length a < t → False) ∨
  (T.Perm (List.range V.length) ∧ enc V.length T < t ∧ ∀ a : List Nat, a.Perm (List.range V.length) → enc V.length a < t → wr V a ≤ wr V T ∧ (enc V.length a < enc V.length T → wr V a < wr V T))
theorem perm_dig {n : Nat} {a : List Nat} (h : a.Perm (List.range n)) : a.length = n ∧ ∀ x ∈ a, x < n := ⟨by simpa using h.length_eq, fun x hx => by simpa using h.mem_iff.1 hx⟩
theorem BsI.skip {V : List (List Int)} {t : Nat} {T L : List Nat} (h : BsI V t T) (hL : L.length = V.length) (hd : ∀ x ∈ L, x < V.length) (ht : enc V.length L = t) (hp : ¬ L.Perm (List.range V.length)) : BsI V (t + 1) T := by
  have key : ∀ a : List Nat, a.Perm (List.range V.length) → enc V.length a < t + 1 → enc V.length a < t := fun a ha hlt => by
    obtain ⟨q1, q2⟩ := perm_dig ha
    rcases Nat.lt_or_ge (enc V.length a) t with h1 | h1
    · exact h1
    · have : a = L := enc_inj (by omega) q2 hd (by omega)
      exact absurd (this ▸ ha) hp
  rcases h with ⟨h1, h2⟩ | ⟨h1, h2, h3⟩
  · exact .inl ⟨h1, fun a ha hlt => h2 a ha (key a ha hlt)⟩
  · exact .inr ⟨h1, by omega, fun a ha hlt => h3 a ha (key a ha hlt)⟩
theorem BsI.take {V : List (List Int)} {t : Nat} {T L : List Nat} (h : BsI V t T) (ht : enc V.length L = t) (hp : L.Perm (List.range V.length)) (hb : T = [] ∨ wr V T < wr V L) : BsI V (t + 1) L := by
  obtain ⟨p1, p2⟩ := perm_dig hp
  refine .inr ⟨hp, by omega, fun a ha hlt => ?_⟩
  obtain ⟨q1, q2⟩ := perm_dig ha
  rcases Nat.lt_or_ge (enc V.length a) t with h1 | h1
  · have hw : wr V a < wr V L := by
      rcases h with ⟨h2, h3⟩ | ⟨h2, h3, h4⟩
      · exact (h3 a ha h1).elim
      · have := (h4 a ha h1).1
        rcases hb with hb | hb
        · subst hb
          have := h2.length_eq
          simp at this
          have h5 := ha.length_eq
          simp at h5
          have : a = [] := List.eq_nil_of_length_eq_zero (by omega)
          subst this
          exact absurd (enc_inj (n := V.length) (l := []) (m := []) rfl (by simp) (by simp) rfl) (fun _ => by
            have hL : L = [] := List.eq_nil_of_length_eq_zero (by omega)
            subst hL
            omega)
        · omega
    exact ⟨by omega, fun _ => hw⟩
  · have : a = L := enc_inj (by omega) q2 p2 (by omega)
    subst this
    exact ⟨Int.le_refl _, fun h => absurd h (by omega)⟩
theorem BsI.stay {V : List (List Int)} {t : Nat} {T L : List Nat} (h : BsI V t T) (hT : T ≠ []) (ht : enc V.length L = t) (hp : L.Perm (List.range V.length)) (hb : wr V L ≤ wr V T) : BsI V (t + 1) T := by
  obtain ⟨p1, p2⟩ := perm_dig hp
  rcases h with ⟨h1, _⟩ | ⟨h1, h2, h3⟩
  · exact absurd h1 hT
  · refine .inr ⟨h1, by omega, fun a ha hlt => ?_⟩
    obtain ⟨q1, q2⟩ := perm_dig ha
    rcases Nat.lt_or_ge (enc V.length a) t with h4 | h4
    · exact h3 a ha h4
    · have : a = L := enc_inj (by omega) q2 p2 (by omega)
      subst this
      exact ⟨hb, fun h => absurd h (by omega)⟩
/-- At the end it is the best assignment. -/
theorem BsI.end_ {V : List (List Int)} (ok : Ok V) {T : List Nat} (h : BsI V (V.length ^ V.length) T) : T = bst V := by
  have ht := bst_top ok
  obtain ⟨p1, p2⟩ := perm_dig ht.perm
  have hlt : enc V.length (bst V) < V.length ^ V.length := by have := enc_lt p2; rwa [p1] at this
  rcases h with ⟨_, h2⟩ | ⟨h1, h2, h3⟩
  · exact (h2 _ ht.perm hlt).elim
  · obtain ⟨q1, q2⟩ := perm_dig h1
    have h4 := h3 _ ht.perm hlt
    have h5 := ht.top T h1
    rcases Nat.lt_trichotomy (enc V.length T) (enc V.length (bst V)) with h6 | h6 | h6
    · obtain ⟨i, hi, hk, hd⟩ := enc_lex (by omega) q2 p2 h6
      have := bst_first ok h1 (by omega) (i := i) (by omega) hk
      omega
    · exact enc_inj (by omega) q2 p2 h6
    · have := h4.2 h6
      omega
theorem BsI.zero (V : List (List Int)) : BsI V 0 [] := .inl ⟨rfl, fun _ _ h => absurd h (by omega)⟩
end Go.Proofs.Ytkibglbccfjkpaa.As
