/- The stretches that come, one after the other, and what Value and Mark make of them: plain mathematics. -/
import Derived.Test.YtomokdepndclpaaInvm
namespace Go.Proofs.Ytomokdepndclpaa
namespace Ck
/-- A cake's cuts and densities, and two points. -/
structure Sx where
  c : List Int
  d : List Int
  n1 : Int
  d1 : Int
  n2 : Int
  d2 : Int
namespace Sx
/-- Where the part of an interval begins, where it ends, its worth. -/
def bg (X : Sx) (k : Nat) : Int × Int := mxS X.n1 X.d1 (at_ X.c k) 1
def en (X : Sx) (k : Nat) : Int × Int := mnS X.n2 X.d2 (at_ X.c (k + 1)) 1
def wt (X : Sx) (k : Nat) : Int × Int × Int := wthS (X.bg k).1 (X.bg k).2 (X.en k).1 (X.en k).2 (at_ X.d k)
/-- The interval has a stretch. -/
def has (X : Sx) (k : Nat) : Prop := at_ X.d k ≠ 0 ∧ Rp.q (X.bg k).1 (X.bg k).2 < Rp.q (X.en k).1 (X.en k).2
instance (X : Sx) (k : Nat) : Decidable (X.has k) := by unfold has; infer_instance
abbrev It (X : Sx) : Type := { k : Nat // X.has k }
/-- One of them has no ratio. -/
def bad (X : Sx) (l : List X.It) : Bool := l.any (fun x => decide ((X.wt x.1).2.2 ≠ 0))
/-- What has come when k intervals have been looked at. -/
def idx (X : Sx) : Nat → List X.It
  | 0 => []
  | k + 1 => if h : X.has k then (if X.bad (X.idx k) = true then X.idx k else X.idx k ++ [⟨k, h⟩]) else X.idx k
theorem idx_no (X : Sx) {k : Nat} (h : ¬ X.has k) : X.idx (k + 1) = X.idx k := by
  show (if h : X.has k then _ else _) = _
  rw [dif_neg h]
theorem idx_yes (X : Sx) {k : Nat} (h : X.has k) (hb : X.bad (X.idx k) = false) : X.idx (k + 1) = X.idx k ++ [⟨k, h⟩] := by
  show (if h : X.has k then _ else _) = _
  rw [dif_pos h, if_neg (by rw [hb]; decide)]
theorem idx_bad (X : Sx) {k : Nat} (hb : X.bad (X.idx k) = true) : X.idx (k + 1) = X.idx k := by
  show (if h : X.has k then (if X.bad (X.idx k) = true then X.idx k else X.idx k ++ [⟨k, h⟩]) else X.idx k) = _
  by_cases h : X.has k
  · rw [dif_pos h, if_pos hb]
  · rw [dif_neg h]
theorem idx_stay (X : Sx) {k : Nat} (hb : X.bad (X.idx k) = true) : ∀ t, X.idx (k + t) = X.idx k
  | 0 => rfl
  | t + 1 => by
    have ih := idx_stay X hb t
    show X.idx (k + t + 1) = _
    rw [idx_bad X (by rw [ih]; exact hb), ih]
theorem idx_end (X : Sx) {k m : Nat} (hb : X.bad (X.idx k) = true) (h : k ≤ m) : X.idx m = X.idx k := by
  have := idx_stay X hb (m - k)
  rwa [show k + (m - k) = m by omega] at this
theorem bad_snoc (X : Sx) (l : List X.It) (x : X.It) : X.bad (l ++ [x]) = (X.bad l || decide ((X.wt x.1).2.2 ≠ 0)) := by
  unfold bad
  simp
theorem idx_len (X : Sx) : ∀ k, (X.idx k).length ≤ k
  | 0 => Nat.le_refl _
  | k + 1 => by
    have ih := idx_len X k
    by_cases h : X.has k
    · cases hb : X.bad (X.idx k) with
      | true => rw [idx_bad X hb]; omega
      | false => rw [idx_yes X h hb, List.length_append]; simp; omega
    · rw [idx_no X h]; omega
/-- What Value makes of a stretch. -/
def vst (X : Sx) (a : Int × Int × Int) (x : X.It) : Int × Int × Int :=
  if a.2.2 ≠ 0 then a else if (X.wt x.1).2.2 ≠ 0 then (0, 0, 16) else Rp.addS a.1 a.2.1 (X.wt x.1).1 (X.wt x.1).2.1
def vall (X : Sx) (l : List X.It) : Int × Int × Int := l.foldl X.vst (0, 1, 0)
theorem vall_snoc (X : Sx) (l : List X.It) (x : X.It) : X.vall (l ++ [x]) = X.vst (X.vall l) x := by
  unfold vall
  rw [List.foldl_append]
  rfl
theorem vst_err (X : Sx) : ∀ (l : List X.It) (a : Int × Int × Int), a.2.2 ≠ 0 → l.foldl X.vst a = a
  | [], _, _ => rfl
  | x :: l, a, h => by
    rw [List.foldl_cons]
    have : X.vst a x = a := by unfold vst; rw [if_pos h]
    rw [this]
    exact vst_err X l a h
theorem vst_bad (X : Sx) : ∀ (l : List X.It) (a : Int × Int × Int), X.bad l = true → (l.foldl X.vst a).2.2 ≠ 0
  | [], _, h => by cases h
  | x :: l, a, h => by
    rw [List.foldl_cons]
    by_cases e : (X.vst a x).2.2 ≠ 0
    · rw [vst_err X l _ e]
      exact e
    · refine vst_bad X l _ ?_
      unfold bad at h
      rw [List.any_cons, Bool.or_eq_true] at h
      rcases h with h | h
      · exfalso
        apply e
        rw [decide_eq_true_iff] at h
        unfold vst
        by_cases ea : a.2.2 ≠ 0
        · rw [if_pos ea]; exact ea
        · rw [if_neg ea, if_pos h]; decide
      · exact h
theorem vgo_fold (X : Sx) : ∀ k, vgo X.c X.d X.n1 X.d1 X.n2 X.d2 k = X.vall (X.idx k)
  | 0 => rfl
  | k + 1 => by
    have ih := vgo_fold X k
    unfold vgo
    rw [ih]
    by_cases h : X.has k
    · cases hb : X.bad (X.idx k) with
      | true =>
        rw [idx_bad X hb, if_pos (show (X.vall (X.idx k)).2.2 ≠ 0 from vst_bad X _ _ hb)]
      | false =>
        rw [idx_yes X h hb, vall_snoc]
        unfold vst
        by_cases e : (X.vall (X.idx k)).2.2 ≠ 0
        · rw [if_pos e, if_pos e]
        · rw [if_neg e, if_neg e, if_neg (by
            rintro (g | g)
            · exact h.1 g
            · exact g h.2)]
          rfl
    · rw [idx_no X h]
      by_cases e : (X.vall (X.idx k)).2.2 ≠ 0
      · rw [if_pos e]
      · rw [if_neg e, if_pos (by
          unfold has at h
          by_cases g : at_ X.d k = 0
          · exact .inl g
          · exact .inr (fun g2 => h ⟨g, g2⟩))]
/-- What Mark makes of a stretch: what is left of the value, or the answer. -/
def mst (X : Sx) (a : (Int × Int) ⊕ (Int × Int × Int)) (x : X.It) : (Int × Int) ⊕ (Int × Int × Int) :=
  match a with
  | .inr r => .inr r
  | .inl l =>
    if (X.wt x.1).2.2 ≠ 0 then .inr (0, 0, 16)
    else if ¬ Rp.q (X.wt x.1).1 (X.wt x.1).2.1 < Rp.q l.1 l.2 then .inr (rchS (X.bg x.1).1 (X.bg x.1).2 (at_ X.d x.1) l.1 l.2)
    else if (Rp.subS l.1 l.2 (X.wt x.1).1 (X.wt x.1).2.1).2.2 ≠ 0 then .inr (0, 0, 16)
    else .inl ((Rp.subS l.1 l.2 (X.wt x.1).1 (X.wt x.1).2.1).1, (Rp.subS l.1 l.2 (X.wt x.1).1 (X.wt x.1).2.1).2.1)
def mall (X : Sx) (l1 l2 : Int) (l : List X.It) : (Int × Int) ⊕ (Int × Int × Int) := l.foldl X.mst (.inl (l1, l2))
theorem mall_snoc (X : Sx) (l1 l2 : Int) (l : List X.It) (x : X.It) : X.mall l1 l2 (l ++ [x]) = X.mst (X.mall l1 l2 l) x := by
  unfold mall
  rw [List.foldl_append]
  rfl
theorem mst_err (X : Sx) : ∀ (l : List X.It) (r : Int × Int × Int), l.foldl X.mst (.inr r) = .inr r
  | [], _ => rfl
  | x :: l, r => by
    rw [List.foldl_cons]
    exact mst_err X l r
theorem mst_bad (X : Sx) : ∀ (l : List X.It) (a : (Int × Int) ⊕ (Int × Int × Int)), X.bad l = true → ∃ r, l.foldl X.mst a = .inr r
  | [], _, h => by cases h
  | x :: l, a, h => by
    rw [List.foldl_cons]
    cases e : X.mst a x with
    | inr r => exact ⟨r, mst_err X l r⟩
    | inl y =>
      refine mst_bad X l _ ?_
      unfold bad at h
      rw [List.any_cons, Bool.or_eq_true] at h
      rcases h with h | h
      · exfalso
        rw [decide_eq_true_iff] at h
        unfold mst at e
        cases a with
        | inr r => cases e
        | inl z => dsimp only at e; rw [if_pos h] at e; cases e
      · exact h
theorem mgo_fold (X : Sx) (len : Int) (h2 : X.n2 = len) (h3 : X.d2 = 1) (l1 l2 : Int) (m : Nat) : ∀ k, k ≤ m →
    (∀ l, X.mall l1 l2 (X.idx k) = .inl l → mgo len X.c X.d X.n1 X.d1 m 0 l1 l2 = mgo len X.c X.d X.n1 X.d1 (m - k) k l.1 l.2) ∧
    (∀ r, X.mall l1 l2 (X.idx k) = .inr r → mgo len X.c X.d X.n1 X.d1 m 0 l1 l2 = r)
  | 0, _ => ⟨fun l h => by injection h with h; subst h; rfl, fun r h => by injection h⟩
  | k + 1, hk => by
    have ih := mgo_fold X len h2 h3 l1 l2 m k (by omega)
    cases hb : X.bad (X.idx k) with
    | true =>
      rw [idx_bad X hb]
      refine ⟨fun l h => ?_, ih.2⟩
      obtain ⟨r, hr⟩ := mst_bad X (X.idx k) (.inl (l1, l2)) hb
      have : X.mall l1 l2 (X.idx k) = .inr r := hr
      rw [this] at h
      cases h
    | false =>
      obtain ⟨f, hf⟩ : ∃ f, m - k = f + 1 := ⟨m - k - 1, by omega⟩
      have hf' : m - (k + 1) = f := by omega
      by_cases h : X.has k
      · rw [idx_yes X h hb, mall_snoc]
        cases ea : X.mall l1 l2 (X.idx k) with
        | inr r =>
          have := ih.2 r ea
          exact ⟨(fun l e => by cases e), fun r' e => by injection e with e; subst e; exact this⟩
        | inl l =>
          have e0 := ih.1 l ea
          rw [hf] at e0
          rw [hf', e0]
          rw [mgo]
          rw [if_neg (by
            subst h2
            rintro (g | g)
            · exact h.1 g
            · refine g ?_
              have := h.2
              unfold bg en at this
              rw [h3] at this
              exact this)]
          have hw : wthS (mxS X.n1 X.d1 (at_ X.c k) 1).1 (mxS X.n1 X.d1 (at_ X.c k) 1).2 (mnS len 1 (at_ X.c (k + 1)) 1).1 (mnS len 1 (at_ X.c (k + 1)) 1).2 (at_ X.d k) = X.wt k := by
            unfold wt en bg
            rw [h2, h3]
          rw [hw]
          unfold mst
          dsimp only
          by_cases g1 : (X.wt k).2.2 ≠ 0
          · rw [if_pos g1, if_pos g1]
            exact ⟨(fun l e => by cases e), fun r e => by injection e with e⟩
          · rw [if_neg g1, if_neg g1]
            by_cases g2 : ¬ Rp.q (X.wt k).1 (X.wt k).2.1 < Rp.q l.1 l.2
            · rw [if_pos g2, if_pos g2]
              exact ⟨(fun l e => by cases e), fun r e => by injection e with e⟩
            · rw [if_neg g2, if_neg g2]
              by_cases g3 : (Rp.subS l.1 l.2 (X.wt k).1 (X.wt k).2.1).2.2 ≠ 0
              · rw [if_pos g3, if_pos g3]
                exact ⟨(fun l e => by cases e), fun r e => by injection e with e⟩
              · rw [if_neg g3, if_neg g3]
                exact ⟨fun l e => by injection e with e; subst e; rfl, (fun r e => by cases e)⟩
      · rw [idx_no X h]
        refine ⟨fun l ea => ?_, ih.2⟩
        rw [ih.1 l ea, hf, hf']
        show mgo len X.c X.d X.n1 X.d1 (f + 1) k l.1 l.2 = _
        conv => lhs; unfold mgo
        rw [if_pos (by
          subst h2
          unfold has at h
          by_cases g : at_ X.d k = 0
          · exact .inl g
          · refine .inr (fun g2 => h ⟨g, ?_⟩)
            unfold bg en
            rw [h3]
            exact g2)]
/-- A stretch, as it comes. -/
def sv (X : Sx) (k : Nat) : Value :=
  if (X.wt k).2.2 = 0 then .agg #[.int .i64 (X.bg k).1, .int .i64 (X.bg k).2, .int .i64 (X.wt k).1, .int .i64 (X.wt k).2.1, .int .i64 (at_ X.d k)]
  else .agg #[.int .i64 0, .int .i64 0, .int .i64 0, .int .i64 0, .int .i64 0]
def sc (X : Sx) (k : Nat) (j : Nat) : Int :=
  if (X.wt k).2.2 = 0 then [(X.bg k).1, (X.bg k).2, (X.wt k).1, (X.wt k).2.1, at_ X.d k].getD j 0 else 0
end Sx
end Ck
end Go.Proofs.Ytomokdepndclpaa
