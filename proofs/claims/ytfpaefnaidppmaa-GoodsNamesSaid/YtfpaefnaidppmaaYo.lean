/- A region that draws its order, reads and calls first, and then stores into what it has read. -/
import Derived.Test.YtfpaefnaidppmaaYa
import Derived.StillTail
namespace Go.Proofs.Ytfpaefnaidppmaa
section
variable {P : Program} {ops : Array Oper} {Q : Exit → Act → World → Prop} {md : Region.Mode} {S T : World → Prop} {s : Nat}
/-- Whatever comes up next: S holds behind it, as long as number s has not come up; T from there on. -/
def ordU (P : Program) (md : Region.Mode) (ops : Array Oper) (Q : Exit → Act → World → Prop) (S T : World → Prop) (s : Nat) : Nat → Array Bool → Act → World → Prop
  | 0, l, a, w => Region.ready md ops l = [] ∧ Q .normal a w
  | n + 1, l, a, w => (Region.ready md ops l = [] → Q .normal a w) ∧
    ∀ i ∈ Region.ready md ops l, wpOp P ops Q i (fun b u => (i = s → T u ∧ wpAnyH P md ops Q T n (l.setIfInBounds i true) b u) ∧ (i ≠ s → S u ∧ ordU P md ops Q S T s n (l.setIfInBounds i true) b u)) a w
theorem ordU_any : ∀ (n : Nat) (l : Array Bool) (a : Act) (w : World), ordU P md ops Q S T s n l a w → wpAny P md ops Q n l a w
  | 0, _, _, _, h => h
  | n + 1, l, a, w, h => ⟨h.1, fun i hi => wpOp_mono (fun b u k => by
      by_cases e : i = s
      · exact wpAny_of_held _ _ _ _ (k.1 e).2
      · exact ordU_any n _ _ _ (k.2 e).2) (h.2 i hi)⟩
/-- Taken first: what yields the same in each world of S, if number s waits for it. -/
theorem ordU_first {i : Nat} {o : Oper} {v : Value} (hi : ops[i]? = some o) (hns : Region.noSelect ops = true) (hQ : ∀ c a w, Q (.panic c) (a.put o.dst v) w → Q (.panic c) a w) (hws : Region.waitsFor md ops s i = true) :
    ∀ (n : Nat) (l : Array Bool) (a : Act) (w : World), (∀ j p, ops[j]? = some p → j ≠ i → l.getD j true = false → (∀ e ∈ p.after, Region.binds md e = true → e.on ≠ i) → o.apart ops p = true) →
      i ∈ Region.ready md ops l → YieldsIf P ops S o v a → S w → ordU P md ops Q S T s n (l.setIfInBounds i true) (a.put o.dst v) w → ordU P md ops Q S T s (n + 1) l a w := by
  have sel := Region.noSelect_spec hns
  obtain ⟨os, hos, x, hx, hxb, hxi⟩ := Region.waitsFor_spec hws
  have un : ∀ l : Array Bool, i ∈ Region.ready md ops l → l.getD i false = false := fun l hr => by
    have h0 := (mem_ready.1 hr).1
    rcases Nat.lt_or_ge i l.size with k | k
    · simp [k] at h0 ⊢
      exact h0
    · simp [Array.getElem?_eq_none k]
  have his : ∀ l : Array Bool, i ∈ Region.ready md ops l → ∀ j ∈ Region.ready md ops l, j ≠ s := fun l hr j hj e => by
    subst e
    obtain ⟨_, p, hp, hall⟩ := mem_ready.1 hj
    rw [hos] at hp
    cases hp
    have := hall x hx hxb
    rw [hxi, un l hr] at this
    cases this
  intro n
  induction n with
  | zero =>
    intro l a w _ hr hy hS H
    refine ⟨fun h => (by rw [h] at hr; cases hr), fun j hj => ?_⟩
    by_cases e : j = i
    · subst e
      exact hy.wpOp hi hS ⟨fun e => absurd e (his l hr j hr), fun _ => ⟨hS, H⟩⟩
    · have := ready_mono hj e
      rw [H.1] at this
      cases this
  | succ n ih =>
    intro l a w hfree hr hy hS H
    refine ⟨fun h => (by rw [h] at hr; cases hr), fun j hj => ?_⟩
    have hjs := his l hr j hj
    by_cases e : j = i
    · subst e
      exact hy.wpOp hi hS ⟨fun e => absurd e hjs, fun _ => ⟨hS, H⟩⟩
    · have h1 := wpOp_mono (fun b u k => k.2 hjs) (H.2 j (ready_mono hj e))
      obtain ⟨hju, p, hp, hall⟩ := mem_ready.1 hj
      have hno : ∀ y ∈ p.after, Region.binds md y = true → y.on ≠ i := fun y hy' hb he => by
        have := hall y hy' hb
        rw [he, un l hr] at this
        cases this
      have h2 := wpOp_putIf hp (hfree j p hp e hju hno) (fun cs b => sel i o cs b hi) (fun cs b => sel j p cs b hp) hQ hy h1
      refine wpOp_mono (fun b u h3 => ⟨fun e => absurd e hjs, fun _ => ⟨h3.2.1, ih (l.setIfInBounds j true) b u (fun k ok hk hki hun hn => ?_) (ready_mono hr (Ne.symm e)) h3.1 h3.2.1 ?_⟩⟩) h2
      · refine hfree k ok hk hki ?_ hn
        by_cases hjk : j = k
        · subst hjk
          exact hju
        · rwa [getD_set_ne true hjk] at hun
      · rw [Array.setIfInBounds_comm _ _ e]
        exact h3.2.2
theorem ordU_take {i : Nat} {o : Oper} {v : Value} {n : Nat} {l : Array Bool} {a : Act} {w : World} (hi : ops[i]? = some o) (hns : Region.noSelect ops = true) (hf : Region.free md ops l i = true) (hr : (Region.ready md ops l).contains i = true) (hws : Region.waitsFor md ops s i = true)
    (hQ : ∀ c a w, Q (.panic c) (a.put o.dst v) w → Q (.panic c) a w) (hy : YieldsIf P ops S o v a) (hS : S w) (h : ordU P md ops Q S T s n (l.setIfInBounds i true) (a.put o.dst v) w) : ordU P md ops Q S T s (n + 1) l a w :=
  ordU_first hi hns hQ hws n l a w (Region.free_spec hi hf) (by simpa using hr) hy hS h
/-- Taken first: what yields the same in each world of S and in each world of T. -/
theorem ordU_first2 {i : Nat} {o : Oper} {v : Value} (hi : ops[i]? = some o) (hns : Region.noSelect ops = true) (hQ : ∀ c a w, Q (.panic c) (a.put o.dst v) w → Q (.panic c) a w) (his : i ≠ s) :
    ∀ (n : Nat) (l : Array Bool) (a : Act) (w : World), (∀ j p, ops[j]? = some p → j ≠ i → l.getD j true = false → (∀ e ∈ p.after, Region.binds md e = true → e.on ≠ i) → o.apart ops p = true) →
      i ∈ Region.ready md ops l → YieldsIf P ops S o v a → YieldsIf P ops T o v a → S w → ordU P md ops Q S T s n (l.setIfInBounds i true) (a.put o.dst v) w → ordU P md ops Q S T s (n + 1) l a w := by
  have sel := Region.noSelect_spec hns
  have un : ∀ l : Array Bool, i ∈ Region.ready md ops l → l.getD i false = false := fun l hr => by
    have h0 := (mem_ready.1 hr).1
    rcases Nat.lt_or_ge i l.size with k | k
    · simp [k] at h0 ⊢
      exact h0
    · simp [Array.getElem?_eq_none k]
  intro n
  induction n with
  | zero =>
    intro l a w _ hr hy _ hS H
    refine ⟨fun h => (by rw [h] at hr; cases hr), fun j hj => ?_⟩
    by_cases e : j = i
    · subst e
      exact hy.wpOp hi hS ⟨fun e => absurd e his, fun _ => ⟨hS, H⟩⟩
    · have := ready_mono hj e
      rw [H.1] at this
      cases this
  | succ n ih =>
    intro l a w hfree hr hy hz hS H
    refine ⟨fun h => (by rw [h] at hr; cases hr), fun j hj => ?_⟩
    by_cases e : j = i
    · subst e
      exact hy.wpOp hi hS ⟨fun e => absurd e his, fun _ => ⟨hS, H⟩⟩
    · obtain ⟨hju, p, hp, hall⟩ := mem_ready.1 hj
      have hno : ∀ y ∈ p.after, Region.binds md y = true → y.on ≠ i := fun y hy' hb he => by
        have := hall y hy' hb
        rw [he, un l hr] at this
        cases this
      have hfree2 : ∀ k ok, ops[k]? = some ok → k ≠ i → (l.setIfInBounds j true).getD k true = false → (∀ e ∈ ok.after, Region.binds md e = true → e.on ≠ i) → o.apart ops ok = true := fun k ok hk hki hun hn => by
        refine hfree k ok hk hki ?_ hn
        by_cases hjk : j = k
        · subst hjk
          exact hju
        · rwa [getD_set_ne true hjk] at hun
      have hap := hfree j p hp e hju hno
      have h0 := H.2 j (ready_mono hj e)
      by_cases hjs : j = s
      · have h1 := wpOp_mono (fun b u k => k.1 hjs) h0
        have h2 := wpOp_putIf hp hap (fun cs b => sel i o cs b hi) (fun cs b => sel j p cs b hp) hQ hz h1
        refine wpOp_mono (fun b u h3 => ⟨fun _ => ⟨h3.2.1, wpAnyH_first hi sel hQ n _ _ _ hfree2 (ready_mono hr (Ne.symm e)) h3.1 h3.2.1 ?_⟩, fun k => absurd hjs k⟩) h2
        rw [Array.setIfInBounds_comm _ _ e]
        exact h3.2.2
      · have h1 := wpOp_mono (fun b u k => k.2 hjs) h0
        have h2 := wpOp_putIf (S := fun u => S u ∨ T u) hp hap (fun cs b => sel i o cs b hi) (fun cs b => sel j p cs b hp) hQ
          (hy.elim (fun ⟨q1, q2⟩ => hz.elim (fun ⟨_, q3⟩ => .inl ⟨q1, fun w k => k.elim (q2 w) (q3 w)⟩) (fun ⟨q3, _⟩ => by rw [q1] at q3; cases q3)) (fun k => .inr k)) h1
        refine wpOp_mono (fun b u h3 => ⟨fun k => absurd k hjs, fun _ => ⟨h3.2.1, ih (l.setIfInBounds j true) b u hfree2 (ready_mono hr (Ne.symm e)) (h3.1.imp (fun ⟨q1, q2⟩ => ⟨q1, fun w k => q2 w (.inl k)⟩) id) (h3.1.imp (fun ⟨q1, q2⟩ => ⟨q1, fun w k => q2 w (.inr k)⟩) id) h3.2.1 ?_⟩⟩) h2
        rw [Array.setIfInBounds_comm _ _ e]
        exact h3.2.2
theorem ordU_take2 {i : Nat} {o : Oper} {v : Value} {n : Nat} {l : Array Bool} {a : Act} {w : World} (hi : ops[i]? = some o) (hns : Region.noSelect ops = true) (hf : Region.free md ops l i = true) (hr : (Region.ready md ops l).contains i = true) (his : i ≠ s)
    (hQ : ∀ c a w, Q (.panic c) (a.put o.dst v) w → Q (.panic c) a w) (hy : YieldsIf P ops S o v a) (hz : YieldsIf P ops T o v a) (hS : S w) (h : ordU P md ops Q S T s n (l.setIfInBounds i true) (a.put o.dst v) w) : ordU P md ops Q S T s (n + 1) l a w :=
  ordU_first2 hi hns hQ his n l a w (Region.free_spec hi hf) (by simpa using hr) hy hz hS h
/-- Each of the operations comes up next. -/
def ReadyU (P : Program) (md : Region.Mode) (ops : Array Oper) (Q : Exit → Act → World → Prop) (S T : World → Prop) (s n : Nat) (l : Array Bool) (a : Act) (w : World) (rs : List Nat) : Prop :=
  ∀ i ∈ rs, wpOp P ops Q i (fun b u => (i = s → T u ∧ wpAnyH P md ops Q T n (l.setIfInBounds i true) b u) ∧ (i ≠ s → S u ∧ ordU P md ops Q S T s n (l.setIfInBounds i true) b u)) a w
theorem ReadyU.nil {n : Nat} {l : Array Bool} {a : Act} {w : World} : ReadyU P md ops Q S T s n l a w [] := fun _ h => by cases h
theorem ReadyU.cons {n i : Nat} {o : Oper} {rs : List Nat} {l : Array Bool} {a : Act} {w : World} (ho : ops[i]? = some o) (his : i ≠ s)
    (h : ∀ K : Act → World → Prop, Shut (∀ a w, S w → (S w → ordU P md ops Q S T s n (l.setIfInBounds i true) a w) → K a w) → if Region.wanted o (yielded ops a.tmps) = true then Oper.wp P o a w K Q else K (a.put o.dst undef) w)
    (hs : ReadyU P md ops Q S T s n l a w rs) : ReadyU P md ops Q S T s n l a w (i :: rs) := fun j hj => by
  rcases List.mem_cons.1 hj with rfl | hj
  · exact wpOp_step ho (fun K hK => h K (fun a w hS hW => hK a w ⟨fun e => absurd e his, fun _ => ⟨hS, hW hS⟩⟩))
  · exact hs j hj
theorem ordU_ready {rs : List Nat} {n : Nat} {l : Array Bool} {a : Act} {w : World} (hr : Region.ready md ops l = rs) (hne : rs ≠ []) (h : ReadyU P md ops Q S T s n l a w rs) : ordU P md ops Q S T s (n + 1) l a w :=
  ⟨fun h0 => absurd (hr ▸ h0) hne, hr ▸ h⟩
/-- Number s comes up: from here on T alone. -/
theorem ordU_at {n : Nat} {l : Array Bool} {a : Act} {w : World} (hr : Region.ready md ops l = [s]) (h : wpAnyH P md ops Q T (n + 1) l a w) : ordU P md ops Q S T s (n + 1) l a w := by
  refine ⟨fun h0 => absurd (hr.symm.trans h0) (by simp), fun i hi => ?_⟩
  have := h.2 i hi
  rw [hr] at hi
  obtain rfl : i = s := by simpa using hi
  exact wpOp_mono (fun b u k => ⟨fun _ => k, fun e => absurd rfl e⟩) this
theorem at_ordU {n : Nat} {l : Array Bool} {a : Act} {w : World} (R : World → Prop) (h : R w) (k : ∀ V, R V → ordU P md ops Q S T s n l a V) : ordU P md ops Q S T s n l a w := k w h
theorem region_ordU {id : Nat} {a : Act} {w : World} (T : World → Prop) (s : Nat) (hm : P.follows .mixedOrders = true) (hS : S w.drew)
    (h : S w.drew → ordU P .any ops Q S T s ops.size (Array.replicate ops.size false) a w.drew) : (Code.region id ops true).wp P Q a w :=
  wp_region_any hm (ordU_any _ _ _ _ (h hS))
end
end Go.Proofs.Ytfpaefnaidppmaa
