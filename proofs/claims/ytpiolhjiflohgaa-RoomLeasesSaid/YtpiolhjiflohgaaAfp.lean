/- Mathematics of AssignFinds: the greatest paths, and the least prices. -/
import Derived.Test.YtpiolhjiflohgaaAsp
namespace Go.Proofs.Ytpiolhjiflohgaa.As
def upd (S : Nat → Bool) (x : Nat) (b : Bool) : Nat → Bool := fun i => if i = x then b else S i
/-- How many items are not seen yet. -/
def cnt (S : Nat → Bool) (n : Nat) : Nat := ((List.range n).filter (fun i => !S i)).length
/-- A step of the search for the greatest one. -/
def stp (S : Nat → Bool) (val : Nat → Int) (st : Int × Bool) (j : Nat) : Int × Bool := if S j then st else if !st.2 || decide (st.1 < val j) then (val j, true) else st
/-- The greatest path from x to an item, over items that are not seen. -/
def lk (V : List (List Int)) (b : List Nat) (to : Nat) : Nat → (Nat → Bool) → Nat → Int
  | 0, _, _ => 0
  | f + 1, S, x => if x = to then 0 else ((List.range V.length).foldl (stp (upd S x true) (fun j => wt V b x j + lk V b to f (upd S x true) j)) (0, false)).1
theorem stp_fold (S : Nat → Bool) (val : Nat → Int) : ∀ (l : List Nat) (st : Int × Bool),
    (st.2 = true → (l.foldl (stp S val) st).2 = true ∧ st.1 ≤ (l.foldl (stp S val) st).1) ∧ (∀ j ∈ l, S j = false → (l.foldl (stp S val) st).2 = true ∧ val j ≤ (l.foldl (stp S val) st).1) ∧
    ((l.foldl (stp S val) st).2 = true → (l.foldl (stp S val) st) = st ∨ ∃ j ∈ l, S j = false ∧ (l.foldl (stp S val) st).1 = val j) ∧ ((l.foldl (stp S val) st).2 = false → l.foldl (stp S val) st = st)
  | [], st => ⟨fun h => ⟨h, Int.le_refl _⟩, by simp, fun _ => .inl rfl, fun _ => rfl⟩
  | x :: l, st => by
    have ih := stp_fold S val l (stp S val st x)
    simp only [List.foldl_cons]
    obtain ⟨i1, i2, i3, i4⟩ := ih
    by_cases hx : S x = true
    · have e : stp S val st x = st := by unfold stp; rw [if_pos hx]
      rw [e] at i1 i2 i3 i4 ⊢
      refine ⟨i1, fun j hj hS => ?_, fun h => ?_, i4⟩
      · rcases List.mem_cons.1 hj with rfl | hj
        · rw [hx] at hS; cases hS
        · exact i2 j hj hS
      · rcases i3 h with h1 | ⟨j, hj, h1⟩
        · exact .inl h1
        · exact .inr ⟨j, by simp [hj], h1⟩
    · have hx : S x = false := by simpa using hx
      by_cases hc : (!st.2 || decide (st.1 < val x)) = true
      · have e : stp S val st x = (val x, true) := by unfold stp; rw [if_neg (by rw [hx]; simp), if_pos hc]
        rw [e] at i1 i2 i3 i4 ⊢
        have h1 := i1 rfl
        refine ⟨fun h => ⟨h1.1, ?_⟩, fun j hj hS => ?_, fun h => ?_, fun h => ?_⟩
        · rw [h] at hc
          have : st.1 < val x := by simpa using hc
          have := h1.2
          simp only at this
          omega
        · rcases List.mem_cons.1 hj with rfl | hj
          · exact h1
          · exact i2 j hj hS
        · rcases i3 h with h2 | ⟨j, hj, h2⟩
          · exact .inr ⟨x, by simp, hx, by rw [h2]⟩
          · exact .inr ⟨j, by simp [hj], h2⟩
        · rw [h1.1] at h; cases h
      · have hc2 : st.2 = true ∧ ¬ st.1 < val x := by
          cases h2 : st.2 <;> simp [h2] at hc ⊢
          omega
        have e : stp S val st x = st := by unfold stp; rw [if_neg (by rw [hx]; simp), if_neg hc]
        rw [e] at i1 i2 i3 i4 ⊢
        refine ⟨i1, fun j hj hS => ?_, fun h => ?_, i4⟩
        · rcases List.mem_cons.1 hj with rfl | hj
          · have := i1 hc2.1
            exact ⟨this.1, by omega⟩
          · exact i2 j hj hS
        · rcases i3 h with h1 | ⟨j, hj, h1⟩
          · exact .inl h1
          · exact .inr ⟨j, by simp [hj], h1⟩
/-- What a path along items is worth. -/
def fw (V : List (List Int)) (b : List Nat) : List Nat → Int
  | x :: y :: l => wt V b x y + fw V b (y :: l)
  | _ => 0
theorem fw_snoc (V : List (List Int)) (b : List Nat) : ∀ (A : List Nat) (x y : Nat), fw V b (A ++ [x, y]) = fw V b (A ++ [x]) + wt V b x y
  | [], x, y => by simp [fw]
  | [z], x, y => by simp [fw]
  | z :: u :: A, x, y => by
    have := fw_snoc V b (u :: A) x y
    simp only [List.cons_append, fw] at this ⊢
    omega
theorem fw_rev (V : List (List Int)) (b : List Nat) : ∀ l : List Nat, fw V b l.reverse = rk V b l
  | [] => rfl
  | [x] => rfl
  | y :: x :: l => by
    have := fw_rev V b (x :: l)
    simp only [List.reverse_cons, List.append_assoc, List.singleton_append] at this ⊢
    rw [fw_snoc, this]
    simp only [rk]; omega
section
variable {V : List (List Int)} {b : List Nat}
theorem cnt_upd {S : Nat → Bool} {x n : Nat} (hx : x < n) (h : S x = false) : cnt (upd S x true) n + 1 = cnt S n := by
  obtain ⟨D, hD, hno⟩ := split_perm (ks := [x]) (by simp) List.nodup_range (b := List.range n) (by simpa using hx)
  have e1 : cnt (upd S x true) n = (([x] ++ D).filter (fun i => !upd S x true i)).length := (hD.filter _).length_eq.symm
  have e2 : cnt S n = (([x] ++ D).filter (fun i => !S i)).length := (hD.filter _).length_eq.symm
  have e3 : D.filter (fun i => !upd S x true i) = D.filter (fun i => !S i) := List.filter_congr fun i hi => by
    have : i ≠ x := by simpa using hno i hi
    simp [upd, this]
  rw [e1, e2]
  simp only [List.singleton_append, List.filter_cons]
  rw [e3]
  simp [upd, h]
theorem cnt_pos {S : Nat → Bool} {x n : Nat} (hx : x < n) (h : S x = false) : 1 ≤ cnt S n := by
  have := cnt_upd hx h; omega
/-- A path is worth no more than the prices' difference. -/
theorem lk_le (hb : Top V b) {to : Nat} (hto : to < V.length) : ∀ (f : Nat) (S : Nat → Bool) (x : Nat), x < V.length → S x = false → S to = false → cnt S V.length ≤ f → lk V b to f S x ≤ el (lp V b) to - el (lp V b) x
  | 0, S, x, hx, hS, _, hc => absurd (cnt_pos hx hS) (by omega)
  | f + 1, S, x, hx, hS, hSt, hc => by
    simp only [lk]
    by_cases e : x = to
    · subst e; simp
    · rw [if_neg e]
      have hu := cnt_upd hx hS
      have hto' : upd S x true to = false := by unfold upd; rw [if_neg (fun h => e h.symm)]; exact hSt
      obtain ⟨_, h2, h3, _⟩ := stp_fold (upd S x true) (fun j => wt V b x j + lk V b to f (upd S x true) j) (List.range V.length) (0, false)
      have h4 := h2 to (by simpa using hto) hto'
      rcases h3 h4.1 with h5 | ⟨j, hj, hSj, h5⟩
      · rw [h5] at h4; simp at h4
      · rw [h5]
        have hj' : j < V.length := by simpa using hj
        have ih := lk_le hb hto f (upd S x true) j hj' hSj hto' (by omega)
        have hxb := hb.mem.2 hx
        have hi : b.idxOf x < b.length := List.idxOf_lt_length_iff.2 hxb
        have hg : b.getD (b.idxOf x) 0 = x := by rw [getD_lt hi]; exact List.getElem_idxOf hi
        have hc2 := lp_cont hb (b.idxOf x) j (by rw [← hb.len]; exact hi) hj'
        rw [hg] at hc2
        unfold wt
        omega
/-- Each path over items that are not seen is worth no more than the greatest. -/
theorem lk_ge {to : Nat} : ∀ (f : Nat) (S : Nat → Bool) (x : Nat) (P : List Nat), (x :: P).Nodup → (∀ z ∈ x :: P, z < V.length ∧ S z = false) → (x :: P).getLast? = some to → cnt S V.length ≤ f → fw V b (x :: P) ≤ lk V b to f S x
  | 0, S, x, P, _, hs, _, hc => absurd (cnt_pos (hs x (by simp)).1 (hs x (by simp)).2) (by omega)
  | f + 1, S, x, [], _, _, hl, _ => by
    have : x = to := by simpa using hl
    simp [fw, lk, this]
  | f + 1, S, x, y :: P, hn, hs, hl, hc => by
    have hnc := List.nodup_cons.1 hn
    have hlast : (y :: P).getLast? = some to := by simpa [List.getLast?_cons] using hl
    have htom : to ∈ y :: P := List.mem_of_getLast? hlast
    have hx : x ≠ to := fun e => hnc.1 (e ▸ htom)
    have hu := cnt_upd (hs x (by simp)).1 (hs x (by simp)).2
    have hS' : ∀ z ∈ y :: P, z < V.length ∧ upd S x true z = false := fun z hz => by
      have h1 := hs z (by simp only [List.mem_cons] at hz ⊢; exact .inr hz)
      have h2 : z ≠ x := fun e => hnc.1 (e ▸ hz)
      exact ⟨h1.1, by unfold upd; rw [if_neg h2]; exact h1.2⟩
    have ih := lk_ge f (upd S x true) y P hnc.2 hS' hlast (by omega)
    simp only [lk, fw]
    rw [if_neg hx]
    have h2 := (stp_fold (upd S x true) (fun j => wt V b x j + lk V b to f (upd S x true) j) (List.range V.length) (0, false)).2.1 y (by simpa using (hS' y (by simp)).1) (hS' y (by simp)).2
    have := h2.2
    omega
theorem lk_bd {to : Nat} (hV : ∀ i j, 0 ≤ vl V i j ∧ vl V i j ≤ 1000000) : ∀ (f : Nat) (S : Nat → Bool) (x : Nat), -(f * 1000000 : Int) ≤ lk V b to f S x ∧ lk V b to f S x ≤ f * 1000000
  | 0, S, x => by simp [lk]
  | f + 1, S, x => by
    simp only [lk]
    by_cases e : x = to
    · rw [if_pos e]; omega
    · rw [if_neg e]
      obtain ⟨_, _, h3, h4⟩ := stp_fold (upd S x true) (fun j => wt V b x j + lk V b to f (upd S x true) j) (List.range V.length) (0, false)
      cases hf : ((List.range V.length).foldl (stp (upd S x true) (fun j => wt V b x j + lk V b to f (upd S x true) j)) (0, false)).2
      · rw [h4 hf]
        simp only
        omega
      · rcases h3 hf with h5 | ⟨j, hj, _, h5⟩
        · rw [h5]
          simp only
          omega
        · rw [h5]
          have ih := lk_bd (to := to) hV f (upd S x true) j
          have h6 := hV (b.idxOf x) j
          have h7 := hV (b.idxOf x) x
          unfold wt
          omega
/-- The greatest of all paths to an item, and 0: its least price. -/
def lm (V : List (List Int)) (b : List Nat) (to k : Nat) : Int := (List.range k).foldl (fun m i => max m (lk V b to V.length (fun _ => false) i)) 0
theorem cnt_none (n : Nat) : cnt (fun _ => false) n = n := by
  unfold cnt
  have h : (List.range n).filter (fun i => !(fun _ : Nat => false) i) = List.range n := List.filter_eq_self.2 (fun _ _ => rfl)
  rw [h]; simp
theorem lm_lp (hb : Top V b) {to : Nat} (hto : to < V.length) : lm V b to V.length = el (lp V b) to := by
  have hle : ∀ i, i < V.length → lk V b to V.length (fun _ => false) i ≤ el (lp V b) to := fun i hi => by
    have := lk_le hb hto V.length (fun _ => false) i hi rfl rfl (by rw [cnt_none]; exact Nat.le_refl _)
    have := lp_nn hb i
    omega
  have h0 := lp_nn hb to
  have up : lm V b to V.length ≤ el (lp V b) to := by
    rcases fm_at (fun i => lk V b to V.length (fun _ => false) i) (List.range V.length) 0 with h | ⟨j, hj, h⟩
    · unfold lm; rw [h]; exact h0
    · unfold lm; rw [h]; exact hle j (by simpa using hj)
  obtain ⟨t0, ht0, he0⟩ := lp_at hb hto
  obtain ⟨t, hn, ht, hge⟩ := hb.simple t0.length _ t0 (Nat.le_refl _) ht0
  have hrev := fw_rev V b (to :: t)
  obtain ⟨x, P, e⟩ : ∃ x P, (to :: t).reverse = x :: P := by
    cases h : (to :: t).reverse with
    | nil => simp at h
    | cons x P => exact ⟨x, P, rfl⟩
  rw [e] at hrev
  have hmem : ∀ z ∈ x :: P, z < V.length ∧ (fun _ : Nat => false) z = false := fun z hz => ⟨ht z (by
    have : z ∈ (to :: t).reverse := by rw [e]; exact hz
    exact List.mem_reverse.1 this), rfl⟩
  have hnd : (x :: P).Nodup := by rw [← e]; exact (List.reverse_perm _).nodup_iff.2 hn
  have hlast : (x :: P).getLast? = some to := by rw [← e, List.getLast?_reverse]; rfl
  have h1 := lk_ge (V := V) (b := b) V.length (fun _ => false) x P hnd hmem hlast (by rw [cnt_none]; exact Nat.le_refl _)
  have h2 := (fm_ge (fun i => lk V b to V.length (fun _ => false) i) (List.range V.length) 0).2 x (by simpa using (hmem x (by simp)).1)
  unfold lm at up ⊢
  omega
theorem lm_succ (V : List (List Int)) (b : List Nat) (to k : Nat) : lm V b to (k + 1) = max (lm V b to k) (lk V b to V.length (fun _ => false) k) := by simp [lm, List.range_succ, List.foldl_append]
end
end Go.Proofs.Ytpiolhjiflohgaa.As
