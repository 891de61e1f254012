/- Mathematics of layer 13: the least prices, harm, and what proves an assignment. -/
import Derived.Test.YtpiolhjiflohgaaAsm
namespace Go.Proofs.Ytpiolhjiflohgaa.As
/-- Prices at which nobody would rather have another item. -/
def Cont (V : List (List Int)) (a : List Nat) (p : Nat → Int) : Prop := ∀ i j, i < V.length → j < V.length → vl V i j - p j ≤ vl V i (a.getD i 0) - p (a.getD i 0)
theorem sm_getD {a : List Nat} {n : Nat} (hl : a.length = n) (p : Nat → Int) : sm (fun i => p (a.getD i 0)) (List.range n) = sm p a := by
  subst hl
  conv => rhs; rw [← range_getD a]
  rw [sm_map]
theorem getD_mem {a : List Nat} {i : Nat} (h : i < a.length) : a.getD i 0 ∈ a := by rw [getD_lt h]; exact List.getElem_mem h
theorem Cont.top {V : List (List Int)} {a : List Nat} {p : Nat → Int} (h : Cont V a p) (ha : a.Perm (List.range V.length)) : Top V a := by
  refine ⟨ha, fun s hs => ?_⟩
  have la : a.length = V.length := by simpa using ha.length_eq
  have ls : s.length = V.length := by simpa using hs.length_eq
  have h1 : sm (fun i => vl V i (s.getD i 0) - p (s.getD i 0)) (List.range V.length) ≤ sm (fun i => vl V i (a.getD i 0) - p (a.getD i 0)) (List.range V.length) := by
    refine sm_le fun i hi => ?_
    have hi' : i < V.length := by simpa using hi
    have := hs.mem_iff.1 (getD_mem (a := s) (i := i) (by omega))
    exact h i _ hi' (List.mem_range.1 this)
  rw [sm_sub, sm_sub, sm_getD ls, sm_getD la, ← wr_eq V s ls, ← wr_eq V a la, sm_perm hs, sm_perm ha] at h1
  omega
/-- What proves one of two equally good assignments proves the other one. -/
theorem Cont.other {V : List (List Int)} {a b : List Nat} {p : Nat → Int} (h : Cont V a p) (ha : a.Perm (List.range V.length)) (hb : b.Perm (List.range V.length)) (he : wr V a ≤ wr V b) : Cont V b p := by
  have la : a.length = V.length := by simpa using ha.length_eq
  have lb : b.length = V.length := by simpa using hb.length_eq
  have h0 : ∀ i ∈ List.range V.length, (vl V i (a.getD i 0) - p (a.getD i 0)) - (vl V i (b.getD i 0) - p (b.getD i 0)) = 0 := by
    refine sm_all0 (fun i hi => ?_) ?_
    · have hi' : i < V.length := by simpa using hi
      have := hb.mem_iff.1 (getD_mem (a := b) (i := i) (by omega))
      have := h i _ hi' (List.mem_range.1 this)
      omega
    · rw [sm_sub, sm_sub, sm_sub, sm_getD la, sm_getD lb, ← wr_eq V a la, ← wr_eq V b lb, sm_perm ha, sm_perm hb]
      omega
  intro i j hi hj
  have h1 := h i j hi hj
  have h2 := h0 i (by simpa using hi)
  omega

/-- A price rises. -/
def rx (V : List (List Int)) (b : List Nat) (i : Nat) (p : List Int) (j : Nat) : List Int := p.set j (max (el p j) (el p (b.getD i 0) + vl V i j - vl V i (b.getD i 0)))
def row (V : List (List Int)) (b : List Nat) (p : List Int) (i k : Nat) : List Int := (List.range k).foldl (rx V b i) p
def rnd (V : List (List Int)) (b : List Nat) (p : List Int) (k : Nat) : List Int := (List.range k).foldl (fun p i => row V b p i V.length) p
def rnds (V : List (List Int)) (b : List Nat) : Nat → List Int
  | 0 => List.replicate V.length 0
  | k + 1 => rnd V b (rnds V b k) V.length
theorem row_succ (V : List (List Int)) (b : List Nat) (p : List Int) (i k : Nat) : row V b p i (k + 1) = rx V b i (row V b p i k) k := by simp [row, List.range_succ, List.foldl_append]
theorem rnd_succ (V : List (List Int)) (b : List Nat) (p : List Int) (k : Nat) : rnd V b p (k + 1) = row V b (rnd V b p k) k V.length := by simp [rnd, List.range_succ, List.foldl_append]
theorem el_set {p : List Int} {j k : Nat} {x : Int} (h : j < p.length) : el (p.set j x) k = if k = j then x else el p k := by
  unfold el
  by_cases e : k = j
  · subst e; simp [h]
  · rw [if_neg e]
    simp only [List.getD_eq_getElem?_getD]
    rw [List.getElem?_set_ne (by omega)]
/-- What each price is, all along: as many as items, worth a walk, and below what satisfies all. -/
structure Pr (V : List (List Int)) (b : List Nat) (p : List Int) : Prop where
  len : p.length = V.length
  at_ : ∀ y, y < V.length → ∃ t, (∀ z ∈ y :: t, z < V.length) ∧ el p y = rk V b (y :: t)
/-- One list of prices is nowhere below another one. -/
def Le (p q : List Int) : Prop := ∀ y, el p y ≤ el q y
section
variable {V : List (List Int)} {b : List Nat}
theorem wt_own (hb : Top V b) {i : Nat} (hi : i < V.length) (j : Nat) : wt V b (b.getD i 0) j = vl V i j - vl V i (b.getD i 0) := by
  unfold wt; rw [idxOf_getD hb.nd (by rw [hb.len]; exact hi)]
theorem own_lt (hb : Top V b) {i : Nat} (hi : i < V.length) : b.getD i 0 < V.length := hb.mem.1 (getD_mem (by rw [hb.len]; exact hi))
theorem rx_pr (hb : Top V b) {p : List Int} (h : Pr V b p) {i j : Nat} (hi : i < V.length) (hj : j < V.length) : Pr V b (rx V b i p j) := by
  refine ⟨by simp [rx, h.len], fun y hy => ?_⟩
  unfold rx
  rw [el_set (by rw [h.len]; exact hj)]
  by_cases e : y = j
  · subst e
    rw [if_pos rfl]
    by_cases hle : el p y ≤ el p (b.getD i 0) + vl V i y - vl V i (b.getD i 0)
    · obtain ⟨t, ht, he⟩ := h.at_ _ (own_lt hb hi)
      refine ⟨b.getD i 0 :: t, ?_, ?_⟩
      · intro z hz; rcases List.mem_cons.1 hz with rfl | hz
        · exact hy
        · exact ht z hz
      · rw [rk, wt_own hb hi, ← he]; omega
    · obtain ⟨t, ht, he⟩ := h.at_ y hy
      exact ⟨t, ht, by rw [← he]; omega⟩
  · rw [if_neg e]; exact h.at_ y hy
theorem rx_le {p : List Int} (hp : p.length = V.length) {i j : Nat} (hj : j < V.length) : Le p (rx V b i p j) := by
  intro y; unfold rx; rw [el_set (by omega)]
  split
  · subst_vars; omega
  · omega
theorem rx_ge {p : List Int} (hp : p.length = V.length) {i j : Nat} (hj : j < V.length) : el p (b.getD i 0) + vl V i j - vl V i (b.getD i 0) ≤ el (rx V b i p j) j := by
  unfold rx; rw [el_set (by omega), if_pos rfl]; omega
theorem Le.refl (p : List Int) : Le p p := fun _ => Int.le_refl _
theorem Le.trans {p q r : List Int} (h : Le p q) (k : Le q r) : Le p r := fun y => Int.le_trans (h y) (k y)
theorem row_pr (hb : Top V b) {p : List Int} (h : Pr V b p) {i : Nat} (hi : i < V.length) : ∀ k, k ≤ V.length → Pr V b (row V b p i k)
  | 0, _ => h
  | k + 1, hk => by rw [row_succ]; exact rx_pr hb (row_pr hb h hi k (by omega)) hi (by omega)
theorem row_le (hb : Top V b) {p : List Int} (h : Pr V b p) {i : Nat} (hi : i < V.length) : ∀ k, k ≤ V.length → Le p (row V b p i k)
  | 0, _ => Le.refl _
  | k + 1, hk => by rw [row_succ]; exact (row_le hb h hi k (by omega)).trans (rx_le (row_pr hb h hi k (by omega)).len (by omega))
theorem row_ge (hb : Top V b) {p : List Int} (h : Pr V b p) {i : Nat} (hi : i < V.length) : ∀ k, k ≤ V.length → ∀ j, j < k → el p (b.getD i 0) + vl V i j - vl V i (b.getD i 0) ≤ el (row V b p i k) j
  | 0, _, _, hj => absurd hj (by omega)
  | k + 1, hk, j, hj => by
    rw [row_succ]
    have h0 := row_pr hb h hi k (by omega)
    have h1 := row_le hb h hi k (by omega)
    by_cases e : j = k
    · subst e
      have h2 := rx_ge (b := b) (i := i) h0.len (j := j) (by omega)
      have h3 := h1 (b.getD i 0)
      omega
    · have h2 := row_ge hb h hi k (by omega) j (by omega)
      have h3 := rx_le (b := b) (i := i) h0.len (j := k) (by omega) j
      omega
theorem rnd_pr (hb : Top V b) {p : List Int} (h : Pr V b p) : ∀ k, k ≤ V.length → Pr V b (rnd V b p k)
  | 0, _ => h
  | k + 1, hk => by rw [rnd_succ]; exact row_pr hb (rnd_pr hb h k (by omega)) (by omega) _ (Nat.le_refl _)
theorem rnd_le (hb : Top V b) {p : List Int} (h : Pr V b p) : ∀ k, k ≤ V.length → Le p (rnd V b p k)
  | 0, _ => Le.refl _
  | k + 1, hk => by rw [rnd_succ]; exact (rnd_le hb h k (by omega)).trans (row_le hb (rnd_pr hb h k (by omega)) (by omega) _ (Nat.le_refl _))
theorem rnd_ge (hb : Top V b) {p : List Int} (h : Pr V b p) : ∀ k, k ≤ V.length → ∀ i, i < k → ∀ j, j < V.length → el p (b.getD i 0) + vl V i j - vl V i (b.getD i 0) ≤ el (rnd V b p k) j
  | 0, _, _, hi, _, _ => absurd hi (by omega)
  | k + 1, hk, i, hi, j, hj => by
    rw [rnd_succ]
    have h0 := rnd_pr hb h k (by omega)
    by_cases e : i = k
    · subst e
      have h2 := row_ge hb h0 (i := i) (by omega) _ (Nat.le_refl _) j hj
      have h3 := rnd_le hb h i (by omega) (b.getD i 0)
      omega
    · have h2 := rnd_ge hb h k (by omega) i (by omega) j hj
      have h3 := row_le hb h0 (i := k) (by omega) _ (Nat.le_refl _) j
      omega
theorem rnds_pr (hb : Top V b) : ∀ k, Pr V b (rnds V b k)
  | 0 => ⟨by simp [rnds], fun y hy => ⟨[], by simpa using hy, by simp [rnds, rk, el, hy]⟩⟩
  | k + 1 => rnd_pr hb (rnds_pr hb k) _ (Nat.le_refl _)
theorem rnds_nn (hb : Top V b) : ∀ k y, 0 ≤ el (rnds V b k) y
  | 0, y => by
    simp only [rnds, el, List.getD_eq_getElem?_getD, List.getElem?_replicate]
    split <;> simp
  | k + 1, y => by
    have := rnd_le hb (rnds_pr hb k) _ (Nat.le_refl _) y
    have := rnds_nn hb k y
    simp only [rnds]; omega
theorem rnds_walk (hb : Top V b) : ∀ (k y : Nat) (t : List Nat), t.length ≤ k → (∀ z ∈ y :: t, z < V.length) → rk V b (y :: t) ≤ el (rnds V b k) y
  | k, y, [], _, _ => by have := rnds_nn hb k y; simpa [rk] using this
  | k + 1, y, x :: t, hl, hs => by
    have h1 := rnds_walk hb k x t (by simpa using hl) (fun z hz => hs z (by simp [hz]))
    have hx : x < V.length := hs x (by simp)
    have hxb := hb.mem.2 hx
    have hi : b.idxOf x < b.length := List.idxOf_lt_length_iff.2 hxb
    have hg : b.getD (b.idxOf x) 0 = x := by rw [getD_lt hi]; exact List.getElem_idxOf hi
    have h2 := rnd_ge hb (rnds_pr hb k) _ (Nat.le_refl _) (b.idxOf x) (by rw [← hb.len]; exact hi) y (hs y (by simp))
    rw [hg] at h2
    simp only [rk, wt, rnds]; omega
/-- The least prices: rounds, as many as items. -/
def lp (V : List (List Int)) (b : List Nat) : List Int := rnds V b V.length
theorem lp_walk (hb : Top V b) (y : Nat) (t : List Nat) (hs : ∀ z ∈ y :: t, z < V.length) : rk V b (y :: t) ≤ el (lp V b) y := by
  obtain ⟨t', hn, hs', hle⟩ := hb.simple t.length y t (Nat.le_refl _) hs
  have hl := nodup_len hn hs'
  have := rnds_walk hb V.length y t' (by simp at hl; omega) hs'
  unfold lp; omega
theorem lp_at (hb : Top V b) {y : Nat} (hy : y < V.length) : ∃ t, (∀ z ∈ y :: t, z < V.length) ∧ el (lp V b) y = rk V b (y :: t) := (rnds_pr hb V.length).at_ y hy
theorem lp_len (hb : Top V b) : (lp V b).length = V.length := (rnds_pr hb V.length).len
theorem lp_nn (hb : Top V b) (y : Nat) : 0 ≤ el (lp V b) y := rnds_nn hb _ y
/-- They prove the assignment. -/
theorem lp_cont (hb : Top V b) : Cont V b (el (lp V b)) := by
  intro i j hi hj
  obtain ⟨t, ht, he⟩ := lp_at hb (own_lt hb hi)
  have h1 := lp_walk hb j (b.getD i 0 :: t) (by
    intro z hz; rcases List.mem_cons.1 hz with rfl | hz
    · exact hj
    · exact ht z hz)
  rw [rk, wt_own hb hi, ← he] at h1
  omega
/-- One of them is 0. -/
theorem lp_zero (hb : Top V b) (h0 : 0 < V.length) : ∃ z, z < V.length ∧ el (lp V b) z = 0 := by
  obtain ⟨t, ht, he⟩ := lp_at hb h0
  obtain ⟨A, z, e⟩ : ∃ A z, 0 :: t = A ++ [z] := ⟨(0 :: t).dropLast, (0 :: t).getLast (by simp), (List.dropLast_concat_getLast (by simp)).symm⟩
  have hz : z < V.length := ht z (by rw [e]; simp)
  refine ⟨z, hz, ?_⟩
  obtain ⟨s, hs, hes⟩ := lp_at hb hz
  have h1 : rk V b (A ++ z :: s) = rk V b (0 :: t) + el (lp V b) z := by rw [rk_append, e, hes]
  have h2 : rk V b (A ++ z :: s) ≤ el (lp V b) 0 := by
    cases A with
    | nil =>
      simp only [List.nil_append, List.cons.injEq] at e
      obtain ⟨rfl, rfl⟩ := e
      exact lp_walk hb 0 s hs
    | cons a A =>
      simp only [List.cons_append, List.cons.injEq] at e
      obtain ⟨rfl, rfl⟩ := e
      refine lp_walk hb 0 (A ++ z :: s) fun y hy => ?_
      rcases List.mem_cons.1 hy with rfl | hy
      · exact h0
      · rcases List.mem_append.1 hy with hy | hy
        · exact ht y (by simp [hy])
        · exact hs y hy
  have := lp_nn hb z
  omega
/-- No prices that prove it are lower. -/
theorem lp_least (hb : Top V b) {q : Nat → Int} (hq : Cont V b q) (h0 : ∀ j, j < V.length → 0 ≤ q j) {y : Nat} (hy : y < V.length) : el (lp V b) y ≤ q y := by
  obtain ⟨t, ht, he⟩ := lp_at hb hy
  rw [he]
  have key : ∀ (t : List Nat) (y : Nat), (∀ z ∈ y :: t, z < V.length) → rk V b (y :: t) ≤ q y := by
    intro t
    induction t with
    | nil => intro y hs; have := h0 y (hs y (by simp)); simpa [rk] using this
    | cons x t ih =>
      intro y hs
      have h1 := ih x (fun z hz => hs z (by simp [hz]))
      have hxb := hb.mem.2 (hs x (by simp))
      have hi : b.idxOf x < b.length := List.idxOf_lt_length_iff.2 hxb
      have hg : b.getD (b.idxOf x) 0 = x := by rw [getD_lt hi]; exact List.getElem_idxOf hi
      have h2 := hq (b.idxOf x) y (by rw [← hb.len]; exact hi) (hs y (by simp))
      rw [hg] at h2
      simp only [rk, wt]; omega
  exact key t y ht
/-- Their bound. -/
theorem lp_bound (hb : Top V b) (h0 : 0 < V.length) {M : Int} (hV : ∀ i j, 0 ≤ vl V i j ∧ vl V i j ≤ M) {y : Nat} (hy : y < V.length) : el (lp V b) y ≤ M := by
  obtain ⟨z, hz, hz0⟩ := lp_zero hb h0
  have hxb := hb.mem.2 hy
  have hi : b.idxOf y < b.length := List.idxOf_lt_length_iff.2 hxb
  have hg : b.getD (b.idxOf y) 0 = y := by rw [getD_lt hi]; exact List.getElem_idxOf hi
  have h1 := lp_cont hb (b.idxOf y) z (by rw [← hb.len]; exact hi) hz
  rw [hg, hz0] at h1
  have h2 := hV (b.idxOf y) y
  have h3 := hV (b.idxOf y) z
  omega
/-- All along they are not above what they come to. -/
theorem rnds_le (hb : Top V b) : ∀ k m, Le (rnds V b k) (rnds V b (k + m))
  | _, 0 => Le.refl _
  | k, m + 1 => (rnds_le hb k m).trans (rnd_le hb (rnds_pr hb (k + m)) _ (Nat.le_refl _))
theorem pr_le (hb : Top V b) {p : List Int} (h : Pr V b p) {y : Nat} (hy : y < V.length) : el p y ≤ el (lp V b) y := by
  obtain ⟨t, ht, he⟩ := h.at_ y hy
  rw [he]; exact lp_walk hb y t ht

/-- What the others can have of all items, with an agent's list put to 0: its harm is the least price of its item. -/
theorem harm (hb : Top V b) {i : Nat} (hi : i < V.length) {V' : List (List Int)} (hl : V'.length = V.length) (h0 : ∀ j, vl V' i j = 0) (hV : ∀ k j, k ≠ i → vl V' k j = vl V k j) {H : Int}
    (hge : ∀ a : List Nat, a.Perm (List.range V.length) → wr V' a ≤ H) (hat : ∃ a : List Nat, a.Perm (List.range V.length) ∧ wr V' a = H) : H - (wr V b - vl V i (b.getD i 0)) = el (lp V b) (b.getD i 0) := by
  have hbl := hb.len
  -- the worth of an assignment without the agent
  have hw : ∀ a : List Nat, a.length = V.length → wr V' a = wr V a - vl V i (a.getD i 0) := by
    intro a ha
    rw [wr_eq V' a (by omega), wr_eq V a ha, hl]
    obtain ⟨D, hD, hno⟩ := split_perm (ks := [i]) (by simp) List.nodup_range (b := List.range V.length) (by simpa using hi)
    rw [← sm_perm hD, ← sm_perm hD]
    simp only [List.singleton_append, sm]
    rw [h0, sm_congr (g := fun k => vl V k (a.getD k 0)) fun k hk => hV k _ (by simpa using hno k hk)]
    omega
  have hwb := hw b hbl
  have le1 : H - (wr V b - vl V i (b.getD i 0)) ≤ el (lp V b) (b.getD i 0) := by
    obtain ⟨s, hs, rfl⟩ := hat
    have hsl : s.length = V.length := by simpa using hs.length_eq
    rw [hw s hsl]
    have hc := lp_cont hb
    obtain ⟨D, hD, hno⟩ := split_perm (ks := [i]) (by simp) List.nodup_range (b := List.range V.length) (by simpa using hi)
    have h1 : sm (fun k => vl V k (s.getD k 0) - el (lp V b) (s.getD k 0)) D ≤ sm (fun k => vl V k (b.getD k 0) - el (lp V b) (b.getD k 0)) D := by
      refine sm_le fun k hk => ?_
      have hk' : k < V.length := List.mem_range.1 (hD.mem_iff.1 (by simp [hk]))
      exact hc k _ hk' (List.mem_range.1 (hs.mem_iff.1 (getD_mem (by omega))))
    have e1 := wr_eq V s hsl
    have e2 := wr_eq V b hbl
    have p1 := sm_getD hsl (el (lp V b))
    have p2 := sm_getD hbl (el (lp V b))
    rw [sm_perm hs] at p1
    rw [sm_perm hb.perm] at p2
    rw [← sm_perm hD] at e1 e2 p1 p2
    simp only [List.singleton_append, sm] at e1 e2 p1 p2
    rw [sm_sub, sm_sub] at h1
    have := lp_nn hb (s.getD i 0)
    have p1' : el (lp V b) (s.getD i 0) + sm (fun i => el (lp V b) (s.getD i 0)) D = el (lp V b) (b.getD i 0) + sm (fun i => el (lp V b) (b.getD i 0)) D := p1.trans p2.symm
    omega
  have le2 : el (lp V b) (b.getD i 0) ≤ H - (wr V b - vl V i (b.getD i 0)) := by
    have hy := own_lt hb hi
    obtain ⟨t0, ht0, he0⟩ := lp_at hb hy
    obtain ⟨t, hn, ht, hle⟩ := hb.simple t0.length _ t0 (Nat.le_refl _) ht0
    rw [he0]
    obtain ⟨a, ha, hwa⟩ := cyc (V := V') hb.nd (by omega) hn (fun z hz => hb.mem.2 (ht z hz))
    have hg := hge a (ha.trans hb.perm)
    -- in V' the circle is worth what the walk is worth in V
    have hsame : ∀ (t : List Nat) (y : Nat), (∀ z ∈ t, z ≠ b.getD i 0 ∧ z < V.length) → rk V' b (y :: t) = rk V b (y :: t) := by
      intro t
      induction t with
      | nil => intro y _; simp [rk]
      | cons x t ih =>
        intro y h
        simp only [rk]
        rw [ih x fun z hz => h z (by simp [hz])]
        have hx := h x (by simp)
        have hk : b.idxOf x ≠ i := by
          intro e
          have hi' : b.idxOf x < b.length := List.idxOf_lt_length_iff.2 (hb.mem.2 hx.2)
          have hg : b.getD (b.idxOf x) 0 = x := by rw [getD_lt hi']; exact List.getElem_idxOf hi'
          rw [e] at hg
          exact hx.1 hg.symm
        unfold wt
        rw [hV _ _ hk, hV _ _ hk]
    have hnt : ∀ z ∈ t, z ≠ b.getD i 0 ∧ z < V.length := fun z hz => ⟨fun e => (List.nodup_cons.1 hn).1 (e ▸ hz), ht z (by simp [hz])⟩
    have hlast : rk V' b (b.getD i 0 :: (t ++ [b.getD i 0])) = rk V' b (b.getD i 0 :: t) := by
      have h0' : ∀ y, wt V' b (b.getD i 0) y = 0 := by
        intro y; unfold wt; rw [idxOf_getD hb.nd (by omega), h0, h0]; rfl
      have : ∀ (t : List Nat) (y : Nat), rk V' b (y :: (t ++ [b.getD i 0])) = rk V' b (y :: t) := by
        intro t
        induction t with
        | nil => intro y; show wt V' b (b.getD i 0) y + 0 = 0; rw [h0']; rfl
        | cons x t ih => intro y; simp only [List.cons_append, rk]; rw [ih x]
      exact this t _
    rw [hlast, hsame t _ hnt, hwb] at hwa
    omega
  omega
end
end Go.Proofs.Ytpiolhjiflohgaa.As
