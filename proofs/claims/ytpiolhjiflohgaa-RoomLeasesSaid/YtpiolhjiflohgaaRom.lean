/- Mathematics of layer 14: links, and the leases without envy. -/
import Derived.Test.YtpiolhjiflohgaaAfp
namespace Go.Proofs.Ytpiolhjiflohgaa.As
/-- Each walk has one without a repetition, with the same ends, that is worth as much or more. -/
theorem Top.simple2 {V : List (List Int)} {b : List Nat} (h : Top V b) : ∀ (n : Nat) (y : Nat) (t : List Nat), t.length ≤ n → (∀ z ∈ y :: t, z < V.length) → ∃ t', (y :: t').Nodup ∧ (∀ z ∈ y :: t', z < V.length) ∧ (y :: t').getLast? = (y :: t).getLast? ∧ rk V b (y :: t) ≤ rk V b (y :: t')
  | 0, y, t, hl, hs => by
    have : t = [] := List.eq_nil_of_length_eq_zero (by omega)
    subst this
    exact ⟨[], by simp, hs, rfl, Int.le_refl _⟩
  | n + 1, y, t, hl, hs => by
    rcases nodup_or (y :: t) with hn | ⟨A, x, B, C, e, hn⟩
    · exact ⟨t, hn, hs, rfl, Int.le_refl _⟩
    · have hc : rk V b (x :: (B ++ [x])) ≤ 0 := h.circle hn (fun z hz => hs z (by rw [e]; rcases List.mem_cons.1 hz with rfl | hz <;> simp_all))
      have e1 : rk V b (y :: t) = rk V b (A ++ [x]) + (rk V b (x :: (B ++ [x])) + rk V b (x :: C)) := by
        rw [e, rk_append]
        congr 1
        exact rk_append V b (x :: B) x C
      have e2 : rk V b (A ++ x :: C) = rk V b (A ++ [x]) + rk V b (x :: C) := rk_append V b A x C
      have hlen := congrArg List.length e
      simp only [List.length_cons, List.length_append] at hlen
      have hmem : ∀ z ∈ A ++ x :: C, z < V.length := fun z hz => hs z (by rw [e]; rcases List.mem_append.1 hz with hz | hz <;> simp_all)
      have hlast : (A ++ x :: C).getLast? = (y :: t).getLast? := by
        rw [e]
        simp [List.getLast?_append, List.getLast?_cons]
      cases A with
      | nil =>
        simp only [List.nil_append, List.cons.injEq] at e
        obtain ⟨rfl, _⟩ := e
        obtain ⟨t', h1, h2, h3, h4⟩ := h.simple2 n y C (by simp at hlen; omega) hmem
        simp only [List.nil_append] at e2 e1 hlast
        exact ⟨t', h1, h2, h3.trans hlast, by omega⟩
      | cons a A =>
        simp only [List.cons_append, List.cons.injEq] at e
        obtain ⟨rfl, _⟩ := e
        obtain ⟨t', h1, h2, h3, h4⟩ := h.simple2 n y (A ++ x :: C) (by simp only [List.length_cons, List.length_append] at hlen ⊢; omega) hmem
        simp only [List.cons_append] at e2 e1 hlast
        exact ⟨t', h1, h2, h3.trans hlast, by omega⟩
/-- The link from x to y. -/
def lkm (V : List (List Int)) (b : List Nat) (x y : Nat) : Int := lk V b y V.length (fun _ => false) x
section
variable {V : List (List Int)} {b : List Nat}
theorem lk_at {to : Nat} (hto : to < V.length) : ∀ (f : Nat) (S : Nat → Bool) (x : Nat), x < V.length → S x = false → S to = false → cnt S V.length ≤ f → ∃ P, (∀ z ∈ x :: P, z < V.length) ∧ (x :: P).getLast? = some to ∧ lk V b to f S x = fw V b (x :: P)
  | 0, S, x, hx, hS, _, hc => absurd (cnt_pos hx hS) (by omega)
  | f + 1, S, x, hx, hS, hSt, hc => by
    by_cases e : x = to
    · subst e
      exact ⟨[], by simpa using hx, rfl, by simp [lk, fw]⟩
    · have hu := cnt_upd hx hS
      have hto' : upd S x true to = false := by unfold upd; rw [if_neg (fun h => e h.symm)]; exact hSt
      obtain ⟨_, h2, h3, _⟩ := stp_fold (upd S x true) (fun j => wt V b x j + lk V b to f (upd S x true) j) (List.range V.length) (0, false)
      have h4 := h2 to (by simpa using hto) hto'
      rcases h3 h4.1 with h5 | ⟨j, hj, hSj, h5⟩
      · rw [h5] at h4; simp at h4
      · have hj' : j < V.length := by simpa using hj
        obtain ⟨P, hP, hl, he⟩ := lk_at hto f (upd S x true) j hj' hSj hto' (by omega)
        refine ⟨j :: P, fun z hz => ?_, ?_, ?_⟩
        · rcases List.mem_cons.1 hz with rfl | hz
          · exact hx
          · exact hP z hz
        · rw [List.getLast?_cons_cons]; exact hl
        · simp only [lk, fw]
          rw [if_neg e, h5, he]
/-- No walk is worth more than the link of its ends. -/
theorem walk_le (hb : Top V b) {x y : Nat} {P : List Nat} (hP : ∀ z ∈ x :: P, z < V.length) (hl : (x :: P).getLast? = some y) : fw V b (x :: P) ≤ lkm V b x y := by
  obtain ⟨t, ht⟩ : ∃ t, (x :: P).reverse = y :: t := by
    cases h : (x :: P).reverse with
    | nil => simp at h
    | cons z t =>
      have h2 : (x :: P).getLast? = (x :: P).reverse.head? := by rw [List.head?_reverse]
      rw [h, hl] at h2
      simp at h2
      exact ⟨t, by rw [h2]⟩
  have ht2 : (y :: t).reverse = x :: P := by rw [← ht, List.reverse_reverse]
  have e1 : fw V b (x :: P) = rk V b (y :: t) := by rw [← ht2]; exact fw_rev V b _
  obtain ⟨t', hn, hs, hla, hge⟩ := hb.simple2 t.length y t (Nat.le_refl _) (fun z hz => hP z (by rw [← ht2]; exact List.mem_reverse.2 hz))
  have hlx : (y :: t).getLast? = some x := by
    have : (y :: t).getLast? = (y :: t).reverse.head? := by rw [List.head?_reverse]
    rw [this, ht2]; rfl
  rw [hlx] at hla
  obtain ⟨Q, hQ⟩ : ∃ Q, (y :: t').reverse = x :: Q := by
    cases h : (y :: t').reverse with
    | nil => simp at h
    | cons z q =>
      have h2 : (y :: t').getLast? = (y :: t').reverse.head? := by rw [List.head?_reverse]
      rw [h, hla] at h2
      simp at h2
      exact ⟨q, by rw [h2]⟩
  have e2 : fw V b (x :: Q) = rk V b (y :: t') := by rw [← hQ]; exact fw_rev V b _
  have h1 := lk_ge (V := V) (b := b) (to := y) V.length (fun _ => false) x Q (by rw [← hQ]; exact (List.reverse_perm _).nodup_iff.2 hn) (fun z hz => ⟨hs z (by rw [← hQ] at hz; exact List.mem_reverse.1 hz), rfl⟩) (by rw [← hQ, List.getLast?_reverse]; rfl) (by rw [cnt_none]; exact Nat.le_refl _)
  unfold lkm
  omega
theorem lkm_at {x y : Nat} (hx : x < V.length) (hy : y < V.length) : ∃ P, (∀ z ∈ x :: P, z < V.length) ∧ (x :: P).getLast? = some y ∧ lkm V b x y = fw V b (x :: P) := lk_at hy V.length (fun _ => false) x hx rfl rfl (by rw [cnt_none]; exact Nat.le_refl _)
theorem fw_end (V : List (List Int)) (b : List Nat) : ∀ (x : Nat) (P : List Nat) (y j : Nat), (x :: P).getLast? = some y → fw V b ((x :: P) ++ [j]) = fw V b (x :: P) + wt V b y j
  | x, [], y, j, h => by
    have : x = y := by simpa using h
    subst this; simp [fw]
  | x, z :: P, y, j, h => by
    rw [List.getLast?_cons_cons] at h
    have := fw_end V b z P y j h
    simp only [List.cons_append, fw] at this ⊢
    omega
theorem lkm_zero (_hb : Top V b) {x : Nat} (hx : x < V.length) : lkm V b x x = 0 := by
  have h0 : 0 < V.length := by omega
  obtain ⟨n, hn⟩ : ∃ n, V.length = n + 1 := ⟨V.length - 1, by omega⟩
  unfold lkm
  rw [hn]
  simp [lk]
theorem lkm_cont (hb : Top V b) {x : Nat} (hx : x < V.length) : Cont V b (lkm V b x) := by
  intro i j hi hj
  have hy := own_lt hb hi
  obtain ⟨P, hP, hl, he⟩ := lkm_at (b := b) hx hy
  have h1 := fw_end V b x P _ j hl
  have h2 := walk_le hb (x := x) (y := j) (P := P ++ [j]) (fun z hz => by
    rw [← List.cons_append] at hz
    rcases List.mem_append.1 hz with hz | hz
    · exact hP z hz
    · have : z = j := by simpa using hz
      omega) (by rw [← List.cons_append]; exact List.getLast?_concat ..)
  rw [← List.cons_append, h1, ← he, wt_own hb hi] at h2
  omega
/-- All values times a number. -/
def sc (D : Int) (V : List (List Int)) : List (List Int) := V.map fun r => r.map fun x => D * x
theorem sc_len (D : Int) (V : List (List Int)) : (sc D V).length = V.length := by simp [sc]
theorem sc_vl (D : Int) (V : List (List Int)) (i j : Nat) : vl (sc D V) i j = D * vl V i j := by
  unfold vl el sc
  rcases Nat.lt_or_ge i V.length with hi | hi
  · have e : (V.map fun r => r.map fun x => D * x).getD i [] = (V.getD i []).map fun x => D * x := by simp [List.getD_eq_getElem?_getD, hi]
    rw [e]
    simp only [List.getD_eq_getElem?_getD, List.getElem?_map]
    cases (V[i]?.getD [])[j]? <;> simp
  · have e1 : (V.map fun r => r.map fun x => D * x).getD i [] = [] := by simp [List.getD_eq_getElem?_getD, hi]
    have e2 : V.getD i [] = [] := by simp [List.getD_eq_getElem?_getD, hi]
    rw [e1, e2]; simp
theorem sm_mul (D : Int) (f : Nat → Int) : ∀ l, sm (fun x => D * f x) l = D * sm f l
  | [] => by simp [sm]
  | x :: l => by simp only [sm]; rw [sm_mul D f l, Int.mul_add]
theorem sc_wr (D : Int) (V : List (List Int)) {a : List Nat} (h : a.length = V.length) : wr (sc D V) a = D * wr V a := by
  rw [wr_eq _ _ (by rw [sc_len]; exact h), wr_eq _ _ h, sc_len, ← sm_mul]
  exact sm_congr fun i _ => sc_vl D V i _
theorem sc_wt (D : Int) (V : List (List Int)) (b : List Nat) (x y : Nat) : wt (sc D V) b x y = D * wt V b x y := by
  unfold wt
  rw [sc_vl, sc_vl, Int.mul_sub]
/-- A walk along prices without envy. -/
theorem fw_cont {D : Int} {p : Nat → Int} (hb : Top V b) (hc : Cont (sc D V) b p) : ∀ (P : List Nat) (x y : Nat), (∀ z ∈ x :: P, z < V.length) → (x :: P).getLast? = some y → D * fw V b (x :: P) ≤ p y - p x
  | [], x, y, _, h => by
    have : x = y := by simpa using h
    subst this; simp [fw]
  | z :: P, x, y, hs, h => by
    rw [List.getLast?_cons_cons] at h
    have ih := fw_cont hb hc P z y (fun u hu => hs u (by simp only [List.mem_cons] at hu ⊢; exact .inr hu)) h
    have hx := hs x (by simp)
    have hz := hs z (by simp)
    have hxb := hb.mem.2 hx
    have hi : b.idxOf x < b.length := List.idxOf_lt_length_iff.2 hxb
    have hg : b.getD (b.idxOf x) 0 = x := by rw [getD_lt hi]; exact List.getElem_idxOf hi
    have h2 := hc (b.idxOf x) z (by rw [sc_len, ← hb.len]; exact hi) (by rw [sc_len]; exact hz)
    rw [hg, sc_vl, sc_vl] at h2
    have e : D * wt V b x z = D * vl V (b.idxOf x) z - D * vl V (b.idxOf x) x := by unfold wt; rw [Int.mul_sub]
    simp only [fw]
    rw [Int.mul_add]
    omega
/-- The link is the least difference of two prices without envy. -/
theorem lkm_le {D : Int} {p : Nat → Int} (hb : Top V b) (hc : Cont (sc D V) b p) {x y : Nat} (hx : x < V.length) (hy : y < V.length) : D * lkm V b x y ≤ p y - p x := by
  obtain ⟨P, hP, hl, he⟩ := lkm_at (b := b) hx hy
  rw [he]
  exact fw_cont hb hc P x y hP hl
theorem sc_one (V : List (List Int)) : sc 1 V = V := by simp [sc]
theorem lkm_tri (hb : Top V b) {x y z : Nat} (hx : x < V.length) (hy : y < V.length) (hz : z < V.length) : lkm V b x y + lkm V b y z ≤ lkm V b x z := by
  have h := lkm_le (D := 1) hb (by rw [sc_one]; exact lkm_cont hb hx) hy hz
  omega
/-- What is a table of links. -/
theorem lkm_uniq (hb : Top V b) {x : Nat} (hx : x < V.length) {q : Nat → Int} (h0 : q x = 0) (hc : Cont V b q) (hle : ∀ p : Nat → Int, Cont V b p → ∀ y, y < V.length → q y ≤ p y - p x) {y : Nat} (hy : y < V.length) : q y = lkm V b x y := by
  have h1 := hle _ (lkm_cont hb hx) y hy
  have h2 := lkm_le (D := 1) hb (by rw [sc_one]; exact hc) hx hy
  rw [lkm_zero hb hx] at h1
  omega
theorem sc_cont (D : Int) (hD : 0 ≤ D) {p : Nat → Int} (hc : Cont V b p) : Cont (sc D V) b (fun j => D * p j) := by
  intro i j hi hj
  rw [sc_len] at hi hj
  have h := hc i j hi hj
  have := Int.mul_le_mul_of_nonneg_left h hD
  rw [Int.mul_sub, Int.mul_sub] at this
  rw [sc_vl, sc_vl]
  exact this
/-- The links do not depend on which of the best assignments it is. -/
theorem lkm_other {a : List Nat} (hb : Top V b) (ha : Top V a) {x y : Nat} (hx : x < V.length) (hy : y < V.length) : lkm V a x y = lkm V b x y := by
  refine lkm_uniq hb hx (q := lkm V a x) (lkm_zero ha hx) ((lkm_cont ha hx).other ha.perm hb.perm (hb.top _ ha.perm)) (fun p hp y hy => ?_) hy
  have h := lkm_le (D := 1) ha (by rw [sc_one]; exact hp.other hb.perm ha.perm (ha.top _ hb.perm)) hx hy
  omega
/-- A lease is envy-free exactly if its assignment has the greatest value, and no difference of prices is less than the link. -/
theorem free_iff {D : Int} (hD : 1 ≤ D) (hb : Top V b) {a : List Nat} (ha : a.Perm (List.range V.length)) (p : Nat → Int) :
    Cont (sc D V) a p ↔ wr V a = wr V b ∧ ∀ j k, j < V.length → k < V.length → D * lkm V b j k ≤ p k - p j := by
  have la : a.length = V.length := by simpa using ha.length_eq
  have hab := hb.top a ha
  constructor
  · intro h
    have hT := h.top (by rw [sc_len]; exact ha)
    have h1 := hT.top b (by rw [sc_len]; exact hb.perm)
    rw [sc_wr D V hb.len, sc_wr D V la] at h1
    have h2 : wr V b ≤ wr V a := Int.le_of_mul_le_mul_left h1 (by omega)
    have hcb : Cont (sc D V) b p := h.other (by rw [sc_len]; exact ha) (by rw [sc_len]; exact hb.perm) (by
      rw [sc_wr D V hb.len, sc_wr D V la]; exact Int.mul_le_mul_of_nonneg_left hab (by omega))
    exact ⟨by omega, fun j k hj hk => lkm_le hb hcb hj hk⟩
  · rintro ⟨he, hl⟩
    have hcb : Cont (sc D V) b p := by
      intro i j hi hj
      rw [sc_len] at hi hj
      have ho := own_lt hb hi
      have h1 := hl _ j ho hj
      have h2 := lkm_cont hb ho i j hi hj
      rw [lkm_zero hb ho] at h2
      have h3 : D * (vl V i j - vl V i (b.getD i 0)) ≤ D * lkm V b (b.getD i 0) j := Int.mul_le_mul_of_nonneg_left (by omega) (by omega)
      rw [Int.mul_sub] at h3
      rw [sc_vl, sc_vl]
      omega
    exact hcb.other (by rw [sc_len]; exact hb.perm) (by rw [sc_len]; exact ha) (by
      rw [sc_wr D V hb.len, sc_wr D V la, he]; exact Int.le_refl _)
/-- The least and the greatest price of a room, times the number of rooms. -/
def lowN (V : List (List Int)) (b : List Nat) (R : Int) (j : Nat) : Int := R + sm (fun k => lkm V b k j) (List.range V.length)
def highN (V : List (List Int)) (b : List Nat) (R : Int) (j : Nat) : Int := R - sm (fun k => lkm V b j k) (List.range V.length)
theorem sm_const (c : Int) : ∀ n : Nat, sm (fun _ => c) (List.range n) = n * c
  | 0 => by simp [sm]
  | n + 1 => by
    rw [List.range_succ, sm_append, sm_const c n]
    simp only [sm]
    rw [show ((n + 1 : Nat) : Int) = n + 1 from rfl, Int.add_mul]
    omega
/-- No price of a lease without envy lies outside the range. -/
theorem range_in {D R : Int} (hD : 1 ≤ D) (hb : Top V b) {a : List Nat} (ha : a.Perm (List.range V.length)) {p : Nat → Int} (hc : Cont (sc D V) a p) (hs : sm p (List.range V.length) = D * R) {j : Nat} (hj : j < V.length) :
    D * lowN V b R j ≤ V.length * p j ∧ V.length * p j ≤ D * highN V b R j := by
  have hl := ((free_iff hD hb ha p).1 hc).2
  have h1 : sm (fun k => D * lkm V b k j) (List.range V.length) ≤ sm (fun k => p j - p k) (List.range V.length) := sm_le fun k hk => hl k j (by simpa using hk) hj
  have h2 : sm (fun k => D * lkm V b j k) (List.range V.length) ≤ sm (fun k => p k - p j) (List.range V.length) := sm_le fun k hk => hl j k hj (by simpa using hk)
  rw [sm_mul, sm_sub, sm_const, hs] at h1
  rw [sm_mul, sm_sub, sm_const, hs] at h2
  have e : sm (fun k => lkm V b j k) (List.range V.length) = sm (lkm V b j) (List.range V.length) := rfl
  rw [e] at h2
  unfold lowN highN
  rw [e, Int.mul_add, Int.mul_sub]
  constructor <;> omega
/-- Prices by the links to a room, and from it, are without envy. -/
theorem low_cont {n : Int} (hn : 0 ≤ n) (hb : Top V b) (C : Int) {j : Nat} (hj : j < V.length) : Cont (sc n V) b (fun k => C - n * lkm V b k j) := by
  intro i m hi hm
  rw [sc_len] at hi hm
  have ho := own_lt hb hi
  have h1 := lkm_tri hb ho hm hj
  have h2 := lkm_cont hb ho i m hi hm
  rw [lkm_zero hb ho] at h2
  have h3 : n * (vl V i m - vl V i (b.getD i 0)) ≤ n * (lkm V b (b.getD i 0) j - lkm V b m j) := Int.mul_le_mul_of_nonneg_left (by omega) hn
  rw [Int.mul_sub, Int.mul_sub] at h3
  rw [sc_vl, sc_vl]
  simp only
  omega
theorem high_cont {n : Int} (hn : 0 ≤ n) (hb : Top V b) (C : Int) {j : Nat} (hj : j < V.length) : Cont (sc n V) b (fun k => C + n * lkm V b j k) := by
  intro i m hi hm
  have h := sc_cont n hn (lkm_cont hb hj) i m hi hm
  simp only at h ⊢
  omega
/-- The even prices, times the number of rooms. -/
def evp (V : List (List Int)) (b : List Nat) (R : Int) (j : Nat) : Int := V.length * el (lp V b) j + R - sm (el (lp V b)) (List.range V.length)
theorem evp_cont (hb : Top V b) (R : Int) : Cont (sc V.length V) b (evp V b R) := by
  intro i m hi hm
  have h := sc_cont (V.length : Int) (by omega) (lp_cont hb) i m hi hm
  unfold evp
  simp only at h ⊢
  omega
theorem evp_sum (V : List (List Int)) (b : List Nat) (R : Int) : sm (evp V b R) (List.range V.length) = V.length * R := by
  have e : sm (evp V b R) (List.range V.length) = sm (fun j => (V.length : Int) * el (lp V b) j - (sm (el (lp V b)) (List.range V.length) - R)) (List.range V.length) := sm_congr fun j _ => by unfold evp; omega
  rw [e, sm_sub, sm_mul, sm_const, Int.mul_sub]
  omega
end
end Go.Proofs.Ytpiolhjiflohgaa.As
