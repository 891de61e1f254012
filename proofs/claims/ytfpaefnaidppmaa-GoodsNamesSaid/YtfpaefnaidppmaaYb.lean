/- Mathematics of layer 13: assignments of the greatest value, cycles, walks and prices. Mathematics of layer 13: the least prices, harm, and what proves an assignment. Mathematics of AssignFinds: the greatest paths, and the least prices. Mathematics of layer 14: links, and the leases without envy. Mathematics of layer 14: the least denominator, bounds and sums of prices. -/
import Derived.Lib.Hide
namespace Go.Proofs.Ytfpaefnaidppmaa.As
/-- The element i of a list, 0 beyond it. -/
def el (l : List Int) (i : Nat) : Int := l.getD i 0
/-- The element j of the list i. -/
def vl (V : List (List Int)) (i j : Nat) : Int := el (V.getD i []) j
/-- A sum over a list. -/
def sm (f : Nat → Int) : List Nat → Int
  | [] => 0
  | x :: l => f x + sm f l
theorem sm_perm {f : Nat → Int} {l l' : List Nat} (h : l.Perm l') : sm f l = sm f l' := by
  induction h with
  | nil => rfl
  | cons x _ ih => simp only [sm, ih]
  | swap x y l => simp only [sm]; omega
  | trans _ _ h1 h2 => exact h1.trans h2
theorem sm_append (f : Nat → Int) (l l' : List Nat) : sm f (l ++ l') = sm f l + sm f l' := by
  induction l with
  | nil => simp [sm]
  | cons x l ih => simp only [List.cons_append, sm, ih]; omega
theorem sm_map (f : Nat → Int) (g : Nat → Nat) (l : List Nat) : sm f (l.map g) = sm (fun x => f (g x)) l := by
  induction l with
  | nil => rfl
  | cons x l ih => simp only [List.map_cons, sm, ih]
theorem sm_congr {f g : Nat → Int} {l : List Nat} (h : ∀ x ∈ l, f x = g x) : sm f l = sm g l := by
  induction l with
  | nil => rfl
  | cons x l ih => simp only [sm]; rw [h x (by simp), ih fun y hy => h y (by simp [hy])]
theorem sm_le {f g : Nat → Int} {l : List Nat} (h : ∀ x ∈ l, f x ≤ g x) : sm f l ≤ sm g l := by
  induction l with
  | nil => exact Int.le_refl _
  | cons x l ih =>
    have h1 := h x (by simp)
    have h2 := ih fun y hy => h y (by simp [hy])
    simp only [sm]; omega
theorem sm_sub (f g : Nat → Int) (l : List Nat) : sm (fun x => f x - g x) l = sm f l - sm g l := by
  induction l with
  | nil => rfl
  | cons x l ih => simp only [sm, ih]; omega
theorem sm_zero {f : Nat → Int} {l : List Nat} (h : ∀ x ∈ l, f x = 0) : sm f l = 0 := by
  induction l with
  | nil => rfl
  | cons x l ih => simp only [sm]; rw [h x (by simp), ih fun y hy => h y (by simp [hy])]; rfl
/-- No term is below 0, and the sum is 0: each term is 0. -/
theorem sm_all0 {f : Nat → Int} {l : List Nat} (h : ∀ x ∈ l, 0 ≤ f x) (h0 : sm f l ≤ 0) : ∀ x ∈ l, f x = 0 := by
  induction l with
  | nil => simp
  | cons y l ih =>
    have h1 := h y (by simp)
    have h2 : 0 ≤ sm f l := by
      have := sm_le (f := fun _ => 0) (g := f) (l := l) fun x hx => h x (by simp [hx])
      rwa [sm_zero (f := fun _ => (0 : Int)) fun _ _ => rfl] at this
    simp only [sm] at h0
    intro x hx
    rcases List.mem_cons.1 hx with rfl | hx
    · omega
    · exact ih (fun z hz => h z (by simp [hz])) (by omega) x hx

/-- What an assignment is worth. -/
def wr : List (List Int) → List Nat → Int
  | r :: R, j :: a => el r j + wr R a
  | _, _ => 0
theorem getD_cons_succ {α : Type} (x : α) (l : List α) (i : Nat) (d : α) : (x :: l).getD (i + 1) d = l.getD i d := by simp [List.getD]
theorem getD_cons_zero {α : Type} (x : α) (l : List α) (d : α) : (x :: l).getD 0 d = x := by simp [List.getD]
theorem getD_lt {α : Type} {l : List α} {i : Nat} (h : i < l.length) (d : α) : l.getD i d = l[i] := by simp [List.getD, h]
theorem wr_eq : ∀ (V : List (List Int)) (a : List Nat), a.length = V.length → wr V a = sm (fun i => vl V i (a.getD i 0)) (List.range V.length)
  | [], a, _ => by cases a <;> rfl
  | r :: R, [], h => by simp at h
  | r :: R, j :: a, h => by
    simp only [wr, List.length_cons]
    rw [List.range_succ_eq_map]
    simp only [sm, sm_map]
    rw [wr_eq R a (by simpa using h)]
    have e0 : vl (r :: R) 0 ((j :: a).getD 0 0) = el r j := by simp [vl, List.getD]
    rw [e0]
    congr 1
theorem wr_take : ∀ (V : List (List Int)) (a : List Nat) (i : Nat), i < V.length → i < a.length → wr (V.take (i + 1)) (a.take (i + 1)) = wr (V.take i) (a.take i) + vl V i (a.getD i 0)
  | r :: R, j :: a, 0, _, _ => by simp [wr, vl, List.getD]
  | r :: R, j :: a, i + 1, h1, h2 => by
    simp only [List.take_succ_cons, wr]
    rw [wr_take R a i (by simpa using h1) (by simpa using h2)]
    rw [getD_cons_succ]
    have : vl (r :: R) (i + 1) (a.getD i 0) = vl R i (a.getD i 0) := by unfold vl; rw [getD_cons_succ]
    rw [this]; omega

/-- The greatest of a list of values, and of m. -/
theorem fm_ge (f : Nat → Int) : ∀ (L : List Nat) (m : Int), m ≤ L.foldl (fun m j => max m (f j)) m ∧ ∀ j ∈ L, f j ≤ L.foldl (fun m j => max m (f j)) m
  | [], m => ⟨Int.le_refl _, by simp⟩
  | x :: L, m => by
    have h := fm_ge f L (max m (f x))
    refine ⟨by have := h.1; simp only [List.foldl_cons]; omega, fun j hj => ?_⟩
    simp only [List.foldl_cons]
    rcases List.mem_cons.1 hj with rfl | hj
    · have := h.1; omega
    · exact h.2 j hj
theorem fm_at (f : Nat → Int) : ∀ (L : List Nat) (m : Int), L.foldl (fun m j => max m (f j)) m = m ∨ ∃ j ∈ L, L.foldl (fun m j => max m (f j)) m = f j
  | [], m => .inl rfl
  | x :: L, m => by
    simp only [List.foldl_cons]
    rcases fm_at f L (max m (f x)) with h | ⟨j, hj, h⟩
    · rw [h]
      by_cases hx : m ≤ f x
      · exact .inr ⟨x, by simp, by omega⟩
      · exact .inl (by omega)
    · exact .inr ⟨j, by simp [hj], h⟩
/-- The greatest value that items have for agents. -/
def opt : List (List Int) → List Nat → Int
  | [], _ => 0
  | r :: R, L => L.foldl (fun m j => max m (el r j + opt R (L.erase j))) 0
def Nn (V : List (List Int)) : Prop := ∀ r ∈ V, ∀ j, 0 ≤ el r j
theorem opt_nn : ∀ (V : List (List Int)) (L : List Nat), 0 ≤ opt V L
  | [], _ => Int.le_refl _
  | r :: R, L => (fm_ge (fun j => el r j + opt R (L.erase j)) L 0).1
theorem opt_item (r : List Int) (R : List (List Int)) {L : List Nat} {j : Nat} (hj : j ∈ L) : el r j + opt R (L.erase j) ≤ opt (r :: R) L := (fm_ge (fun j => el r j + opt R (L.erase j)) L 0).2 j hj
theorem opt_at {r : List Int} {R : List (List Int)} {L : List Nat} (hr : ∀ j, 0 ≤ el r j) (hL : L ≠ []) : ∃ j ∈ L, el r j + opt R (L.erase j) = opt (r :: R) L := by
  rcases fm_at (fun j => el r j + opt R (L.erase j)) L 0 with h | ⟨j, hj, h⟩
  · obtain ⟨j, hj⟩ := List.exists_mem_of_ne_nil L hL
    refine ⟨j, hj, ?_⟩
    have h1 := opt_item r R hj
    have h2 := hr j
    have h3 := opt_nn R (L.erase j)
    have h4 : opt (r :: R) L = 0 := h
    omega
  · exact ⟨j, hj, h.symm⟩
theorem opt_ge : ∀ (R : List (List Int)) (L a : List Nat), a.Perm L → wr R a ≤ opt R L
  | [], L, a, _ => by cases a <;> exact Int.le_refl _
  | r :: R, L, [], _ => opt_nn _ _
  | r :: R, L, j :: a, hp => by
    have hj : j ∈ L := hp.mem_iff.1 (by simp)
    have hp' : a.Perm (L.erase j) := by
      have := hp.erase j
      simpa using this
    have h1 := opt_ge R (L.erase j) a hp'
    have h2 := opt_item r R hj
    simp only [wr]; omega
/-- The first one of the best assignments. -/
def fb : List (List Int) → List Nat → List Nat
  | [], _ => []
  | r :: R, L => match L.find? (fun j => decide (el r j + opt R (L.erase j) = opt (r :: R) L)) with
    | some j => j :: fb R (L.erase j)
    | none => fb R L
theorem fb_some {r : List Int} {R : List (List Int)} {L : List Nat} (hr : ∀ j, 0 ≤ el r j) (hL : L ≠ []) : ∃ j, L.find? (fun j => decide (el r j + opt R (L.erase j) = opt (r :: R) L)) = some j ∧ j ∈ L ∧ el r j + opt R (L.erase j) = opt (r :: R) L ∧ fb (r :: R) L = j :: fb R (L.erase j) := by
  obtain ⟨j, hj, h⟩ := opt_at (R := R) hr hL
  have hs : (L.find? (fun j => decide (el r j + opt R (L.erase j) = opt (r :: R) L))).isSome = true := by
    rw [List.find?_isSome]; exact ⟨j, hj, by simpa using h⟩
  obtain ⟨k, hk⟩ := Option.isSome_iff_exists.1 hs
  refine ⟨k, hk, List.mem_of_find?_eq_some hk, by simpa using List.find?_some hk, ?_⟩
  simp only [fb, hk]
theorem fb_spec : ∀ (R : List (List Int)) (L : List Nat), Nn R → L.length = R.length → (fb R L).Perm L ∧ wr R (fb R L) = opt R L
  | [], L, _, hl => by
    have : L = [] := List.eq_nil_of_length_eq_zero hl
    subst this; exact ⟨.nil, rfl⟩
  | r :: R, L, hn, hl => by
    have hL : L ≠ [] := by intro e; subst e; simp at hl
    obtain ⟨j, _, hj, he, hf⟩ := fb_some (R := R) (hn r (by simp)) hL
    have ih := fb_spec R (L.erase j) (fun x hx => hn x (by simp [hx])) (by rw [List.length_erase_of_mem hj]; simp at hl; omega)
    rw [hf]
    exact ⟨((ih.1.cons j).trans (List.perm_cons_erase hj).symm), by simp only [wr, ih.2, he]⟩
theorem fb_first : ∀ (R : List (List Int)) (L a : List Nat), Nn R → L.length = R.length → L.Pairwise (· < ·) → a.Perm L → wr R a = opt R L → ∀ i, i < R.length → (∀ k, k < i → a.getD k 0 = (fb R L).getD k 0) → (fb R L).getD i 0 ≤ a.getD i 0
  | [], _, _, _, _, _, _, _, i, hi, _ => by simp at hi
  | r :: R, L, [], _, hl, _, hp, _, _, _, _ => by have := hp.length_eq; simp at this hl; omega
  | r :: R, L, j :: a, hn, hl, hs, hp, hw, i, hi, hk => by
    have hL : L ≠ [] := by intro e; subst e; simp at hl
    obtain ⟨q, hq, hqL, he, hf⟩ := fb_some (R := R) (hn r (by simp)) hL
    have hj : j ∈ L := hp.mem_iff.1 (by simp)
    have hp' : a.Perm (L.erase j) := by simpa using hp.erase j
    have h1 := opt_ge R (L.erase j) a hp'
    have h2 := opt_item r R hj
    simp only [wr] at hw
    have hjj : el r j + opt R (L.erase j) = opt (r :: R) L := by omega
    have hle : q ≤ j := by
      obtain ⟨_, as, bs, hsp, hno⟩ := List.find?_eq_some_iff_append.1 hq
      rw [hsp] at hj hs
      rcases List.mem_append.1 hj with h | h
      · have := hno j h
        simp [hjj] at this
      · rcases List.mem_cons.1 h with h | h
        · omega
        · have := (List.pairwise_append.1 hs).2.1
          have := (List.pairwise_cons.1 this).1 j h
          omega
    rw [hf] at hk ⊢
    cases i with
    | zero => simpa [List.getD] using hle
    | succ i =>
      have h0 := hk 0 (by omega)
      simp only [getD_cons_zero] at h0
      subst h0
      rw [getD_cons_succ, getD_cons_succ]
      refine fb_first R (L.erase j) a (fun x hx => hn x (by simp [hx])) (by rw [List.length_erase_of_mem hqL]; simp at hl; omega) (hs.sublist (List.erase_sublist)) hp' (by omega) i (by simpa using hi) (fun k hk' => ?_)
      have := hk (k + 1) (by omega)
      rwa [getD_cons_succ, getD_cons_succ] at this

/-- What a list of keys is turned into. -/
def nx : List Nat → List Nat → Nat → Nat
  | k :: ks, v :: vs, z => if z = k then v else nx ks vs z
  | _, _, z => z
theorem nx_out : ∀ (ks vs : List Nat) (z : Nat), z ∉ ks → nx ks vs z = z
  | [], _, _, _ => by simp [nx]
  | k :: ks, [], _, _ => by simp [nx]
  | k :: ks, v :: vs, z, h => by
    simp only [List.mem_cons, not_or] at h
    simp only [nx, if_neg h.1]
    exact nx_out ks vs z h.2
/-- A sum over two lists side by side. -/
def zs (w : Nat → Nat → Int) : List Nat → List Nat → Int
  | k :: ks, v :: vs => w k v + zs w ks vs
  | _, _ => 0
theorem map_nx : ∀ (ks vs : List Nat), ks.Nodup → ks.length = vs.length → ks.map (nx ks vs) = vs
  | [], [], _, _ => rfl
  | [], _ :: _, _, h => by simp at h
  | _ :: _, [], _, h => by simp at h
  | k :: ks, v :: vs, hn, h => by
    have hk := List.nodup_cons.1 hn
    rw [List.map_cons]
    have h0 : nx (k :: ks) (v :: vs) k = v := by simp [nx]
    rw [h0]
    have : ks.map (nx (k :: ks) (v :: vs)) = ks.map (nx ks vs) := by
      refine List.map_congr_left fun z hz => ?_
      have : z ≠ k := fun e => hk.1 (e ▸ hz)
      simp only [nx, if_neg this]
    rw [this, map_nx ks vs hk.2 (by simpa using h)]
theorem sm_zs (w : Nat → Nat → Int) : ∀ (ks vs : List Nat), ks.Nodup → ks.length = vs.length → sm (fun z => w z (nx ks vs z)) ks = zs w ks vs
  | [], [], _, _ => rfl
  | [], _ :: _, _, h => by simp at h
  | _ :: _, [], _, h => by simp at h
  | k :: ks, v :: vs, hn, h => by
    have hk := List.nodup_cons.1 hn
    simp only [sm, zs]
    have h0 : nx (k :: ks) (v :: vs) k = v := by simp [nx]
    rw [h0, ← sm_zs w ks vs hk.2 (by simpa using h)]
    congr 1
    refine sm_congr fun z hz => ?_
    have : z ≠ k := fun e => hk.1 (e ▸ hz)
    simp only [nx, if_neg this]
/-- A nodup list, its part that lies in another one ahead. -/
theorem split_perm {ks b : List Nat} (hk : ks.Nodup) (hb : b.Nodup) (hs : ∀ z ∈ ks, z ∈ b) : ∃ D, (ks ++ D).Perm b ∧ ∀ z ∈ D, z ∉ ks := by
  refine ⟨b.filter (fun z => !(decide (z ∈ ks))), ?_, fun z hz => by simpa using (List.mem_filter.1 hz).2⟩
  have h1 := List.filter_append_perm (fun z => decide (z ∈ ks)) b
  refine (List.Perm.append_right _ ?_).trans h1
  rw [List.perm_ext_iff_of_nodup hk (hb.sublist List.filter_sublist)]
  intro z
  simp only [List.mem_filter, decide_eq_true_eq]
  exact ⟨fun h => ⟨hs z h, h⟩, fun h => h.2⟩
theorem nx_perm {ks vs b : List Nat} (hk : ks.Nodup) (hv : vs.Perm ks) (hb : b.Nodup) (hs : ∀ z ∈ ks, z ∈ b) : (b.map (nx ks vs)).Perm b := by
  obtain ⟨D, hD, hno⟩ := split_perm hk hb hs
  have h1 := (hD.map (nx ks vs)).symm
  rw [List.map_append, map_nx ks vs hk hv.length_eq.symm] at h1
  have h2 : D.map (nx ks vs) = D := by
    have : D.map (nx ks vs) = D.map id := List.map_congr_left fun z hz => nx_out ks vs z (hno z hz)
    simpa using this
  rw [h2] at h1
  exact h1.trans ((hv.append_right D).trans hD)
/-- What the owner of an item would have more of another one. -/
def wt (V : List (List Int)) (b : List Nat) (x y : Nat) : Int := vl V (b.idxOf x) y - vl V (b.idxOf x) x
theorem range_getD (b : List Nat) : (List.range b.length).map (fun i => b.getD i 0) = b := by
  refine List.ext_getElem (by simp) fun i h1 h2 => ?_
  rw [List.getElem_map, List.getElem_range, getD_lt h2]
theorem idxOf_getD {b : List Nat} (hb : b.Nodup) {i : Nat} (h : i < b.length) : b.idxOf (b.getD i 0) = i := by
  rw [getD_lt h]
  have hm : b[i] ∈ b := List.getElem_mem h
  have h1 := List.idxOf_lt_length_iff.2 hm
  have h2 := List.getElem_idxOf h1
  have hp := List.pairwise_iff_getElem.1 hb
  rcases Nat.lt_trichotomy (b.idxOf b[i]) i with h3 | h3 | h3
  · exact absurd h2 (hp _ _ h1 h h3)
  · exact h3
  · exact absurd h2.symm (hp _ _ h h1 h3)
theorem wr_map {V : List (List Int)} {b : List Nat} (hb : b.Nodup) (hl : b.length = V.length) (g : Nat → Nat) : wr V (b.map g) = wr V b + sm (fun z => wt V b z (g z)) b := by
  rw [wr_eq V b hl, wr_eq V (b.map g) (by simpa using hl)]
  have h1 : sm (fun z => wt V b z (g z)) b = sm (fun i => vl V i (g (b.getD i 0)) - vl V i (b.getD i 0)) (List.range V.length) := by
    conv => lhs; rw [← range_getD b]
    rw [sm_map, ← hl]
    have hidx : ∀ i, i < b.length → b.idxOf (b.getD i 0) = i := fun i hi => idxOf_getD hb hi
    rw [range_getD]
    refine sm_congr fun i hi => ?_
    unfold wt
    rw [hidx i (by simpa using hi)]
  rw [h1, sm_sub]
  have h2 : sm (fun i => vl V i ((b.map g).getD i 0)) (List.range V.length) = sm (fun i => vl V i (g (b.getD i 0))) (List.range V.length) := by
    refine sm_congr fun i hi => ?_
    have hi' : i < b.length := by simp at hi; omega
    rw [getD_lt (l := b.map g) (by simpa using hi'), getD_lt hi', List.getElem_map]
  rw [h2]; omega
/-- A walk along items, the last one ahead: what it is worth. -/
def rk (V : List (List Int)) (b : List Nat) : List Nat → Int
  | y :: x :: l => wt V b x y + rk V b (x :: l)
  | _ => 0
theorem rk_append (V : List (List Int)) (b : List Nat) : ∀ (A : List Nat) (z : Nat) (C : List Nat), rk V b (A ++ z :: C) = rk V b (A ++ [z]) + rk V b (z :: C)
  | [], z, C => by simp [rk]
  | [y], z, C => by simp [rk]
  | y :: x :: A, z, C => by
    have := rk_append V b (x :: A) z C
    simp only [List.cons_append, rk] at this ⊢
    omega
theorem zs_rk (V : List (List Int)) (b : List Nat) : ∀ (x y : Nat) (B : List Nat), zs (wt V b) (B ++ [y]) (x :: B) = rk V b (x :: (B ++ [y]))
  | x, y, [] => by simp [zs, rk]
  | x, y, z :: B => by
    have := zs_rk V b z y B
    simp only [List.cons_append, zs, rk] at this ⊢
    omega
/-- An exchange along a circle of items. -/
theorem cyc {V : List (List Int)} {b : List Nat} (hb : b.Nodup) (hl : b.length = V.length) {x : Nat} {B : List Nat} (hn : (x :: B).Nodup) (hs : ∀ z ∈ x :: B, z ∈ b) :
    ∃ a : List Nat, a.Perm b ∧ wr V a = wr V b + rk V b (x :: (B ++ [x])) := by
  have hp : (x :: B).Perm (B ++ [x]) := by
    have : (x :: B).Perm ([x] ++ B) := .refl _
    exact this.trans List.perm_append_comm
  have hk : (B ++ [x]).Nodup := hp.nodup_iff.1 hn
  have hs' : ∀ z ∈ B ++ [x], z ∈ b := fun z hz => hs z (hp.mem_iff.2 hz)
  refine ⟨b.map (nx (B ++ [x]) (x :: B)), nx_perm hk hp hb hs', ?_⟩
  rw [wr_map hb hl]
  congr 1
  obtain ⟨D, hD, hno⟩ := split_perm hk hb hs'
  rw [← sm_perm hD, sm_append, sm_zs (wt V b) _ _ hk hp.length_eq.symm, zs_rk]
  rw [sm_zero (l := D) fun z hz => ?_]
  · omega
  · rw [nx_out _ _ _ (hno z hz)]; unfold wt; omega
/-- A list is without a repetition, or has a first circle. -/
theorem nodup_or : ∀ l : List Nat, l.Nodup ∨ ∃ A x B C, l = A ++ x :: (B ++ x :: C) ∧ (x :: B).Nodup
  | [] => .inl List.nodup_nil
  | y :: t => by
    rcases nodup_or t with h | ⟨A, x, B, C, rfl, h⟩
    · by_cases hy : y ∈ t
      · obtain ⟨B, C, e, hno⟩ := List.eq_append_cons_of_mem hy
        refine .inr ⟨[], y, B, C, by rw [e]; rfl, ?_⟩
        rw [e] at h
        exact List.nodup_cons.2 ⟨hno, (List.nodup_append.1 h).1⟩
      · exact .inl (List.nodup_cons.2 ⟨hy, h⟩)
    · exact .inr ⟨y :: A, x, B, C, rfl, h⟩
/-- b is an assignment than which none is better. -/
structure Top (V : List (List Int)) (b : List Nat) : Prop where
  perm : b.Perm (List.range V.length)
  top : ∀ a : List Nat, a.Perm (List.range V.length) → wr V a ≤ wr V b
theorem Top.nd {V : List (List Int)} {b : List Nat} (h : Top V b) : b.Nodup := h.perm.nodup_iff.2 List.nodup_range
theorem Top.len {V : List (List Int)} {b : List Nat} (h : Top V b) : b.length = V.length := by simpa using h.perm.length_eq
theorem Top.mem {V : List (List Int)} {b : List Nat} (h : Top V b) {x : Nat} : x ∈ b ↔ x < V.length := by rw [h.perm.mem_iff, List.mem_range]
theorem Top.circle {V : List (List Int)} {b : List Nat} (h : Top V b) {x : Nat} {B : List Nat} (hn : (x :: B).Nodup) (hs : ∀ z ∈ x :: B, z < V.length) : rk V b (x :: (B ++ [x])) ≤ 0 := by
  obtain ⟨a, ha, he⟩ := cyc h.nd h.len hn (fun z hz => h.mem.2 (hs z hz))
  have := h.top a (ha.trans h.perm)
  omega
/-- Each walk has one without a repetition that is worth as much or more. -/
theorem Top.simple {V : List (List Int)} {b : List Nat} (h : Top V b) : ∀ (n : Nat) (y : Nat) (t : List Nat), t.length ≤ n → (∀ z ∈ y :: t, z < V.length) → ∃ t', (y :: t').Nodup ∧ (∀ z ∈ y :: t', z < V.length) ∧ rk V b (y :: t) ≤ rk V b (y :: t')
  | 0, y, t, hl, hs => by
    have : t = [] := List.eq_nil_of_length_eq_zero (by omega)
    subst this
    exact ⟨[], by simp, hs, Int.le_refl _⟩
  | n + 1, y, t, hl, hs => by
    rcases nodup_or (y :: t) with hn | ⟨A, x, B, C, e, hn⟩
    · exact ⟨t, hn, hs, Int.le_refl _⟩
    · have hc : rk V b (x :: (B ++ [x])) ≤ 0 := h.circle hn (fun z hz => hs z (by rw [e]; rcases List.mem_cons.1 hz with rfl | hz <;> simp_all))
      have e1 : rk V b (y :: t) = rk V b (A ++ [x]) + (rk V b (x :: (B ++ [x])) + rk V b (x :: C)) := by
        rw [e, rk_append]
        congr 1
        exact rk_append V b (x :: B) x C
      have e2 : rk V b (A ++ x :: C) = rk V b (A ++ [x]) + rk V b (x :: C) := rk_append V b A x C
      have hlen := congrArg List.length e
      simp only [List.length_cons, List.length_append] at hlen
      have hmem : ∀ z ∈ A ++ x :: C, z < V.length := fun z hz => hs z (by rw [e]; rcases List.mem_append.1 hz with hz | hz <;> simp_all)
      cases A with
      | nil =>
        simp only [List.nil_append, List.cons.injEq] at e
        obtain ⟨rfl, _⟩ := e
        obtain ⟨t', h1, h2, h3⟩ := h.simple n y C (by simp at hlen; omega) hmem
        simp only [List.nil_append] at e2 e1
        exact ⟨t', h1, h2, by omega⟩
      | cons a A =>
        simp only [List.cons_append, List.cons.injEq] at e
        obtain ⟨rfl, _⟩ := e
        obtain ⟨t', h1, h2, h3⟩ := h.simple n y (A ++ x :: C) (by simp only [List.length_cons, List.length_append] at hlen ⊢; omega) hmem
        simp only [List.cons_append] at e2 e1
        exact ⟨t', h1, h2, by omega⟩
theorem nodup_len {n : Nat} {l : List Nat} (hn : l.Nodup) (hs : ∀ z ∈ l, z < n) : l.length ≤ n := by
  have := List.Nodup.length_le_of_subset hn (l₂ := List.range n) fun z hz => List.mem_range.2 (hs z hz)
  simpa using this
end Go.Proofs.Ytfpaefnaidppmaa.As
namespace Go.Proofs.Ytfpaefnaidppmaa.As
/-- Prices at which nobody would rather have another item. -/
def Cont (V : List (List Int)) (a : List Nat) (p : Nat → Int) : Prop := ∀ i j, i < V.length → j < V.length → vl V i j - p j ≤ vl V i (a.getD i 0) - p (a.getD i 0)
theorem sm_getD {a : List Nat} {n : Nat} (hl : a.length = n) (p : Nat → Int) : sm (fun i => p (a.getD i 0)) (List.range n) = sm p a := by
  subst hl
  conv => rhs; rw [← range_getD a]
  rw [sm_map]
theorem getD_mem {a : List Nat} {i : Nat} (h : i < a.length) : a.getD i 0 ∈ a := by rw [getD_lt h]; exact List.getElem_mem h
theorem Cont.top {V : List (List Int)} {a : List Nat} {p : Nat → Int} (h : Cont V a p) (ha : a.Perm (List.range V.length)) : Top V a := by
  refine ⟨ha, fun s hs => ?_⟩
  have la : a.length = V.length := by simpa using ha.length_eq
  have ls : s.length = V.length := by simpa using hs.length_eq
  have h1 : sm (fun i => vl V i (s.getD i 0) - p (s.getD i 0)) (List.range V.length) ≤ sm (fun i => vl V i (a.getD i 0) - p (a.getD i 0)) (List.range V.length) := by
    refine sm_le fun i hi => ?_
    have hi' : i < V.length := by simpa using hi
    have := hs.mem_iff.1 (getD_mem (a := s) (i := i) (by omega))
    exact h i _ hi' (List.mem_range.1 this)
  rw [sm_sub, sm_sub, sm_getD ls, sm_getD la, ← wr_eq V s ls, ← wr_eq V a la, sm_perm hs, sm_perm ha] at h1
  omega
/-- What proves one of two equally good assignments proves the other one. -/
theorem Cont.other {V : List (List Int)} {a b : List Nat} {p : Nat → Int} (h : Cont V a p) (ha : a.Perm (List.range V.length)) (hb : b.Perm (List.range V.length)) (he : wr V a ≤ wr V b) : Cont V b p := by
  have la : a.length = V.length := by simpa using ha.length_eq
  have lb : b.length = V.length := by simpa using hb.length_eq
  have h0 : ∀ i ∈ List.range V.length, (vl V i (a.getD i 0) - p (a.getD i 0)) - (vl V i (b.getD i 0) - p (b.getD i 0)) = 0 := by
    refine sm_all0 (fun i hi => ?_) ?_
    · have hi' : i < V.length := by simpa using hi
      have := hb.mem_iff.1 (getD_mem (a := b) (i := i) (by omega))
      have := h i _ hi' (List.mem_range.1 this)
      omega
    · rw [sm_sub, sm_sub, sm_sub, sm_getD la, sm_getD lb, ← wr_eq V a la, ← wr_eq V b lb, sm_perm ha, sm_perm hb]
      omega
  intro i j hi hj
  have h1 := h i j hi hj
  have h2 := h0 i (by simpa using hi)
  omega

/-- A price rises. -/
def rx (V : List (List Int)) (b : List Nat) (i : Nat) (p : List Int) (j : Nat) : List Int := p.set j (max (el p j) (el p (b.getD i 0) + vl V i j - vl V i (b.getD i 0)))
def row (V : List (List Int)) (b : List Nat) (p : List Int) (i k : Nat) : List Int := (List.range k).foldl (rx V b i) p
def rnd (V : List (List Int)) (b : List Nat) (p : List Int) (k : Nat) : List Int := (List.range k).foldl (fun p i => row V b p i V.length) p
def rnds (V : List (List Int)) (b : List Nat) : Nat → List Int
  | 0 => List.replicate V.length 0
  | k + 1 => rnd V b (rnds V b k) V.length
theorem row_succ (V : List (List Int)) (b : List Nat) (p : List Int) (i k : Nat) : row V b p i (k + 1) = rx V b i (row V b p i k) k := by simp [row, List.range_succ, List.foldl_append]
theorem rnd_succ (V : List (List Int)) (b : List Nat) (p : List Int) (k : Nat) : rnd V b p (k + 1) = row V b (rnd V b p k) k V.length := by simp [rnd, List.range_succ, List.foldl_append]
theorem el_set {p : List Int} {j k : Nat} {x : Int} (h : j < p.length) : el (p.set j x) k = if k = j then x else el p k := by
  unfold el
  by_cases e : k = j
  · subst e; simp [h]
  · rw [if_neg e]
    simp only [List.getD_eq_getElem?_getD]
    rw [List.getElem?_set_ne (by omega)]
/-- What each price is, all along: as many as items, worth a walk, and below what satisfies all. -/
structure Pr (V : List (List Int)) (b : List Nat) (p : List Int) : Prop where
  len : p.length = V.length
  at_ : ∀ y, y < V.length → ∃ t, (∀ z ∈ y :: t, z < V.length) ∧ el p y = rk V b (y :: t)
/-- One list of prices is nowhere below another one. -/
def Le (p q : List Int) : Prop := ∀ y, el p y ≤ el q y
section
variable {V : List (List Int)} {b : List Nat}
theorem wt_own (hb : Top V b) {i : Nat} (hi : i < V.length) (j : Nat) : wt V b (b.getD i 0) j = vl V i j - vl V i (b.getD i 0) := by
  unfold wt; rw [idxOf_getD hb.nd (by rw [hb.len]; exact hi)]
theorem own_lt (hb : Top V b) {i : Nat} (hi : i < V.length) : b.getD i 0 < V.length := hb.mem.1 (getD_mem (by rw [hb.len]; exact hi))
theorem rx_pr (hb : Top V b) {p : List Int} (h : Pr V b p) {i j : Nat} (hi : i < V.length) (hj : j < V.length) : Pr V b (rx V b i p j) := by
  refine ⟨by simp [rx, h.len], fun y hy => ?_⟩
  unfold rx
  rw [el_set (by rw [h.len]; exact hj)]
  by_cases e : y = j
  · subst e
    rw [if_pos rfl]
    by_cases hle : el p y ≤ el p (b.getD i 0) + vl V i y - vl V i (b.getD i 0)
    · obtain ⟨t, ht, he⟩ := h.at_ _ (own_lt hb hi)
      refine ⟨b.getD i 0 :: t, ?_, ?_⟩
      · intro z hz; rcases List.mem_cons.1 hz with rfl | hz
        · exact hy
        · exact ht z hz
      · rw [rk, wt_own hb hi, ← he]; omega
    · obtain ⟨t, ht, he⟩ := h.at_ y hy
      exact ⟨t, ht, by rw [← he]; omega⟩
  · rw [if_neg e]; exact h.at_ y hy
theorem rx_le {p : List Int} (hp : p.length = V.length) {i j : Nat} (hj : j < V.length) : Le p (rx V b i p j) := by
  intro y; unfold rx; rw [el_set (by omega)]
  split
  · subst_vars; omega
  · omega
theorem rx_ge {p : List Int} (hp : p.length = V.length) {i j : Nat} (hj : j < V.length) : el p (b.getD i 0) + vl V i j - vl V i (b.getD i 0) ≤ el (rx V b i p j) j := by
  unfold rx; rw [el_set (by omega), if_pos rfl]; omega
theorem Le.refl (p : List Int) : Le p p := fun _ => Int.le_refl _
theorem Le.trans {p q r : List Int} (h : Le p q) (k : Le q r) : Le p r := fun y => Int.le_trans (h y) (k y)
theorem row_pr (hb : Top V b) {p : List Int} (h : Pr V b p) {i : Nat} (hi : i < V.length) : ∀ k, k ≤ V.length → Pr V b (row V b p i k)
  | 0, _ => h
  | k + 1, hk => by rw [row_succ]; exact rx_pr hb (row_pr hb h hi k (by omega)) hi (by omega)
theorem row_le (hb : Top V b) {p : List Int} (h : Pr V b p) {i : Nat} (hi : i < V.length) : ∀ k, k ≤ V.length → Le p (row V b p i k)
  | 0, _ => Le.refl _
  | k + 1, hk => by rw [row_succ]; exact (row_le hb h hi k (by omega)).trans (rx_le (row_pr hb h hi k (by omega)).len (by omega))
theorem row_ge (hb : Top V b) {p : List Int} (h : Pr V b p) {i : Nat} (hi : i < V.length) : ∀ k, k ≤ V.length → ∀ j, j < k → el p (b.getD i 0) + vl V i j - vl V i (b.getD i 0) ≤ el (row V b p i k) j
  | 0, _, _, hj => absurd hj (by omega)
  | k + 1, hk, j, hj => by
    rw [row_succ]
    have h0 := row_pr hb h hi k (by omega)
    have h1 := row_le hb h hi k (by omega)
    by_cases e : j = k
    · subst e
      have h2 := rx_ge (b := b) (i := i) h0.len (j := j) (by omega)
      have h3 := h1 (b.getD i 0)
      omega
    · have h2 := row_ge hb h hi k (by omega) j (by omega)
      have h3 := rx_le (b := b) (i := i) h0.len (j := k) (by omega) j
      omega
theorem rnd_pr (hb : Top V b) {p : List Int} (h : Pr V b p) : ∀ k, k ≤ V.length → Pr V b (rnd V b p k)
  | 0, _ => h
  | k + 1, hk => by rw [rnd_succ]; exact row_pr hb (rnd_pr hb h k (by omega)) (by omega) _ (Nat.le_refl _)
theorem rnd_le (hb : Top V b) {p : List Int} (h : Pr V b p) : ∀ k, k ≤ V.length → Le p (rnd V b p k)
  | 0, _ => Le.refl _
  | k + 1, hk => by rw [rnd_succ]; exact (rnd_le hb h k (by omega)).trans (row_le hb (rnd_pr hb h k (by omega)) (by omega) _ (Nat.le_refl _))
theorem rnd_ge (hb : Top V b) {p : List Int} (h : Pr V b p) : ∀ k, k ≤ V.length → ∀ i, i < k → ∀ j, j < V.length → el p (b.getD i 0) + vl V i j - vl V i (b.getD i 0) ≤ el (rnd V b p k) j
  | 0, _, _, hi, _, _ => absurd hi (by omega)
  | k + 1, hk, i, hi, j, hj => by
    rw [rnd_succ]
    have h0 := rnd_pr hb h k (by omega)
    by_cases e : i = k
    · subst e
      have h2 := row_ge hb h0 (i := i) (by omega) _ (Nat.le_refl _) j hj
      have h3 := rnd_le hb h i (by omega) (b.getD i 0)
      omega
    · have h2 := rnd_ge hb h k (by omega) i (by omega) j hj
      have h3 := row_le hb h0 (i := k) (by omega) _ (Nat.le_refl _) j
      omega
theorem rnds_pr (hb : Top V b) : ∀ k, Pr V b (rnds V b k)
  | 0 => ⟨by simp [rnds], fun y hy => ⟨[], by simpa using hy, by simp [rnds, rk, el, hy]⟩⟩
  | k + 1 => rnd_pr hb (rnds_pr hb k) _ (Nat.le_refl _)
theorem rnds_nn (hb : Top V b) : ∀ k y, 0 ≤ el (rnds V b k) y
  | 0, y => by
    simp only [rnds, el, List.getD_eq_getElem?_getD, List.getElem?_replicate]
    split <;> simp
  | k + 1, y => by
    have := rnd_le hb (rnds_pr hb k) _ (Nat.le_refl _) y
    have := rnds_nn hb k y
    simp only [rnds]; omega
theorem rnds_walk (hb : Top V b) : ∀ (k y : Nat) (t : List Nat), t.length ≤ k → (∀ z ∈ y :: t, z < V.length) → rk V b (y :: t) ≤ el (rnds V b k) y
  | k, y, [], _, _ => by have := rnds_nn hb k y; simpa [rk] using this
  | k + 1, y, x :: t, hl, hs => by
    have h1 := rnds_walk hb k x t (by simpa using hl) (fun z hz => hs z (by simp [hz]))
    have hx : x < V.length := hs x (by simp)
    have hxb := hb.mem.2 hx
    have hi : b.idxOf x < b.length := List.idxOf_lt_length_iff.2 hxb
    have hg : b.getD (b.idxOf x) 0 = x := by rw [getD_lt hi]; exact List.getElem_idxOf hi
    have h2 := rnd_ge hb (rnds_pr hb k) _ (Nat.le_refl _) (b.idxOf x) (by rw [← hb.len]; exact hi) y (hs y (by simp))
    rw [hg] at h2
    simp only [rk, wt, rnds]; omega
/-- The least prices: rounds, as many as items. -/
def lp (V : List (List Int)) (b : List Nat) : List Int := rnds V b V.length
theorem lp_walk (hb : Top V b) (y : Nat) (t : List Nat) (hs : ∀ z ∈ y :: t, z < V.length) : rk V b (y :: t) ≤ el (lp V b) y := by
  obtain ⟨t', hn, hs', hle⟩ := hb.simple t.length y t (Nat.le_refl _) hs
  have hl := nodup_len hn hs'
  have := rnds_walk hb V.length y t' (by simp at hl; omega) hs'
  unfold lp; omega
theorem lp_at (hb : Top V b) {y : Nat} (hy : y < V.length) : ∃ t, (∀ z ∈ y :: t, z < V.length) ∧ el (lp V b) y = rk V b (y :: t) := (rnds_pr hb V.length).at_ y hy
theorem lp_len (hb : Top V b) : (lp V b).length = V.length := (rnds_pr hb V.length).len
theorem lp_nn (hb : Top V b) (y : Nat) : 0 ≤ el (lp V b) y := rnds_nn hb _ y
/-- They prove the assignment. -/
theorem lp_cont (hb : Top V b) : Cont V b (el (lp V b)) := by
  intro i j hi hj
  obtain ⟨t, ht, he⟩ := lp_at hb (own_lt hb hi)
  have h1 := lp_walk hb j (b.getD i 0 :: t) (by
    intro z hz; rcases List.mem_cons.1 hz with rfl | hz
    · exact hj
    · exact ht z hz)
  rw [rk, wt_own hb hi, ← he] at h1
  omega
/-- One of them is 0. -/
theorem lp_zero (hb : Top V b) (h0 : 0 < V.length) : ∃ z, z < V.length ∧ el (lp V b) z = 0 := by
  obtain ⟨t, ht, he⟩ := lp_at hb h0
  obtain ⟨A, z, e⟩ : ∃ A z, 0 :: t = A ++ [z] := ⟨(0 :: t).dropLast, (0 :: t).getLast (by simp), (List.dropLast_concat_getLast (by simp)).symm⟩
  have hz : z < V.length := ht z (by rw [e]; simp)
  refine ⟨z, hz, ?_⟩
  obtain ⟨s, hs, hes⟩ := lp_at hb hz
  have h1 : rk V b (A ++ z :: s) = rk V b (0 :: t) + el (lp V b) z := by rw [rk_append, e, hes]
  have h2 : rk V b (A ++ z :: s) ≤ el (lp V b) 0 := by
    cases A with
    | nil =>
      simp only [List.nil_append, List.cons.injEq] at e
      obtain ⟨rfl, rfl⟩ := e
      exact lp_walk hb 0 s hs
    | cons a A =>
      simp only [List.cons_append, List.cons.injEq] at e
      obtain ⟨rfl, rfl⟩ := e
      refine lp_walk hb 0 (A ++ z :: s) fun y hy => ?_
      rcases List.mem_cons.1 hy with rfl | hy
      · exact h0
      · rcases List.mem_append.1 hy with hy | hy
        · exact ht y (by simp [hy])
        · exact hs y hy
  have := lp_nn hb z
  omega
/-- No prices that prove it are lower. -/
theorem lp_least (hb : Top V b) {q : Nat → Int} (hq : Cont V b q) (h0 : ∀ j, j < V.length → 0 ≤ q j) {y : Nat} (hy : y < V.length) : el (lp V b) y ≤ q y := by
  obtain ⟨t, ht, he⟩ := lp_at hb hy
  rw [he]
  have key : ∀ (t : List Nat) (y : Nat), (∀ z ∈ y :: t, z < V.length) → rk V b (y :: t) ≤ q y := by
    intro t
    induction t with
    | nil => intro y hs; have := h0 y (hs y (by simp)); simpa [rk] using this
    | cons x t ih =>
      intro y hs
      have h1 := ih x (fun z hz => hs z (by simp [hz]))
      have hxb := hb.mem.2 (hs x (by simp))
      have hi : b.idxOf x < b.length := List.idxOf_lt_length_iff.2 hxb
      have hg : b.getD (b.idxOf x) 0 = x := by rw [getD_lt hi]; exact List.getElem_idxOf hi
      have h2 := hq (b.idxOf x) y (by rw [← hb.len]; exact hi) (hs y (by simp))
      rw [hg] at h2
      simp only [rk, wt]; omega
  exact key t y ht
/-- Their bound. -/
theorem lp_bound (hb : Top V b) (h0 : 0 < V.length) {M : Int} (hV : ∀ i j, 0 ≤ vl V i j ∧ vl V i j ≤ M) {y : Nat} (hy : y < V.length) : el (lp V b) y ≤ M := by
  obtain ⟨z, hz, hz0⟩ := lp_zero hb h0
  have hxb := hb.mem.2 hy
  have hi : b.idxOf y < b.length := List.idxOf_lt_length_iff.2 hxb
  have hg : b.getD (b.idxOf y) 0 = y := by rw [getD_lt hi]; exact List.getElem_idxOf hi
  have h1 := lp_cont hb (b.idxOf y) z (by rw [← hb.len]; exact hi) hz
  rw [hg, hz0] at h1
  have h2 := hV (b.idxOf y) y
  have h3 := hV (b.idxOf y) z
  omega
/-- All along they are not above what they come to. -/
theorem rnds_le (hb : Top V b) : ∀ k m, Le (rnds V b k) (rnds V b (k + m))
  | _, 0 => Le.refl _
  | k, m + 1 => (rnds_le hb k m).trans (rnd_le hb (rnds_pr hb (k + m)) _ (Nat.le_refl _))
theorem pr_le (hb : Top V b) {p : List Int} (h : Pr V b p) {y : Nat} (hy : y < V.length) : el p y ≤ el (lp V b) y := by
  obtain ⟨t, ht, he⟩ := h.at_ y hy
  rw [he]; exact lp_walk hb y t ht

/-- What the others can have of all items, with an agent's list put to 0: its harm is the least price of its item. -/
theorem harm (hb : Top V b) {i : Nat} (hi : i < V.length) {V' : List (List Int)} (hl : V'.length = V.length) (h0 : ∀ j, vl V' i j = 0) (hV : ∀ k j, k ≠ i → vl V' k j = vl V k j) {H : Int}
    (hge : ∀ a : List Nat, a.Perm (List.range V.length) → wr V' a ≤ H) (hat : ∃ a : List Nat, a.Perm (List.range V.length) ∧ wr V' a = H) : H - (wr V b - vl V i (b.getD i 0)) = el (lp V b) (b.getD i 0) := by
  have hbl := hb.len
  -- the worth of an assignment without the agent
  have hw : ∀ a : List Nat, a.length = V.length → wr V' a = wr V a - vl V i (a.getD i 0) := by
    intro a ha
    rw [wr_eq V' a (by omega), wr_eq V a ha, hl]
    obtain ⟨D, hD, hno⟩ := split_perm (ks := [i]) (by simp) List.nodup_range (b := List.range V.length) (by simpa using hi)
    rw [← sm_perm hD, ← sm_perm hD]
    simp only [List.singleton_append, sm]
    rw [h0, sm_congr (g := fun k => vl V k (a.getD k 0)) fun k hk => hV k _ (by simpa using hno k hk)]
    omega
  have hwb := hw b hbl
  have le1 : H - (wr V b - vl V i (b.getD i 0)) ≤ el (lp V b) (b.getD i 0) := by
    obtain ⟨s, hs, rfl⟩ := hat
    have hsl : s.length = V.length := by simpa using hs.length_eq
    rw [hw s hsl]
    have hc := lp_cont hb
    obtain ⟨D, hD, hno⟩ := split_perm (ks := [i]) (by simp) List.nodup_range (b := List.range V.length) (by simpa using hi)
    have h1 : sm (fun k => vl V k (s.getD k 0) - el (lp V b) (s.getD k 0)) D ≤ sm (fun k => vl V k (b.getD k 0) - el (lp V b) (b.getD k 0)) D := by
      refine sm_le fun k hk => ?_
      have hk' : k < V.length := List.mem_range.1 (hD.mem_iff.1 (by simp [hk]))
      exact hc k _ hk' (List.mem_range.1 (hs.mem_iff.1 (getD_mem (by omega))))
    have e1 := wr_eq V s hsl
    have e2 := wr_eq V b hbl
    have p1 := sm_getD hsl (el (lp V b))
    have p2 := sm_getD hbl (el (lp V b))
    rw [sm_perm hs] at p1
    rw [sm_perm hb.perm] at p2
    rw [← sm_perm hD] at e1 e2 p1 p2
    simp only [List.singleton_append, sm] at e1 e2 p1 p2
    rw [sm_sub, sm_sub] at h1
    have := lp_nn hb (s.getD i 0)
    have p1' : el (lp V b) (s.getD i 0) + sm (fun i => el (lp V b) (s.getD i 0)) D = el (lp V b) (b.getD i 0) + sm (fun i => el (lp V b) (b.getD i 0)) D := p1.trans p2.symm
    omega
  have le2 : el (lp V b) (b.getD i 0) ≤ H - (wr V b - vl V i (b.getD i 0)) := by
    have hy := own_lt hb hi
    obtain ⟨t0, ht0, he0⟩ := lp_at hb hy
    obtain ⟨t, hn, ht, hle⟩ := hb.simple t0.length _ t0 (Nat.le_refl _) ht0
    rw [he0]
    obtain ⟨a, ha, hwa⟩ := cyc (V := V') hb.nd (by omega) hn (fun z hz => hb.mem.2 (ht z hz))
    have hg := hge a (ha.trans hb.perm)
    -- in V' the circle is worth what the walk is worth in V
    have hsame : ∀ (t : List Nat) (y : Nat), (∀ z ∈ t, z ≠ b.getD i 0 ∧ z < V.length) → rk V' b (y :: t) = rk V b (y :: t) := by
      intro t
      induction t with
      | nil => intro y _; simp [rk]
      | cons x t ih =>
        intro y h
        simp only [rk]
        rw [ih x fun z hz => h z (by simp [hz])]
        have hx := h x (by simp)
        have hk : b.idxOf x ≠ i := by
          intro e
          have hi' : b.idxOf x < b.length := List.idxOf_lt_length_iff.2 (hb.mem.2 hx.2)
          have hg : b.getD (b.idxOf x) 0 = x := by rw [getD_lt hi']; exact List.getElem_idxOf hi'
          rw [e] at hg
          exact hx.1 hg.symm
        unfold wt
        rw [hV _ _ hk, hV _ _ hk]
    have hnt : ∀ z ∈ t, z ≠ b.getD i 0 ∧ z < V.length := fun z hz => ⟨fun e => (List.nodup_cons.1 hn).1 (e ▸ hz), ht z (by simp [hz])⟩
    have hlast : rk V' b (b.getD i 0 :: (t ++ [b.getD i 0])) = rk V' b (b.getD i 0 :: t) := by
      have h0' : ∀ y, wt V' b (b.getD i 0) y = 0 := by
        intro y; unfold wt; rw [idxOf_getD hb.nd (by omega), h0, h0]; rfl
      have : ∀ (t : List Nat) (y : Nat), rk V' b (y :: (t ++ [b.getD i 0])) = rk V' b (y :: t) := by
        intro t
        induction t with
        | nil => intro y; show wt V' b (b.getD i 0) y + 0 = 0; rw [h0']; rfl
        | cons x t ih => intro y; simp only [List.cons_append, rk]; rw [ih x]
      exact this t _
    rw [hlast, hsame t _ hnt, hwb] at hwa
    omega
  omega
end
end Go.Proofs.Ytfpaefnaidppmaa.As
namespace Go.Proofs.Ytfpaefnaidppmaa.As
def upd (S : Nat → Bool) (x : Nat) (b : Bool) : Nat → Bool := fun i => if i = x then b else S i
/-- How many items are not seen yet. -/
def cnt (S : Nat → Bool) (n : Nat) : Nat := ((List.range n).filter (fun i => !S i)).length
/-- A step of the search for the greatest one. -/
def stp (S : Nat → Bool) (val : Nat → Int) (st : Int × Bool) (j : Nat) : Int × Bool := if S j then st else if !st.2 || decide (st.1 < val j) then (val j, true) else st
/-- The greatest path from x to an item, over items that are not seen. -/
def lk (V : List (List Int)) (b : List Nat) (to : Nat) : Nat → (Nat → Bool) → Nat → Int
  | 0, _, _ => 0
  | f + 1, S, x => if x = to then 0 else ((List.range V.length).foldl (stp (upd S x true) (fun j => wt V b x j + lk V b to f (upd S x true) j)) (0, false)).1
theorem stp_fold (S : Nat → Bool) (val : Nat → Int) : ∀ (l : List Nat) (st : Int × Bool),
    (st.2 = true → (l.foldl (stp S val) st).2 = true ∧ st.1 ≤ (l.foldl (stp S val) st).1) ∧ (∀ j ∈ l, S j = false → (l.foldl (stp S val) st).2 = true ∧ val j ≤ (l.foldl (stp S val) st).1) ∧
    ((l.foldl (stp S val) st).2 = true → (l.foldl (stp S val) st) = st ∨ ∃ j ∈ l, S j = false ∧ (l.foldl (stp S val) st).1 = val j) ∧ ((l.foldl (stp S val) st).2 = false → l.foldl (stp S val) st = st)
  | [], st => ⟨fun h => ⟨h, Int.le_refl _⟩, by simp, fun _ => .inl rfl, fun _ => rfl⟩
  | x :: l, st => by
    have ih := stp_fold S val l (stp S val st x)
    simp only [List.foldl_cons]
    obtain ⟨i1, i2, i3, i4⟩ := ih
    by_cases hx : S x = true
    · have e : stp S val st x = st := by unfold stp; rw [if_pos hx]
      rw [e] at i1 i2 i3 i4 ⊢
      refine ⟨i1, fun j hj hS => ?_, fun h => ?_, i4⟩
      · rcases List.mem_cons.1 hj with rfl | hj
        · rw [hx] at hS; cases hS
        · exact i2 j hj hS
      · rcases i3 h with h1 | ⟨j, hj, h1⟩
        · exact .inl h1
        · exact .inr ⟨j, by simp [hj], h1⟩
    · have hx : S x = false := by simpa using hx
      by_cases hc : (!st.2 || decide (st.1 < val x)) = true
      · have e : stp S val st x = (val x, true) := by unfold stp; rw [if_neg (by rw [hx]; simp), if_pos hc]
        rw [e] at i1 i2 i3 i4 ⊢
        have h1 := i1 rfl
        refine ⟨fun h => ⟨h1.1, ?_⟩, fun j hj hS => ?_, fun h => ?_, fun h => ?_⟩
        · rw [h] at hc
          have : st.1 < val x := by simpa using hc
          have := h1.2
          simp only at this
          omega
        · rcases List.mem_cons.1 hj with rfl | hj
          · exact h1
          · exact i2 j hj hS
        · rcases i3 h with h2 | ⟨j, hj, h2⟩
          · exact .inr ⟨x, by simp, hx, by rw [h2]⟩
          · exact .inr ⟨j, by simp [hj], h2⟩
        · rw [h1.1] at h; cases h
      · have hc2 : st.2 = true ∧ ¬ st.1 < val x := by
          cases h2 : st.2 <;> simp [h2] at hc ⊢
          omega
        have e : stp S val st x = st := by unfold stp; rw [if_neg (by rw [hx]; simp), if_neg hc]
        rw [e] at i1 i2 i3 i4 ⊢
        refine ⟨i1, fun j hj hS => ?_, fun h => ?_, i4⟩
        · rcases List.mem_cons.1 hj with rfl | hj
          · have := i1 hc2.1
            exact ⟨this.1, by omega⟩
          · exact i2 j hj hS
        · rcases i3 h with h1 | ⟨j, hj, h1⟩
          · exact .inl h1
          · exact .inr ⟨j, by simp [hj], h1⟩
/-- What a path along items is worth. -/
def fw (V : List (List Int)) (b : List Nat) : List Nat → Int
  | x :: y :: l => wt V b x y + fw V b (y :: l)
  | _ => 0
theorem fw_snoc (V : List (List Int)) (b : List Nat) : ∀ (A : List Nat) (x y : Nat), fw V b (A ++ [x, y]) = fw V b (A ++ [x]) + wt V b x y
  | [], x, y => by simp [fw]
  | [z], x, y => by simp [fw]
  | z :: u :: A, x, y => by
    have := fw_snoc V b (u :: A) x y
    simp only [List.cons_append, fw] at this ⊢
    omega
theorem fw_rev (V : List (List Int)) (b : List Nat) : ∀ l : List Nat, fw V b l.reverse = rk V b l
  | [] => rfl
  | [x] => rfl
  | y :: x :: l => by
    have := fw_rev V b (x :: l)
    simp only [List.reverse_cons, List.append_assoc, List.singleton_append] at this ⊢
    rw [fw_snoc, this]
    simp only [rk]; omega
section
variable {V : List (List Int)} {b : List Nat}
theorem cnt_upd {S : Nat → Bool} {x n : Nat} (hx : x < n) (h : S x = false) : cnt (upd S x true) n + 1 = cnt S n := by
  obtain ⟨D, hD, hno⟩ := split_perm (ks := [x]) (by simp) List.nodup_range (b := List.range n) (by simpa using hx)
  have e1 : cnt (upd S x true) n = (([x] ++ D).filter (fun i => !upd S x true i)).length := (hD.filter _).length_eq.symm
  have e2 : cnt S n = (([x] ++ D).filter (fun i => !S i)).length := (hD.filter _).length_eq.symm
  have e3 : D.filter (fun i => !upd S x true i) = D.filter (fun i => !S i) := List.filter_congr fun i hi => by
    have : i ≠ x := by simpa using hno i hi
    simp [upd, this]
  rw [e1, e2]
  simp only [List.singleton_append, List.filter_cons]
  rw [e3]
  simp [upd, h]
theorem cnt_pos {S : Nat → Bool} {x n : Nat} (hx : x < n) (h : S x = false) : 1 ≤ cnt S n := by
  have := cnt_upd hx h; omega
/-- A path is worth no more than the prices' difference. -/
theorem lk_le (hb : Top V b) {to : Nat} (hto : to < V.length) : ∀ (f : Nat) (S : Nat → Bool) (x : Nat), x < V.length → S x = false → S to = false → cnt S V.length ≤ f → lk V b to f S x ≤ el (lp V b) to - el (lp V b) x
  | 0, S, x, hx, hS, _, hc => absurd (cnt_pos hx hS) (by omega)
  | f + 1, S, x, hx, hS, hSt, hc => by
    simp only [lk]
    by_cases e : x = to
    · subst e; simp
    · rw [if_neg e]
      have hu := cnt_upd hx hS
      have hto' : upd S x true to = false := by unfold upd; rw [if_neg (fun h => e h.symm)]; exact hSt
      obtain ⟨_, h2, h3, _⟩ := stp_fold (upd S x true) (fun j => wt V b x j + lk V b to f (upd S x true) j) (List.range V.length) (0, false)
      have h4 := h2 to (by simpa using hto) hto'
      rcases h3 h4.1 with h5 | ⟨j, hj, hSj, h5⟩
      · rw [h5] at h4; simp at h4
      · rw [h5]
        have hj' : j < V.length := by simpa using hj
        have ih := lk_le hb hto f (upd S x true) j hj' hSj hto' (by omega)
        have hxb := hb.mem.2 hx
        have hi : b.idxOf x < b.length := List.idxOf_lt_length_iff.2 hxb
        have hg : b.getD (b.idxOf x) 0 = x := by rw [getD_lt hi]; exact List.getElem_idxOf hi
        have hc2 := lp_cont hb (b.idxOf x) j (by rw [← hb.len]; exact hi) hj'
        rw [hg] at hc2
        unfold wt
        omega
/-- Each path over items that are not seen is worth no more than the greatest. -/
theorem lk_ge {to : Nat} : ∀ (f : Nat) (S : Nat → Bool) (x : Nat) (P : List Nat), (x :: P).Nodup → (∀ z ∈ x :: P, z < V.length ∧ S z = false) → (x :: P).getLast? = some to → cnt S V.length ≤ f → fw V b (x :: P) ≤ lk V b to f S x
  | 0, S, x, P, _, hs, _, hc => absurd (cnt_pos (hs x (by simp)).1 (hs x (by simp)).2) (by omega)
  | f + 1, S, x, [], _, _, hl, _ => by
    have : x = to := by simpa using hl
    simp [fw, lk, this]
  | f + 1, S, x, y :: P, hn, hs, hl, hc => by
    have hnc := List.nodup_cons.1 hn
    have hlast : (y :: P).getLast? = some to := by simpa [List.getLast?_cons] using hl
    have htom : to ∈ y :: P := List.mem_of_getLast? hlast
    have hx : x ≠ to := fun e => hnc.1 (e ▸ htom)
    have hu := cnt_upd (hs x (by simp)).1 (hs x (by simp)).2
    have hS' : ∀ z ∈ y :: P, z < V.length ∧ upd S x true z = false := fun z hz => by
      have h1 := hs z (by simp only [List.mem_cons] at hz ⊢; exact .inr hz)
      have h2 : z ≠ x := fun e => hnc.1 (e ▸ hz)
      exact ⟨h1.1, by unfold upd; rw [if_neg h2]; exact h1.2⟩
    have ih := lk_ge f (upd S x true) y P hnc.2 hS' hlast (by omega)
    simp only [lk, fw]
    rw [if_neg hx]
    have h2 := (stp_fold (upd S x true) (fun j => wt V b x j + lk V b to f (upd S x true) j) (List.range V.length) (0, false)).2.1 y (by simpa using (hS' y (by simp)).1) (hS' y (by simp)).2
    have := h2.2
    omega
theorem lk_bd {to : Nat} (hV : ∀ i j, 0 ≤ vl V i j ∧ vl V i j ≤ 1000000) : ∀ (f : Nat) (S : Nat → Bool) (x : Nat), -(f * 1000000 : Int) ≤ lk V b to f S x ∧ lk V b to f S x ≤ f * 1000000
  | 0, S, x => by simp [lk]
  | f + 1, S, x => by
    simp only [lk]
    by_cases e : x = to
    · rw [if_pos e]; omega
    · rw [if_neg e]
      obtain ⟨_, _, h3, h4⟩ := stp_fold (upd S x true) (fun j => wt V b x j + lk V b to f (upd S x true) j) (List.range V.length) (0, false)
      cases hf : ((List.range V.length).foldl (stp (upd S x true) (fun j => wt V b x j + lk V b to f (upd S x true) j)) (0, false)).2
      · rw [h4 hf]
        simp only
        omega
      · rcases h3 hf with h5 | ⟨j, hj, _, h5⟩
        · rw [h5]
          simp only
          omega
        · rw [h5]
          have ih := lk_bd (to := to) hV f (upd S x true) j
          have h6 := hV (b.idxOf x) j
          have h7 := hV (b.idxOf x) x
          unfold wt
          omega
/-- The greatest of all paths to an item, and 0: its least price. -/
def lm (V : List (List Int)) (b : List Nat) (to k : Nat) : Int := (List.range k).foldl (fun m i => max m (lk V b to V.length (fun _ => false) i)) 0
theorem cnt_none (n : Nat) : cnt (fun _ => false) n = n := by
  unfold cnt
  have h : (List.range n).filter (fun i => !(fun _ : Nat => false) i) = List.range n := List.filter_eq_self.2 (fun _ _ => rfl)
  rw [h]; simp
theorem lm_lp (hb : Top V b) {to : Nat} (hto : to < V.length) : lm V b to V.length = el (lp V b) to := by
  have hle : ∀ i, i < V.length → lk V b to V.length (fun _ => false) i ≤ el (lp V b) to := fun i hi => by
    have := lk_le hb hto V.length (fun _ => false) i hi rfl rfl (by rw [cnt_none]; exact Nat.le_refl _)
    have := lp_nn hb i
    omega
  have h0 := lp_nn hb to
  have up : lm V b to V.length ≤ el (lp V b) to := by
    rcases fm_at (fun i => lk V b to V.length (fun _ => false) i) (List.range V.length) 0 with h | ⟨j, hj, h⟩
    · unfold lm; rw [h]; exact h0
    · unfold lm; rw [h]; exact hle j (by simpa using hj)
  obtain ⟨t0, ht0, he0⟩ := lp_at hb hto
  obtain ⟨t, hn, ht, hge⟩ := hb.simple t0.length _ t0 (Nat.le_refl _) ht0
  have hrev := fw_rev V b (to :: t)
  obtain ⟨x, P, e⟩ : ∃ x P, (to :: t).reverse = x :: P := by
    cases h : (to :: t).reverse with
    | nil => simp at h
    | cons x P => exact ⟨x, P, rfl⟩
  rw [e] at hrev
  have hmem : ∀ z ∈ x :: P, z < V.length ∧ (fun _ : Nat => false) z = false := fun z hz => ⟨ht z (by
    have : z ∈ (to :: t).reverse := by rw [e]; exact hz
    exact List.mem_reverse.1 this), rfl⟩
  have hnd : (x :: P).Nodup := by rw [← e]; exact (List.reverse_perm _).nodup_iff.2 hn
  have hlast : (x :: P).getLast? = some to := by rw [← e, List.getLast?_reverse]; rfl
  have h1 := lk_ge (V := V) (b := b) V.length (fun _ => false) x P hnd hmem hlast (by rw [cnt_none]; exact Nat.le_refl _)
  have h2 := (fm_ge (fun i => lk V b to V.length (fun _ => false) i) (List.range V.length) 0).2 x (by simpa using (hmem x (by simp)).1)
  unfold lm at up ⊢
  omega
theorem lm_succ (V : List (List Int)) (b : List Nat) (to k : Nat) : lm V b to (k + 1) = max (lm V b to k) (lk V b to V.length (fun _ => false) k) := by simp [lm, List.range_succ, List.foldl_append]
end
end Go.Proofs.Ytfpaefnaidppmaa.As
namespace Go.Proofs.Ytfpaefnaidppmaa.As
/-- Each walk has one without a repetition, with the same ends, that is worth as much or more. -/
theorem Top.simple2 {V : List (List Int)} {b : List Nat} (h : Top V b) : ∀ (n : Nat) (y : Nat) (t : List Nat), t.length ≤ n → (∀ z ∈ y :: t, z < V.length) → ∃ t', (y :: t').Nodup ∧ (∀ z ∈ y :: t', z < V.length) ∧ (y :: t').getLast? = (y :: t).getLast? ∧ rk V b (y :: t) ≤ rk V b (y :: t')
  | 0, y, t, hl, hs => by
    have : t = [] := List.eq_nil_of_length_eq_zero (by omega)
    subst this
    exact ⟨[], by simp, hs, rfl, Int.le_refl _⟩
  | n + 1, y, t, hl, hs => by
    rcases nodup_or (y :: t) with hn | ⟨A, x, B, C, e, hn⟩
    · exact ⟨t, hn, hs, rfl, Int.le_refl _⟩
    · have hc : rk V b (x :: (B ++ [x])) ≤ 0 := h.circle hn (fun z hz => hs z (by rw [e]; rcases List.mem_cons.1 hz with rfl | hz <;> simp_all))
      have e1 : rk V b (y :: t) = rk V b (A ++ [x]) + (rk V b (x :: (B ++ [x])) + rk V b (x :: C)) := by
        rw [e, rk_append]
        congr 1
        exact rk_append V b (x :: B) x C
      have e2 : rk V b (A ++ x :: C) = rk V b (A ++ [x]) + rk V b (x :: C) := rk_append V b A x C
      have hlen := congrArg List.length e
      simp only [List.length_cons, List.length_append] at hlen
      have hmem : ∀ z ∈ A ++ x :: C, z < V.length := fun z hz => hs z (by rw [e]; rcases List.mem_append.1 hz with hz | hz <;> simp_all)
      have hlast : (A ++ x :: C).getLast? = (y :: t).getLast? := by
        rw [e]
        simp [List.getLast?_append, List.getLast?_cons]
      cases A with
      | nil =>
        simp only [List.nil_append, List.cons.injEq] at e
        obtain ⟨rfl, _⟩ := e
        obtain ⟨t', h1, h2, h3, h4⟩ := h.simple2 n y C (by simp at hlen; omega) hmem
        simp only [List.nil_append] at e2 e1 hlast
        exact ⟨t', h1, h2, h3.trans hlast, by omega⟩
      | cons a A =>
        simp only [List.cons_append, List.cons.injEq] at e
        obtain ⟨rfl, _⟩ := e
        obtain ⟨t', h1, h2, h3, h4⟩ := h.simple2 n y (A ++ x :: C) (by simp only [List.length_cons, List.length_append] at hlen ⊢; omega) hmem
        simp only [List.cons_append] at e2 e1 hlast
        exact ⟨t', h1, h2, h3.trans hlast, by omega⟩
/-- The link from x to y. -/
def lkm (V : List (List Int)) (b : List Nat) (x y : Nat) : Int := lk V b y V.length (fun _ => false) x
section
variable {V : List (List Int)} {b : List Nat}
theorem lk_at {to : Nat} (hto : to < V.length) : ∀ (f : Nat) (S : Nat → Bool) (x : Nat), x < V.length → S x = false → S to = false → cnt S V.length ≤ f → ∃ P, (∀ z ∈ x :: P, z < V.length) ∧ (x :: P).getLast? = some to ∧ lk V b to f S x = fw V b (x :: P)
  | 0, S, x, hx, hS, _, hc => absurd (cnt_pos hx hS) (by omega)
  | f + 1, S, x, hx, hS, hSt, hc => by
    by_cases e : x = to
    · subst e
      exact ⟨[], by simpa using hx, rfl, by simp [lk, fw]⟩
    · have hu := cnt_upd hx hS
      have hto' : upd S x true to = false := by unfold upd; rw [if_neg (fun h => e h.symm)]; exact hSt
      obtain ⟨_, h2, h3, _⟩ := stp_fold (upd S x true) (fun j => wt V b x j + lk V b to f (upd S x true) j) (List.range V.length) (0, false)
      have h4 := h2 to (by simpa using hto) hto'
      rcases h3 h4.1 with h5 | ⟨j, hj, hSj, h5⟩
      · rw [h5] at h4; simp at h4
      · have hj' : j < V.length := by simpa using hj
        obtain ⟨P, hP, hl, he⟩ := lk_at hto f (upd S x true) j hj' hSj hto' (by omega)
        refine ⟨j :: P, fun z hz => ?_, ?_, ?_⟩
        · rcases List.mem_cons.1 hz with rfl | hz
          · exact hx
          · exact hP z hz
        · rw [List.getLast?_cons_cons]; exact hl
        · simp only [lk, fw]
          rw [if_neg e, h5, he]
/-- No walk is worth more than the link of its ends. -/
theorem walk_le (hb : Top V b) {x y : Nat} {P : List Nat} (hP : ∀ z ∈ x :: P, z < V.length) (hl : (x :: P).getLast? = some y) : fw V b (x :: P) ≤ lkm V b x y := by
  obtain ⟨t, ht⟩ : ∃ t, (x :: P).reverse = y :: t := by
    cases h : (x :: P).reverse with
    | nil => simp at h
    | cons z t =>
      have h2 : (x :: P).getLast? = (x :: P).reverse.head? := by rw [List.head?_reverse]
      rw [h, hl] at h2
      simp at h2
      exact ⟨t, by rw [h2]⟩
  have ht2 : (y :: t).reverse = x :: P := by rw [← ht, List.reverse_reverse]
  have e1 : fw V b (x :: P) = rk V b (y :: t) := by rw [← ht2]; exact fw_rev V b _
  obtain ⟨t', hn, hs, hla, hge⟩ := hb.simple2 t.length y t (Nat.le_refl _) (fun z hz => hP z (by rw [← ht2]; exact List.mem_reverse.2 hz))
  have hlx : (y :: t).getLast? = some x := by
    have : (y :: t).getLast? = (y :: t).reverse.head? := by rw [List.head?_reverse]
    rw [this, ht2]; rfl
  rw [hlx] at hla
  obtain ⟨Q, hQ⟩ : ∃ Q, (y :: t').reverse = x :: Q := by
    cases h : (y :: t').reverse with
    | nil => simp at h
    | cons z q =>
      have h2 : (y :: t').getLast? = (y :: t').reverse.head? := by rw [List.head?_reverse]
      rw [h, hla] at h2
      simp at h2
      exact ⟨q, by rw [h2]⟩
  have e2 : fw V b (x :: Q) = rk V b (y :: t') := by rw [← hQ]; exact fw_rev V b _
  have h1 := lk_ge (V := V) (b := b) (to := y) V.length (fun _ => false) x Q (by rw [← hQ]; exact (List.reverse_perm _).nodup_iff.2 hn) (fun z hz => ⟨hs z (by rw [← hQ] at hz; exact List.mem_reverse.1 hz), rfl⟩) (by rw [← hQ, List.getLast?_reverse]; rfl) (by rw [cnt_none]; exact Nat.le_refl _)
  unfold lkm
  omega
theorem lkm_at {x y : Nat} (hx : x < V.length) (hy : y < V.length) : ∃ P, (∀ z ∈ x :: P, z < V.length) ∧ (x :: P).getLast? = some y ∧ lkm V b x y = fw V b (x :: P) := lk_at hy V.length (fun _ => false) x hx rfl rfl (by rw [cnt_none]; exact Nat.le_refl _)
theorem fw_end (V : List (List Int)) (b : List Nat) : ∀ (x : Nat) (P : List Nat) (y j : Nat), (x :: P).getLast? = some y → fw V b ((x :: P) ++ [j]) = fw V b (x :: P) + wt V b y j
  | x, [], y, j, h => by
    have : x = y := by simpa using h
    subst this; simp [fw]
  | x, z :: P, y, j, h => by
    rw [List.getLast?_cons_cons] at h
    have := fw_end V b z P y j h
    simp only [List.cons_append, fw] at this ⊢
    omega
theorem lkm_zero (_hb : Top V b) {x : Nat} (hx : x < V.length) : lkm V b x x = 0 := by
  have h0 : 0 < V.length := by omega
  obtain ⟨n, hn⟩ : ∃ n, V.length = n + 1 := ⟨V.length - 1, by omega⟩
  unfold lkm
  rw [hn]
  simp [lk]
theorem lkm_cont (hb : Top V b) {x : Nat} (hx : x < V.length) : Cont V b (lkm V b x) := by
  intro i j hi hj
  have hy := own_lt hb hi
  obtain ⟨P, hP, hl, he⟩ := lkm_at (b := b) hx hy
  have h1 := fw_end V b x P _ j hl
  have h2 := walk_le hb (x := x) (y := j) (P := P ++ [j]) (fun z hz => by
    rw [← List.cons_append] at hz
    rcases List.mem_append.1 hz with hz | hz
    · exact hP z hz
    · have : z = j := by simpa using hz
      omega) (by rw [← List.cons_append]; exact List.getLast?_concat ..)
  rw [← List.cons_append, h1, ← he, wt_own hb hi] at h2
  omega
/-- All values times a number. -/
def sc (D : Int) (V : List (List Int)) : List (List Int) := V.map fun r => r.map fun x => D * x
theorem sc_len (D : Int) (V : List (List Int)) : (sc D V).length = V.length := by simp [sc]
theorem sc_vl (D : Int) (V : List (List Int)) (i j : Nat) : vl (sc D V) i j = D * vl V i j := by
  unfold vl el sc
  rcases Nat.lt_or_ge i V.length with hi | hi
  · have e : (V.map fun r => r.map fun x => D * x).getD i [] = (V.getD i []).map fun x => D * x := by simp [List.getD_eq_getElem?_getD, hi]
    rw [e]
    simp only [List.getD_eq_getElem?_getD, List.getElem?_map]
    cases (V[i]?.getD [])[j]? <;> simp
  · have e1 : (V.map fun r => r.map fun x => D * x).getD i [] = [] := by simp [List.getD_eq_getElem?_getD, hi]
    have e2 : V.getD i [] = [] := by simp [List.getD_eq_getElem?_getD, hi]
    rw [e1, e2]; simp
theorem sm_mul (D : Int) (f : Nat → Int) : ∀ l, sm (fun x => D * f x) l = D * sm f l
  | [] => by simp [sm]
  | x :: l => by simp only [sm]; rw [sm_mul D f l, Int.mul_add]
theorem sc_wr (D : Int) (V : List (List Int)) {a : List Nat} (h : a.length = V.length) : wr (sc D V) a = D * wr V a := by
  rw [wr_eq _ _ (by rw [sc_len]; exact h), wr_eq _ _ h, sc_len, ← sm_mul]
  exact sm_congr fun i _ => sc_vl D V i _
theorem sc_wt (D : Int) (V : List (List Int)) (b : List Nat) (x y : Nat) : wt (sc D V) b x y = D * wt V b x y := by
  unfold wt
  rw [sc_vl, sc_vl, Int.mul_sub]
/-- A walk along prices without envy. -/
theorem fw_cont {D : Int} {p : Nat → Int} (hb : Top V b) (hc : Cont (sc D V) b p) : ∀ (P : List Nat) (x y : Nat), (∀ z ∈ x :: P, z < V.length) → (x :: P).getLast? = some y → D * fw V b (x :: P) ≤ p y - p x
  | [], x, y, _, h => by
    have : x = y := by simpa using h
    subst this; simp [fw]
  | z :: P, x, y, hs, h => by
    rw [List.getLast?_cons_cons] at h
    have ih := fw_cont hb hc P z y (fun u hu => hs u (by simp only [List.mem_cons] at hu ⊢; exact .inr hu)) h
    have hx := hs x (by simp)
    have hz := hs z (by simp)
    have hxb := hb.mem.2 hx
    have hi : b.idxOf x < b.length := List.idxOf_lt_length_iff.2 hxb
    have hg : b.getD (b.idxOf x) 0 = x := by rw [getD_lt hi]; exact List.getElem_idxOf hi
    have h2 := hc (b.idxOf x) z (by rw [sc_len, ← hb.len]; exact hi) (by rw [sc_len]; exact hz)
    rw [hg, sc_vl, sc_vl] at h2
    have e : D * wt V b x z = D * vl V (b.idxOf x) z - D * vl V (b.idxOf x) x := by unfold wt; rw [Int.mul_sub]
    simp only [fw]
    rw [Int.mul_add]
    omega
/-- The link is the least difference of two prices without envy. -/
theorem lkm_le {D : Int} {p : Nat → Int} (hb : Top V b) (hc : Cont (sc D V) b p) {x y : Nat} (hx : x < V.length) (hy : y < V.length) : D * lkm V b x y ≤ p y - p x := by
  obtain ⟨P, hP, hl, he⟩ := lkm_at (b := b) hx hy
  rw [he]
  exact fw_cont hb hc P x y hP hl
theorem sc_one (V : List (List Int)) : sc 1 V = V := by simp [sc]
theorem lkm_tri (hb : Top V b) {x y z : Nat} (hx : x < V.length) (hy : y < V.length) (hz : z < V.length) : lkm V b x y + lkm V b y z ≤ lkm V b x z := by
  have h := lkm_le (D := 1) hb (by rw [sc_one]; exact lkm_cont hb hx) hy hz
  omega
/-- What is a table of links. -/
theorem lkm_uniq (hb : Top V b) {x : Nat} (hx : x < V.length) {q : Nat → Int} (h0 : q x = 0) (hc : Cont V b q) (hle : ∀ p : Nat → Int, Cont V b p → ∀ y, y < V.length → q y ≤ p y - p x) {y : Nat} (hy : y < V.length) : q y = lkm V b x y := by
  have h1 := hle _ (lkm_cont hb hx) y hy
  have h2 := lkm_le (D := 1) hb (by rw [sc_one]; exact hc) hx hy
  rw [lkm_zero hb hx] at h1
  omega
theorem sc_cont (D : Int) (hD : 0 ≤ D) {p : Nat → Int} (hc : Cont V b p) : Cont (sc D V) b (fun j => D * p j) := by
  intro i j hi hj
  rw [sc_len] at hi hj
  have h := hc i j hi hj
  have := Int.mul_le_mul_of_nonneg_left h hD
  rw [Int.mul_sub, Int.mul_sub] at this
  rw [sc_vl, sc_vl]
  exact this
/-- The links do not depend on which of the best assignments it is. -/
theorem lkm_other {a : List Nat} (hb : Top V b) (ha : Top V a) {x y : Nat} (hx : x < V.length) (hy : y < V.length) : lkm V a x y = lkm V b x y := by
  refine lkm_uniq hb hx (q := lkm V a x) (lkm_zero ha hx) ((lkm_cont ha hx).other ha.perm hb.perm (hb.top _ ha.perm)) (fun p hp y hy => ?_) hy
  have h := lkm_le (D := 1) ha (by rw [sc_one]; exact hp.other hb.perm ha.perm (ha.top _ hb.perm)) hx hy
  omega
/-- A lease is envy-free exactly if its assignment has the greatest value, and no difference of prices is less than the link. -/
theorem free_iff {D : Int} (hD : 1 ≤ D) (hb : Top V b) {a : List Nat} (ha : a.Perm (List.range V.length)) (p : Nat → Int) :
    Cont (sc D V) a p ↔ wr V a = wr V b ∧ ∀ j k, j < V.length → k < V.length → D * lkm V b j k ≤ p k - p j := by
  have la : a.length = V.length := by simpa using ha.length_eq
  have hab := hb.top a ha
  constructor
  · intro h
    have hT := h.top (by rw [sc_len]; exact ha)
    have h1 := hT.top b (by rw [sc_len]; exact hb.perm)
    rw [sc_wr D V hb.len, sc_wr D V la] at h1
    have h2 : wr V b ≤ wr V a := Int.le_of_mul_le_mul_left h1 (by omega)
    have hcb : Cont (sc D V) b p := h.other (by rw [sc_len]; exact ha) (by rw [sc_len]; exact hb.perm) (by
      rw [sc_wr D V hb.len, sc_wr D V la]; exact Int.mul_le_mul_of_nonneg_left hab (by omega))
    exact ⟨by omega, fun j k hj hk => lkm_le hb hcb hj hk⟩
  · rintro ⟨he, hl⟩
    have hcb : Cont (sc D V) b p := by
      intro i j hi hj
      rw [sc_len] at hi hj
      have ho := own_lt hb hi
      have h1 := hl _ j ho hj
      have h2 := lkm_cont hb ho i j hi hj
      rw [lkm_zero hb ho] at h2
      have h3 : D * (vl V i j - vl V i (b.getD i 0)) ≤ D * lkm V b (b.getD i 0) j := Int.mul_le_mul_of_nonneg_left (by omega) (by omega)
      rw [Int.mul_sub] at h3
      rw [sc_vl, sc_vl]
      omega
    exact hcb.other (by rw [sc_len]; exact hb.perm) (by rw [sc_len]; exact ha) (by
      rw [sc_wr D V hb.len, sc_wr D V la, he]; exact Int.le_refl _)
/-- The least and the greatest price of a room, times the number of rooms. -/
def lowN (V : List (List Int)) (b : List Nat) (R : Int) (j : Nat) : Int := R + sm (fun k => lkm V b k j) (List.range V.length)
def highN (V : List (List Int)) (b : List Nat) (R : Int) (j : Nat) : Int := R - sm (fun k => lkm V b j k) (List.range V.length)
theorem sm_const (c : Int) : ∀ n : Nat, sm (fun _ => c) (List.range n) = n * c
  | 0 => by simp [sm]
  | n + 1 => by
    rw [List.range_succ, sm_append, sm_const c n]
    simp only [sm]
    rw [show ((n + 1 : Nat) : Int) = n + 1 from rfl, Int.add_mul]
    omega
/-- No price of a lease without envy lies outside the range. -/
theorem range_in {D R : Int} (hD : 1 ≤ D) (hb : Top V b) {a : List Nat} (ha : a.Perm (List.range V.length)) {p : Nat → Int} (hc : Cont (sc D V) a p) (hs : sm p (List.range V.length) = D * R) {j : Nat} (hj : j < V.length) :
    D * lowN V b R j ≤ V.length * p j ∧ V.length * p j ≤ D * highN V b R j := by
  have hl := ((free_iff hD hb ha p).1 hc).2
  have h1 : sm (fun k => D * lkm V b k j) (List.range V.length) ≤ sm (fun k => p j - p k) (List.range V.length) := sm_le fun k hk => hl k j (by simpa using hk) hj
  have h2 : sm (fun k => D * lkm V b j k) (List.range V.length) ≤ sm (fun k => p k - p j) (List.range V.length) := sm_le fun k hk => hl j k hj (by simpa using hk)
  rw [sm_mul, sm_sub, sm_const, hs] at h1
  rw [sm_mul, sm_sub, sm_const, hs] at h2
  have e : sm (fun k => lkm V b j k) (List.range V.length) = sm (lkm V b j) (List.range V.length) := rfl
  rw [e] at h2
  unfold lowN highN
  rw [e, Int.mul_add, Int.mul_sub]
  constructor <;> omega
/-- Prices by the links to a room, and from it, are without envy. -/
theorem low_cont {n : Int} (hn : 0 ≤ n) (hb : Top V b) (C : Int) {j : Nat} (hj : j < V.length) : Cont (sc n V) b (fun k => C - n * lkm V b k j) := by
  intro i m hi hm
  rw [sc_len] at hi hm
  have ho := own_lt hb hi
  have h1 := lkm_tri hb ho hm hj
  have h2 := lkm_cont hb ho i m hi hm
  rw [lkm_zero hb ho] at h2
  have h3 : n * (vl V i m - vl V i (b.getD i 0)) ≤ n * (lkm V b (b.getD i 0) j - lkm V b m j) := Int.mul_le_mul_of_nonneg_left (by omega) hn
  rw [Int.mul_sub, Int.mul_sub] at h3
  rw [sc_vl, sc_vl]
  simp only
  omega
theorem high_cont {n : Int} (hn : 0 ≤ n) (hb : Top V b) (C : Int) {j : Nat} (hj : j < V.length) : Cont (sc n V) b (fun k => C + n * lkm V b j k) := by
  intro i m hi hm
  have h := sc_cont n hn (lkm_cont hb hj) i m hi hm
  simp only at h ⊢
  omega
/-- The even prices, times the number of rooms. -/
def evp (V : List (List Int)) (b : List Nat) (R : Int) (j : Nat) : Int := V.length * el (lp V b) j + R - sm (el (lp V b)) (List.range V.length)
theorem evp_cont (hb : Top V b) (R : Int) : Cont (sc V.length V) b (evp V b R) := by
  intro i m hi hm
  have h := sc_cont (V.length : Int) (by omega) (lp_cont hb) i m hi hm
  unfold evp
  simp only at h ⊢
  omega
theorem evp_sum (V : List (List Int)) (b : List Nat) (R : Int) : sm (evp V b R) (List.range V.length) = V.length * R := by
  have e : sm (evp V b R) (List.range V.length) = sm (fun j => (V.length : Int) * el (lp V b) j - (sm (el (lp V b)) (List.range V.length) - R)) (List.range V.length) := sm_congr fun j _ => by unfold evp; omega
  rw [e, sm_sub, sm_mul, sm_const, Int.mul_sub]
  omega
end
end Go.Proofs.Ytfpaefnaidppmaa.As
namespace Go.Proofs.Ytfpaefnaidppmaa.As
/-- Does a number divide all of them? -/
def dvs (den : Nat) (l : List Int) (d : Nat) : Prop := d ∣ den ∧ ∀ x ∈ l, (d : Int) ∣ x
instance (den : Nat) (l : List Int) (d : Nat) : Decidable (dvs den l d) := by unfold dvs; exact inferInstance
/-- The search from above. -/
def lws (den : Nat) (l : List Int) : Nat → Nat
  | 0 => 1
  | k + 1 => if 1 < k + 1 ∧ dvs den l (k + 1) then k + 1 else lws den l k
/-- The greatest common divisor. -/
def gcl (den : Nat) (l : List Int) : Nat := l.foldl (fun g x => Nat.gcd g x.natAbs) den
theorem dvd_abs {d : Nat} {x : Int} : (d : Int) ∣ x ↔ d ∣ x.natAbs := Int.ofNat_dvd_left
theorem gcl_dvs : ∀ (l : List Int) (den d : Nat), d ∣ gcl den l ↔ dvs den l d
  | [], den, d => by simp [gcl, dvs]
  | x :: l, den, d => by
    have ih := gcl_dvs l (Nat.gcd den x.natAbs) d
    have e : gcl den (x :: l) = gcl (Nat.gcd den x.natAbs) l := rfl
    rw [e, ih]
    unfold dvs
    rw [Nat.dvd_gcd_iff]
    constructor
    · rintro ⟨⟨h1, h2⟩, h3⟩
      refine ⟨h1, fun y hy => ?_⟩
      rcases List.mem_cons.1 hy with rfl | hy
      · exact dvd_abs.2 h2
      · exact h3 y hy
    · rintro ⟨h1, h2⟩
      exact ⟨⟨h1, dvd_abs.1 (h2 x (by simp))⟩, fun y hy => h2 y (by simp [hy])⟩
theorem gcl_pos {den : Nat} (h : 0 < den) (l : List Int) : 0 < gcl den l := by
  have h1 : gcl den l ∣ den := ((gcl_dvs l den _).1 (Nat.dvd_refl _)).1
  exact Nat.pos_of_dvd_of_pos h1 h
theorem gcl_le {den : Nat} (h : 0 < den) (l : List Int) : gcl den l ≤ den := Nat.le_of_dvd h ((gcl_dvs l den _).1 (Nat.dvd_refl _)).1
theorem lws_ge {den : Nat} {l : List Int} (h : 0 < den) : ∀ k, gcl den l ≤ k → lws den l k = gcl den l
  | 0, hk => by have := gcl_pos h l; omega
  | k + 1, hk => by
    have hself := (gcl_dvs l den _).1 (Nat.dvd_refl _)
    have hp := gcl_pos h l
    simp only [lws]
    by_cases hd : dvs den l (k + 1)
    · have h1 : k + 1 ∣ gcl den l := (gcl_dvs l den _).2 hd
      have h2 := Nat.le_of_dvd hp h1
      by_cases h3 : 1 < k + 1
      · rw [if_pos ⟨h3, hd⟩]; omega
      · rw [if_neg (fun h => h3 h.1)]
        have : k = 0 := by omega
        subst this
        simp only [lws]; omega
    · rw [if_neg (fun h => hd h.2)]
      refine lws_ge h k ?_
      rcases Nat.lt_or_ge (gcl den l) (k + 1) with h1 | h1
      · omega
      · have : gcl den l = k + 1 := by omega
        rw [this] at hself
        exact absurd hself hd
/-- The reference's search gives the greatest common divisor. -/
theorem lws_gcl {den : Nat} (h : 0 < den) (l : List Int) : lws den l den = gcl den l := lws_ge h den (gcl_le h l)
section
variable {V : List (List Int)} {b : List Nat}
theorem low_sum (V : List (List Int)) (b : List Nat) (R : Int) (j : Nat) : sm (fun k => lowN V b R j - V.length * lkm V b k j) (List.range V.length) = V.length * R := by
  rw [sm_sub, sm_const, sm_mul]
  unfold lowN
  rw [Int.mul_add]
  omega
theorem high_sum (V : List (List Int)) (b : List Nat) (R : Int) (j : Nat) : sm (fun k => highN V b R j + V.length * lkm V b j k) (List.range V.length) = V.length * R := by
  have e : sm (fun k => highN V b R j + V.length * lkm V b j k) (List.range V.length) = sm (fun k => highN V b R j - (-(V.length : Int)) * lkm V b j k) (List.range V.length) := sm_congr fun k _ => by rw [Int.neg_mul]; omega
  rw [e, sm_sub, sm_const, sm_mul]
  have e2 : sm (fun k => lkm V b j k) (List.range V.length) = sm (lkm V b j) (List.range V.length) := rfl
  unfold highN
  rw [e2, Int.mul_sub, Int.neg_mul]
  omega
theorem sm_bd {f : Nat → Int} {M : Int} : ∀ n : Nat, (∀ k, k < n → 0 ≤ f k ∧ f k ≤ M) → 0 ≤ sm f (List.range n) ∧ sm f (List.range n) ≤ n * M
  | 0, _ => by simp [sm]
  | n + 1, h => by
    have ih := sm_bd n fun k hk => h k (by omega)
    have h1 := h n (by omega)
    rw [List.range_succ, sm_append]
    simp only [sm]
    rw [show ((n + 1 : Nat) : Int) = n + 1 from rfl, Int.add_mul]
    omega
/-- The even prices lie within the bounds of a lease. -/
theorem evp_bd (hb : Top V b) (h0 : 0 < V.length) (hV : ∀ i j, 0 ≤ vl V i j ∧ vl V i j ≤ 1000000) {R : Int} (r0 : 0 ≤ R) (r1 : R ≤ 10000000) {j : Nat} (hj : j < V.length) :
    -(V.length * 1000000 : Int) ≤ evp V b R j ∧ evp V b R j ≤ V.length * 10000000 := by
  have hs := sm_bd (f := el (lp V b)) (M := 1000000) V.length fun k hk => ⟨lp_nn hb k, lp_bound hb h0 hV hk⟩
  have h1 := lp_nn hb j
  have h2 := lp_bound hb h0 hV hj
  have h3 : (V.length : Int) * 0 ≤ V.length * el (lp V b) j := Int.mul_le_mul_of_nonneg_left h1 (by omega)
  have h4 : (V.length : Int) * el (lp V b) j ≤ V.length * 1000000 := Int.mul_le_mul_of_nonneg_left h2 (by omega)
  unfold evp
  by_cases h5 : V.length = 1
  · obtain ⟨z, hz, hz0⟩ := lp_zero hb h0
    have e : z = j := by omega
    subst e
    rw [h5] at hs ⊢
    rw [hz0]
    have e1 : sm (el (lp V b)) (List.range 1) = el (lp V b) 0 := by simp [sm, List.range_succ]
    have e2 : z = 0 := by omega
    rw [e1, ← e2, hz0]
    omega
  · omega
theorem lkm_bd (hV : ∀ i j, 0 ≤ vl V i j ∧ vl V i j ≤ 1000000) (x y : Nat) : -(V.length * 1000000 : Int) ≤ lkm V b x y ∧ lkm V b x y ≤ V.length * 1000000 := lk_bd hV V.length _ x
theorem lp_lkm (hb : Top V b) {x y : Nat} (hx : x < V.length) (hy : y < V.length) : lkm V b x y ≤ el (lp V b) y - el (lp V b) x := by
  have h := lkm_le (D := 1) hb (by rw [sc_one]; exact lp_cont hb) hx hy
  omega
/-- Another rent moves the range, and the even prices, by the same. -/
theorem low_rent (V : List (List Int)) (b : List Nat) (R S : Int) (j : Nat) : lowN V b S j = lowN V b R j + (S - R) := by unfold lowN; omega
theorem high_rent (V : List (List Int)) (b : List Nat) (R S : Int) (j : Nat) : highN V b S j = highN V b R j + (S - R) := by unfold highN; omega
theorem evp_rent (V : List (List Int)) (b : List Nat) (R S : Int) (j : Nat) : evp V b S j = evp V b R j + (S - R) := by unfold evp; omega
end
end Go.Proofs.Ytfpaefnaidppmaa.As
