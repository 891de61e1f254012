/- Mathematics of layer 13: assignments of the greatest value, cycles, walks and prices. -/
import Derived.Lib.Hide
namespace Go.Proofs.Ytpiolhjiflohgaa.As
/-- The element i of a list, 0 beyond it. -/
def el (l : List Int) (i : Nat) : Int := l.getD i 0
/-- The element j of the list i. -/
def vl (V : List (List Int)) (i j : Nat) : Int := el (V.getD i []) j
/-- A sum over a list. -/
def sm (f : Nat → Int) : List Nat → Int
  | [] => 0
  | x :: l => f x + sm f l
theorem sm_perm {f : Nat → Int} {l l' : List Nat} (h : l.Perm l') : sm f l = sm f l' := by
  induction h with
  | nil => rfl
  | cons x _ ih => simp only [sm, ih]
  | swap x y l => simp only [sm]; omega
  | trans _ _ h1 h2 => exact h1.trans h2
theorem sm_append (f : Nat → Int) (l l' : List Nat) : sm f (l ++ l') = sm f l + sm f l' := by
  induction l with
  | nil => simp [sm]
  | cons x l ih => simp only [List.cons_append, sm, ih]; omega
theorem sm_map (f : Nat → Int) (g : Nat → Nat) (l : List Nat) : sm f (l.map g) = sm (fun x => f (g x)) l := by
  induction l with
  | nil => rfl
  | cons x l ih => simp only [List.map_cons, sm, ih]
theorem sm_congr {f g : Nat → Int} {l : List Nat} (h : ∀ x ∈ l, f x = g x) : sm f l = sm g l := by
  induction l with
  | nil => rfl
  | cons x l ih => simp only [sm]; rw [h x (by simp), ih fun y hy => h y (by simp [hy])]
theorem sm_le {f g : Nat → Int} {l : List Nat} (h : ∀ x ∈ l, f x ≤ g x) : sm f l ≤ sm g l := by
  induction l with
  | nil => exact Int.le_refl _
  | cons x l ih =>
    have h1 := h x (by simp)
    have h2 := ih fun y hy => h y (by simp [hy])
    simp only [sm]; omega
theorem sm_sub (f g : Nat → Int) (l : List Nat) : sm (fun x => f x - g x) l = sm f l - sm g l := by
  induction l with
  | nil => rfl
  | cons x l ih => simp only [sm, ih]; omega
theorem sm_zero {f : Nat → Int} {l : List Nat} (h : ∀ x ∈ l, f x = 0) : sm f l = 0 := by
  induction l with
  | nil => rfl
  | cons x l ih => simp only [sm]; rw [h x (by simp), ih fun y hy => h y (by simp [hy])]; rfl
/-- No term is below 0, and the sum is 0: each term is 0. -/
theorem sm_all0 {f : Nat → Int} {l : List Nat} (h : ∀ x ∈ l, 0 ≤ f x) (h0 : sm f l ≤ 0) : ∀ x ∈ l, f x = 0 := by
  induction l with
  | nil => simp
  | cons y l ih =>
    have h1 := h y (by simp)
    have h2 : 0 ≤ sm f l := by
      have := sm_le (f := fun _ => 0) (g := f) (l := l) fun x hx => h x (by simp [hx])
      rwa [sm_zero (f := fun _ => (0 : Int)) fun _ _ => rfl] at this
    simp only [sm] at h0
    intro x hx
    rcases List.mem_cons.1 hx with rfl | hx
    · omega
    · exact ih (fun z hz => h z (by simp [hz])) (by omega) x hx

/-- What an assignment is worth. -/
def wr : List (List Int) → List Nat → Int
  | r :: R, j :: a => el r j + wr R a
  | _, _ => 0
theorem getD_cons_succ {α : Type} (x : α) (l : List α) (i : Nat) (d : α) : (x :: l).getD (i + 1) d = l.getD i d := by simp [List.getD]
theorem getD_cons_zero {α : Type} (x : α) (l : List α) (d : α) : (x :: l).getD 0 d = x := by simp [List.getD]
theorem getD_lt {α : Type} {l : List α} {i : Nat} (h : i < l.length) (d : α) : l.getD i d = l[i] := by simp [List.getD, h]
theorem wr_eq : ∀ (V : List (List Int)) (a : List Nat), a.length = V.length → wr V a = sm (fun i => vl V i (a.getD i 0)) (List.range V.length)
  | [], a, _ => by cases a <;> rfl
  | r :: R, [], h => by simp at h
  | r :: R, j :: a, h => by
    simp only [wr, List.length_cons]
    rw [List.range_succ_eq_map]
    simp only [sm, sm_map]
    rw [wr_eq R a (by simpa using h)]
    have e0 : vl (r :: R) 0 ((j :: a).getD 0 0) = el r j := by simp [vl, List.getD]
    rw [e0]
    congr 1
theorem wr_take : ∀ (V : List (List Int)) (a : List Nat) (i : Nat), i < V.length → i < a.length → wr (V.take (i + 1)) (a.take (i + 1)) = wr (V.take i) (a.take i) + vl V i (a.getD i 0)
  | r :: R, j :: a, 0, _, _ => by simp [wr, vl, List.getD]
  | r :: R, j :: a, i + 1, h1, h2 => by
    simp only [List.take_succ_cons, wr]
    rw [wr_take R a i (by simpa using h1) (by simpa using h2)]
    rw [getD_cons_succ]
    have : vl (r :: R) (i + 1) (a.getD i 0) = vl R i (a.getD i 0) := by unfold vl; rw [getD_cons_succ]
    rw [this]; omega

/-- The greatest of a list of values, and of m. -/
theorem fm_ge (f : Nat → Int) : ∀ (L : List Nat) (m : Int), m ≤ L.foldl (fun m j => max m (f j)) m ∧ ∀ j ∈ L, f j ≤ L.foldl (fun m j => max m (f j)) m
  | [], m => ⟨Int.le_refl _, by simp⟩
  | x :: L, m => by
    have h := fm_ge f L (max m (f x))
    refine ⟨by have := h.1; simp only [List.foldl_cons]; omega, fun j hj => ?_⟩
    simp only [List.foldl_cons]
    rcases List.mem_cons.1 hj with rfl | hj
    · have := h.1; omega
    · exact h.2 j hj
theorem fm_at (f : Nat → Int) : ∀ (L : List Nat) (m : Int), L.foldl (fun m j => max m (f j)) m = m ∨ ∃ j ∈ L, L.foldl (fun m j => max m (f j)) m = f j
  | [], m => .inl rfl
  | x :: L, m => by
    simp only [List.foldl_cons]
    rcases fm_at f L (max m (f x)) with h | ⟨j, hj, h⟩
    · rw [h]
      by_cases hx : m ≤ f x
      · exact .inr ⟨x, by simp, by omega⟩
      · exact .inl (by omega)
    · exact .inr ⟨j, by simp [hj], h⟩
/-- The greatest value that items have for agents. -/
def opt : List (List Int) → List Nat → Int
  | [], _ => 0
  | r :: R, L => L.foldl (fun m j => max m (el r j + opt R (L.erase j))) 0
def Nn (V : List (List Int)) : Prop := ∀ r ∈ V, ∀ j, 0 ≤ el r j
theorem opt_nn : ∀ (V : List (List Int)) (L : List Nat), 0 ≤ opt V L
  | [], _ => Int.le_refl _
  | r :: R, L => (fm_ge (fun j => el r j + opt R (L.erase j)) L 0).1
theorem opt_item (r : List Int) (R : List (List Int)) {L : List Nat} {j : Nat} (hj : j ∈ L) : el r j + opt R (L.erase j) ≤ opt (r :: R) L := (fm_ge (fun j => el r j + opt R (L.erase j)) L 0).2 j hj
theorem opt_at {r : List Int} {R : List (List Int)} {L : List Nat} (hr : ∀ j, 0 ≤ el r j) (hL : L ≠ []) : ∃ j ∈ L, el r j + opt R (L.erase j) = opt (r :: R) L := by
  rcases fm_at (fun j => el r j + opt R (L.erase j)) L 0 with h | ⟨j, hj, h⟩
  · obtain ⟨j, hj⟩ := List.exists_mem_of_ne_nil L hL
    refine ⟨j, hj, ?_⟩
    have h1 := opt_item r R hj
    have h2 := hr j
    have h3 := opt_nn R (L.erase j)
    have h4 : opt (r :: R) L = 0 := h
    omega
  · exact ⟨j, hj, h.symm⟩
theorem opt_ge : ∀ (R : List (List Int)) (L a : List Nat), a.Perm L → wr R a ≤ opt R L
  | [], L, a, _ => by cases a <;> exact Int.le_refl _
  | r :: R, L, [], _ => opt_nn _ _
  | r :: R, L, j :: a, hp => by
    have hj : j ∈ L := hp.mem_iff.1 (by simp)
    have hp' : a.Perm (L.erase j) := by
      have := hp.erase j
      simpa using this
    have h1 := opt_ge R (L.erase j) a hp'
    have h2 := opt_item r R hj
    simp only [wr]; omega
/-- The first one of the best assignments. -/
def fb : List (List Int) → List Nat → List Nat
  | [], _ => []
  | r :: R, L => match L.find? (fun j => decide (el r j + opt R (L.erase j) = opt (r :: R) L)) with
    | some j => j :: fb R (L.erase j)
    | none => fb R L
theorem fb_some {r : List Int} {R : List (List Int)} {L : List Nat} (hr : ∀ j, 0 ≤ el r j) (hL : L ≠ []) : ∃ j, L.find? (fun j => decide (el r j + opt R (L.erase j) = opt (r :: R) L)) = some j ∧ j ∈ L ∧ el r j + opt R (L.erase j) = opt (r :: R) L ∧ fb (r :: R) L = j :: fb R (L.erase j) := by
  obtain ⟨j, hj, h⟩ := opt_at (R := R) hr hL
  have hs : (L.find? (fun j => decide (el r j + opt R (L.erase j) = opt (r :: R) L))).isSome = true := by
    rw [List.find?_isSome]; exact ⟨j, hj, by simpa using h⟩
  obtain ⟨k, hk⟩ := Option.isSome_iff_exists.1 hs
  refine ⟨k, hk, List.mem_of_find?_eq_some hk, by simpa using List.find?_some hk, ?_⟩
  simp only [fb, hk]
theorem fb_spec : ∀ (R : List (List Int)) (L : List Nat), Nn R → L.length = R.length → (fb R L).Perm L ∧ wr R (fb R L) = opt R L
  | [], L, _, hl => by
    have : L = [] := List.eq_nil_of_length_eq_zero hl
    subst this; exact ⟨.nil, rfl⟩
  | r :: R, L, hn, hl => by
    have hL : L ≠ [] := by intro e; subst e; simp at hl
    obtain ⟨j, _, hj, he, hf⟩ := fb_some (R := R) (hn r (by simp)) hL
    have ih := fb_spec R (L.erase j) (fun x hx => hn x (by simp [hx])) (by rw [List.length_erase_of_mem hj]; simp at hl; omega)
    rw [hf]
    exact ⟨((ih.1.cons j).trans (List.perm_cons_erase hj).symm), by simp only [wr, ih.2, he]⟩
theorem fb_first : ∀ (R : List (List Int)) (L a : List Nat), Nn R → L.length = R.length → L.Pairwise (· < ·) → a.Perm L → wr R a = opt R L → ∀ i, i < R.length → (∀ k, k < i → a.getD k 0 = (fb R L).getD k 0) → (fb R L).getD i 0 ≤ a.getD i 0
  | [], _, _, _, _, _, _, _, i, hi, _ => by simp at hi
  | r :: R, L, [], _, hl, _, hp, _, _, _, _ => by have := hp.length_eq; simp at this hl; omega
  | r :: R, L, j :: a, hn, hl, hs, hp, hw, i, hi, hk => by
    have hL : L ≠ [] := by intro e; subst e; simp at hl
    obtain ⟨q, hq, hqL, he, hf⟩ := fb_some (R := R) (hn r (by simp)) hL
    have hj : j ∈ L := hp.mem_iff.1 (by simp)
    have hp' : a.Perm (L.erase j) := by simpa using hp.erase j
    have h1 := opt_ge R (L.erase j) a hp'
    have h2 := opt_item r R hj
    simp only [wr] at hw
    have hjj : el r j + opt R (L.erase j) = opt (r :: R) L := by omega
    have hle : q ≤ j := by
      obtain ⟨_, as, bs, hsp, hno⟩ := List.find?_eq_some_iff_append.1 hq
      rw [hsp] at hj hs
      rcases List.mem_append.1 hj with h | h
      · have := hno j h
        simp [hjj] at this
      · rcases List.mem_cons.1 h with h | h
        · omega
        · have := (List.pairwise_append.1 hs).2.1
          have := (List.pairwise_cons.1 this).1 j h
          omega
    rw [hf] at hk ⊢
    cases i with
    | zero => simpa [List.getD] using hle
    | succ i =>
      have h0 := hk 0 (by omega)
      simp only [getD_cons_zero] at h0
      subst h0
      rw [getD_cons_succ, getD_cons_succ]
      refine fb_first R (L.erase j) a (fun x hx => hn x (by simp [hx])) (by rw [List.length_erase_of_mem hqL]; simp at hl; omega) (hs.sublist (List.erase_sublist)) hp' (by omega) i (by simpa using hi) (fun k hk' => ?_)
      have := hk (k + 1) (by omega)
      rwa [getD_cons_succ, getD_cons_succ] at this

/-- What a list of keys is turned into. -/
def nx : List Nat → List Nat → Nat → Nat
  | k :: ks, v :: vs, z => if z = k then v else nx ks vs z
  | _, _, z => z
theorem nx_out : ∀ (ks vs : List Nat) (z : Nat), z ∉ ks → nx ks vs z = z
  | [], _, _, _ => by simp [nx]
  | k :: ks, [], _, _ => by simp [nx]
  | k :: ks, v :: vs, z, h => by
    simp only [List.mem_cons, not_or] at h
    simp only [nx, if_neg h.1]
    exact nx_out ks vs z h.2
/-- A sum over two lists side by side. -/
def zs (w : Nat → Nat → Int) : List Nat → List Nat → Int
  | k :: ks, v :: vs => w k v + zs w ks vs
  | _, _ => 0
theorem map_nx : ∀ (ks vs : List Nat), ks.Nodup → ks.length = vs.length → ks.map (nx ks vs) = vs
  | [], [], _, _ => rfl
  | [], _ :: _, _, h => by simp at h
  | _ :: _, [], _, h => by simp at h
  | k :: ks, v :: vs, hn, h => by
    have hk := List.nodup_cons.1 hn
    rw [List.map_cons]
    have h0 : nx (k :: ks) (v :: vs) k = v := by simp [nx]
    rw [h0]
    have : ks.map (nx (k :: ks) (v :: vs)) = ks.map (nx ks vs) := by
      refine List.map_congr_left fun z hz => ?_
      have : z ≠ k := fun e => hk.1 (e ▸ hz)
      simp only [nx, if_neg this]
    rw [this, map_nx ks vs hk.2 (by simpa using h)]
theorem sm_zs (w : Nat → Nat → Int) : ∀ (ks vs : List Nat), ks.Nodup → ks.length = vs.length → sm (fun z => w z (nx ks vs z)) ks = zs w ks vs
  | [], [], _, _ => rfl
  | [], _ :: _, _, h => by simp at h
  | _ :: _, [], _, h => by simp at h
  | k :: ks, v :: vs, hn, h => by
    have hk := List.nodup_cons.1 hn
    simp only [sm, zs]
    have h0 : nx (k :: ks) (v :: vs) k = v := by simp [nx]
    rw [h0, ← sm_zs w ks vs hk.2 (by simpa using h)]
    congr 1
    refine sm_congr fun z hz => ?_
    have : z ≠ k := fun e => hk.1 (e ▸ hz)
    simp only [nx, if_neg this]
/-- A nodup list, its part that lies in another one ahead. -/
theorem split_perm {ks b : List Nat} (hk : ks.Nodup) (hb : b.Nodup) (hs : ∀ z ∈ ks, z ∈ b) : ∃ D, (ks ++ D).Perm b ∧ ∀ z ∈ D, z ∉ ks := by
  refine ⟨b.filter (fun z => !(decide (z ∈ ks))), ?_, fun z hz => by simpa using (List.mem_filter.1 hz).2⟩
  have h1 := List.filter_append_perm (fun z => decide (z ∈ ks)) b
  refine (List.Perm.append_right _ ?_).trans h1
  rw [List.perm_ext_iff_of_nodup hk (hb.sublist List.filter_sublist)]
  intro z
  simp only [List.mem_filter, decide_eq_true_eq]
  exact ⟨fun h => ⟨hs z h, h⟩, fun h => h.2⟩
theorem nx_perm {ks vs b : List Nat} (hk : ks.Nodup) (hv : vs.Perm ks) (hb : b.Nodup) (hs : ∀ z ∈ ks, z ∈ b) : (b.map (nx ks vs)).Perm b := by
  obtain ⟨D, hD, hno⟩ := split_perm hk hb hs
  have h1 := (hD.map (nx ks vs)).symm
  rw [List.map_append, map_nx ks vs hk hv.length_eq.symm] at h1
  have h2 : D.map (nx ks vs) = D := by
    have : D.map (nx ks vs) = D.map id := List.map_congr_left fun z hz => nx_out ks vs z (hno z hz)
    simpa using this
  rw [h2] at h1
  exact h1.trans ((hv.append_right D).trans hD)
/-- What the owner of an item would have more of another one. -/
def wt (V : List (List Int)) (b : List Nat) (x y : Nat) : Int := vl V (b.idxOf x) y - vl V (b.idxOf x) x
theorem range_getD (b : List Nat) : (List.range b.length).map (fun i => b.getD i 0) = b := by
  refine List.ext_getElem (by simp) fun i h1 h2 => ?_
  rw [List.getElem_map, List.getElem_range, getD_lt h2]
theorem idxOf_getD {b : List Nat} (hb : b.Nodup) {i : Nat} (h : i < b.length) : b.idxOf (b.getD i 0) = i := by
  rw [getD_lt h]
  have hm : b[i] ∈ b := List.getElem_mem h
  have h1 := List.idxOf_lt_length_iff.2 hm
  have h2 := List.getElem_idxOf h1
  have hp := List.pairwise_iff_getElem.1 hb
  rcases Nat.lt_trichotomy (b.idxOf b[i]) i with h3 | h3 | h3
  · exact absurd h2 (hp _ _ h1 h h3)
  · exact h3
  · exact absurd h2.symm (hp _ _ h h1 h3)
theorem wr_map {V : List (List Int)} {b : List Nat} (hb : b.Nodup) (hl : b.length = V.length) (g : Nat → Nat) : wr V (b.map g) = wr V b + sm (fun z => wt V b z (g z)) b := by
  rw [wr_eq V b hl, wr_eq V (b.map g) (by simpa using hl)]
  have h1 : sm (fun z => wt V b z (g z)) b = sm (fun i => vl V i (g (b.getD i 0)) - vl V i (b.getD i 0)) (List.range V.length) := by
    conv => lhs; rw [← range_getD b]
    rw [sm_map, ← hl]
    have hidx : ∀ i, i < b.length → b.idxOf (b.getD i 0) = i := fun i hi => idxOf_getD hb hi
    rw [range_getD]
    refine sm_congr fun i hi => ?_
    unfold wt
    rw [hidx i (by simpa using hi)]
  rw [h1, sm_sub]
  have h2 : sm (fun i => vl V i ((b.map g).getD i 0)) (List.range V.length) = sm (fun i => vl V i (g (b.getD i 0))) (List.range V.length) := by
    refine sm_congr fun i hi => ?_
    have hi' : i < b.length := by simp at hi; omega
    rw [getD_lt (l := b.map g) (by simpa using hi'), getD_lt hi', List.getElem_map]
  rw [h2]; omega
/-- A walk along items, the last one ahead: what it is worth. -/
def rk (V : List (List Int)) (b : List Nat) : List Nat → Int
  | y :: x :: l => wt V b x y + rk V b (x :: l)
  | _ => 0
theorem rk_append (V : List (List Int)) (b : List Nat) : ∀ (A : List Nat) (z : Nat) (C : List Nat), rk V b (A ++ z :: C) = rk V b (A ++ [z]) + rk V b (z :: C)
  | [], z, C => by simp [rk]
  | [y], z, C => by simp [rk]
  | y :: x :: A, z, C => by
    have := rk_append V b (x :: A) z C
    simp only [List.cons_append, rk] at this ⊢
    omega
theorem zs_rk (V : List (List Int)) (b : List Nat) : ∀ (x y : Nat) (B : List Nat), zs (wt V b) (B ++ [y]) (x :: B) = rk V b (x :: (B ++ [y]))
  | x, y, [] => by simp [zs, rk]
  | x, y, z :: B => by
    have := zs_rk V b z y B
    simp only [List.cons_append, zs, rk] at this ⊢
    omega
/-- An exchange along a circle of items. -/
theorem cyc {V : List (List Int)} {b : List Nat} (hb : b.Nodup) (hl : b.length = V.length) {x : Nat} {B : List Nat} (hn : (x :: B).Nodup) (hs : ∀ z ∈ x :: B, z ∈ b) :
    ∃ a : List Nat, a.Perm b ∧ wr V a = wr V b + rk V b (x :: (B ++ [x])) := by
  have hp : (x :: B).Perm (B ++ [x]) := by
    have : (x :: B).Perm ([x] ++ B) := .refl _
    exact this.trans List.perm_append_comm
  have hk : (B ++ [x]).Nodup := hp.nodup_iff.1 hn
  have hs' : ∀ z ∈ B ++ [x], z ∈ b := fun z hz => hs z (hp.mem_iff.2 hz)
  refine ⟨b.map (nx (B ++ [x]) (x :: B)), nx_perm hk hp hb hs', ?_⟩
  rw [wr_map hb hl]
  congr 1
  obtain ⟨D, hD, hno⟩ := split_perm hk hb hs'
  rw [← sm_perm hD, sm_append, sm_zs (wt V b) _ _ hk hp.length_eq.symm, zs_rk]
  rw [sm_zero (l := D) fun z hz => ?_]
  · omega
  · rw [nx_out _ _ _ (hno z hz)]; unfold wt; omega
/-- A list is without a repetition, or has a first circle. -/
theorem nodup_or : ∀ l : List Nat, l.Nodup ∨ ∃ A x B C, l = A ++ x :: (B ++ x :: C) ∧ (x :: B).Nodup
  | [] => .inl List.nodup_nil
  | y :: t => by
    rcases nodup_or t with h | ⟨A, x, B, C, rfl, h⟩
    · by_cases hy : y ∈ t
      · obtain ⟨B, C, e, hno⟩ := List.eq_append_cons_of_mem hy
        refine .inr ⟨[], y, B, C, by rw [e]; rfl, ?_⟩
        rw [e] at h
        exact List.nodup_cons.2 ⟨hno, (List.nodup_append.1 h).1⟩
      · exact .inl (List.nodup_cons.2 ⟨hy, h⟩)
    · exact .inr ⟨y :: A, x, B, C, rfl, h⟩
/-- b is an assignment than which none is better. -/
structure Top (V : List (List Int)) (b : List Nat) : Prop where
  perm : b.Perm (List.range V.length)
  top : ∀ a : List Nat, a.Perm (List.range V.length) → wr V a ≤ wr V b
theorem Top.nd {V : List (List Int)} {b : List Nat} (h : Top V b) : b.Nodup := h.perm.nodup_iff.2 List.nodup_range
theorem Top.len {V : List (List Int)} {b : List Nat} (h : Top V b) : b.length = V.length := by simpa using h.perm.length_eq
theorem Top.mem {V : List (List Int)} {b : List Nat} (h : Top V b) {x : Nat} : x ∈ b ↔ x < V.length := by rw [h.perm.mem_iff, List.mem_range]
theorem Top.circle {V : List (List Int)} {b : List Nat} (h : Top V b) {x : Nat} {B : List Nat} (hn : (x :: B).Nodup) (hs : ∀ z ∈ x :: B, z < V.length) : rk V b (x :: (B ++ [x])) ≤ 0 := by
  obtain ⟨a, ha, he⟩ := cyc h.nd h.len hn (fun z hz => h.mem.2 (hs z hz))
  have := h.top a (ha.trans h.perm)
  omega
/-- Each walk has one without a repetition that is worth as much or more. -/
theorem Top.simple {V : List (List Int)} {b : List Nat} (h : Top V b) : ∀ (n : Nat) (y : Nat) (t : List Nat), t.length ≤ n → (∀ z ∈ y :: t, z < V.length) → ∃ t', (y :: t').Nodup ∧ (∀ z ∈ y :: t', z < V.length) ∧ rk V b (y :: t) ≤ rk V b (y :: t')
  | 0, y, t, hl, hs => by
    have : t = [] := List.eq_nil_of_length_eq_zero (by omega)
    subst this
    exact ⟨[], by simp, hs, Int.le_refl _⟩
  | n + 1, y, t, hl, hs => by
    rcases nodup_or (y :: t) with hn | ⟨A, x, B, C, e, hn⟩
    · exact ⟨t, hn, hs, Int.le_refl _⟩
    · have hc : rk V b (x :: (B ++ [x])) ≤ 0 := h.circle hn (fun z hz => hs z (by rw [e]; rcases List.mem_cons.1 hz with rfl | hz <;> simp_all))
      have e1 : rk V b (y :: t) = rk V b (A ++ [x]) + (rk V b (x :: (B ++ [x])) + rk V b (x :: C)) := by
        rw [e, rk_append]
        congr 1
        exact rk_append V b (x :: B) x C
      have e2 : rk V b (A ++ x :: C) = rk V b (A ++ [x]) + rk V b (x :: C) := rk_append V b A x C
      have hlen := congrArg List.length e
      simp only [List.length_cons, List.length_append] at hlen
      have hmem : ∀ z ∈ A ++ x :: C, z < V.length := fun z hz => hs z (by rw [e]; rcases List.mem_append.1 hz with hz | hz <;> simp_all)
      cases A with
      | nil =>
        simp only [List.nil_append, List.cons.injEq] at e
        obtain ⟨rfl, _⟩ := e
        obtain ⟨t', h1, h2, h3⟩ := h.simple n y C (by simp at hlen; omega) hmem
        simp only [List.nil_append] at e2 e1
        exact ⟨t', h1, h2, by omega⟩
      | cons a A =>
        simp only [List.cons_append, List.cons.injEq] at e
        obtain ⟨rfl, _⟩ := e
        obtain ⟨t', h1, h2, h3⟩ := h.simple n y (A ++ x :: C) (by simp only [List.length_cons, List.length_append] at hlen ⊢; omega) hmem
        simp only [List.cons_append] at e2 e1
        exact ⟨t', h1, h2, by omega⟩
theorem nodup_len {n : Nat} {l : List Nat} (hn : l.Nodup) (hs : ∀ z ∈ l, z < n) : l.length ≤ n := by
  have := List.Nodup.length_le_of_subset hn (l₂ := List.range n) fun z hz => List.mem_range.2 (hs z hz)
  simpa using this
end Go.Proofs.Ytpiolhjiflohgaa.As
