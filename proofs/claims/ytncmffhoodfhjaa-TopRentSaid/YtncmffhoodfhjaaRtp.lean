/- Mathematics of layer 15: the program's prices. -/
import Derived.Test.YtncmffhoodfhjaaRtn
import Derived.Test.YtncmffhoodfhjaaYl
namespace Go.Proofs.Ytncmffhoodfhjaa.As
/-- What a room is worth for who has it. -/
def wrm (V : List (List Int)) (b : List Nat) (j : Nat) : Int := vl V (b.idxOf j) j
/-- The highest price of a room so far. -/
def fPk (V : List (List Int)) (b : List Nat) (j k : Nat) : Int := (List.range k).foldl (fun m t => min m (wrm V b t - lkm V b j t)) (wrm V b j)
/-- The lowest price of a room so far. -/
def cPk (V : List (List Int)) (b : List Nat) (j k : Nat) : Int := (List.range k).foldl (fun m t => max m (wrm V b t + lkm V b t j)) (wrm V b j)
theorem fPk_zero (V : List (List Int)) (b : List Nat) (j : Nat) : fPk V b j 0 = wrm V b j := rfl
theorem cPk_zero (V : List (List Int)) (b : List Nat) (j : Nat) : cPk V b j 0 = wrm V b j := rfl
theorem fPk_succ (V : List (List Int)) (b : List Nat) (j k : Nat) : fPk V b j (k + 1) = min (fPk V b j k) (wrm V b k - lkm V b j k) := by unfold fPk; rw [List.range_succ, List.foldl_append]; rfl
theorem cPk_succ (V : List (List Int)) (b : List Nat) (j k : Nat) : cPk V b j (k + 1) = max (cPk V b j k) (wrm V b k + lkm V b k j) := by unfold cPk; rw [List.range_succ, List.foldl_append]; rfl
theorem fold_min (c : Int) (h : Nat → Int) : ∀ (l : List Nat) (m : Int), l.foldl (fun m t => min m (c - h t)) (c - m) = c - l.foldl (fun m t => max m (h t)) m
  | [], m => rfl
  | t :: l, m => by
    simp only [List.foldl_cons]
    rw [show min (c - m) (c - h t) = c - max m (h t) by omega]
    exact fold_min c h l _
theorem fold_max (c : Int) (h : Nat → Int) : ∀ (l : List Nat) (m : Int), l.foldl (fun m t => max m (c + h t)) (c + m) = c + l.foldl (fun m t => max m (h t)) m
  | [], m => rfl
  | t :: l, m => by
    simp only [List.foldl_cons]
    rw [show max (c + m) (c + h t) = c + max m (h t) by omega]
    exact fold_max c h l _
section
variable {V : List (List Int)} {b : List Nat}
theorem wrm_vo (hb : Top V b) {j : Nat} (hj : j < V.length) : vo V b (b.idxOf j) = wrm V b j := by
  unfold vo wrm
  rw [(idx_rm hb hj).2]
theorem vo_wrm (hb : Top V b) {i : Nat} (hi : i < V.length) : vo V b i = wrm V b (b.getD i 0) := by
  unfold vo wrm
  rw [own_idx hb hi]
theorem fP_eq (hb : Top V b) {j : Nat} (hj : j < V.length) : fPk V b j V.length = fpr V b (gF V b) j := by
  obtain ⟨h1, h2⟩ := idx_rm hb hj
  have e1 : fPk V b j V.length = wrm V b j - (List.range V.length).foldl (fun m t => max m (wrm V b j - wrm V b t + lkm V b j t)) 0 := by
    have := fold_min (wrm V b j) (fun t => wrm V b j - wrm V b t + lkm V b j t) (List.range V.length) 0
    rw [← this]
    unfold fPk
    have e : (fun (m : Int) (t : Nat) => min m (wrm V b j - (wrm V b j - wrm V b t + lkm V b j t))) = fun m t => min m (wrm V b t - lkm V b j t) := by
      funext m t
      rw [show wrm V b j - (wrm V b j - wrm V b t + lkm V b j t) = wrm V b t - lkm V b j t by omega]
    try simp only at e ⊢
    rw [e, Int.sub_zero]
  rw [e1]
  unfold fpr
  rw [wrm_vo hb hj]
  have hk : ∀ k, k < V.length → gd V b (b.idxOf j) k = wrm V b j - wrm V b (b.getD k 0) + lkm V b j (b.getD k 0) := fun k hk => by
    unfold gd
    rw [wrm_vo hb hj, h2, vo_wrm hb hk]
  have g0 := fm_ge (fun t => wrm V b j - wrm V b t + lkm V b j t) (List.range V.length) 0
  have a1 : gF V b (b.idxOf j) ≤ (List.range V.length).foldl (fun m t => max m (wrm V b j - wrm V b t + lkm V b j t)) 0 := by
    obtain ⟨k, hkn, he⟩ := gF_at hb h1
    rw [he, hk k hkn]
    exact g0.2 (b.getD k 0) (by simpa using own_lt hb hkn)
  have a2 : (List.range V.length).foldl (fun m t => max m (wrm V b j - wrm V b t + lkm V b j t)) 0 ≤ gF V b (b.idxOf j) := by
    rcases fm_at (fun t => wrm V b j - wrm V b t + lkm V b j t) (List.range V.length) 0 with h | ⟨t, ht, h⟩
    · rw [h]; exact gF_nn V b _
    · have ht' : t < V.length := by simpa using ht
      obtain ⟨k1, k2⟩ := idx_rm hb ht'
      have := gF_ge V b (b.idxOf j) k1
      rw [hk _ k1, k2] at this
      rw [h]; exact this
  omega
theorem cP_eq (hb : Top V b) {j : Nat} (hj : j < V.length) : cPk V b j V.length = fpr V b (gC V b) j := by
  obtain ⟨h1, h2⟩ := idx_rm hb hj
  have e1 : cPk V b j V.length = wrm V b j + (List.range V.length).foldl (fun m t => max m (wrm V b t + lkm V b t j - wrm V b j)) 0 := by
    have := fold_max (wrm V b j) (fun t => wrm V b t + lkm V b t j - wrm V b j) (List.range V.length) 0
    rw [← this]
    unfold cPk
    have e : (fun (m : Int) (t : Nat) => max m (wrm V b j + (wrm V b t + lkm V b t j - wrm V b j))) = fun m t => max m (wrm V b t + lkm V b t j) := by
      funext m t
      rw [show wrm V b j + (wrm V b t + lkm V b t j - wrm V b j) = wrm V b t + lkm V b t j by omega]
    try simp only at e ⊢
    rw [e, Int.add_zero]
  rw [e1]
  unfold fpr
  rw [wrm_vo hb hj]
  have hk : ∀ k, k < V.length → gd V b k (b.idxOf j) = wrm V b (b.getD k 0) + lkm V b (b.getD k 0) j - wrm V b j := fun k hk => by
    unfold gd
    rw [wrm_vo hb hj, h2, vo_wrm hb hk]
    omega
  have g0 := fm_ge (fun t => wrm V b t + lkm V b t j - wrm V b j) (List.range V.length) 0
  have a1 : -gC V b (b.idxOf j) ≤ (List.range V.length).foldl (fun m t => max m (wrm V b t + lkm V b t j - wrm V b j)) 0 := by
    obtain ⟨k, hkn, he⟩ := gC_at hb h1
    have := g0.2 (b.getD k 0) (by simpa using own_lt hb hkn)
    rw [he, hk k hkn]
    try simp only at this
    omega
  have a2 : (List.range V.length).foldl (fun m t => max m (wrm V b t + lkm V b t j - wrm V b j)) 0 ≤ -gC V b (b.idxOf j) := by
    rcases fm_at (fun t => wrm V b t + lkm V b t j - wrm V b j) (List.range V.length) 0 with h | ⟨t, ht, h⟩
    · rw [h]
      have := gC_np V b (b.idxOf j)
      omega
    · have ht' : t < V.length := by simpa using ht
      obtain ⟨k1, k2⟩ := idx_rm hb ht'
      have := gC_le V b (b.idxOf j) k1
      rw [hk _ k1, k2] at this
      rw [h]
      try simp only at this ⊢
      omega
  omega
theorem wrm_bd (ok : Ok V) (b : List Nat) (j : Nat) : 0 ≤ wrm V b j ∧ wrm V b j ≤ 1000000 := ok.bd _ _
theorem lkm_b6' (ok : Ok V) (b : List Nat) (x y : Nat) : -6000000 ≤ lkm V b x y ∧ lkm V b x y ≤ 6000000 := by
  have h := lkm_bd ok.bd (b := b) x y
  have n6 := ok.n6
  have : (V.length : Int) * 1000000 ≤ 6 * 1000000 := Int.mul_le_mul_of_nonneg_right (by omega) (by omega)
  omega
theorem fPk_bd (ok : Ok V) (b : List Nat) (j : Nat) : ∀ k, -6000000 ≤ fPk V b j k ∧ fPk V b j k ≤ 1000000
  | 0 => by rw [fPk_zero]; have := wrm_bd ok b j; omega
  | k + 1 => by
    have h1 := fPk_bd ok b j k
    have h2 := wrm_bd ok b k
    have h3 := lkm_b6' ok b j k
    rw [fPk_succ]; omega
theorem cPk_bd (ok : Ok V) (b : List Nat) (j : Nat) : ∀ k, 0 ≤ cPk V b j k ∧ cPk V b j k ≤ 7000000
  | 0 => by rw [cPk_zero]; have := wrm_bd ok b j; omega
  | k + 1 => by
    have h1 := cPk_bd ok b j k
    have h2 := wrm_bd ok b k
    have h3 := lkm_b6' ok b k j
    rw [cPk_succ]; omega
end
/-- Prices that are moved to the rent, by the program's change. -/
theorem shp_rd {n : Nat} (n1 : 1 ≤ n) (P : Nat → Int) (R : Int) :
    rdd n (shp n P R) = ((Rp.q (R - sm P (List.range n)) n).den : Int) ∧
    ∀ j, j < n → el (rdp n (shp n P R)) j = P j * ((Rp.q (R - sm P (List.range n)) n).den : Int) + (Rp.q (R - sm P (List.range n)) n).num := by
  have hg := gcl_even n1 P (R - sm P (List.range n))
  have hf : ∀ j, shp n P R j = (n : Int) * P j + (R - sm P (List.range n)) := fun j => by unfold shp; omega
  have hm : (List.range n).map (shp n P R) = (List.range n).map fun j => (n : Int) * P j + (R - sm P (List.range n)) := List.map_congr_left fun j _ => hf j
  generalize R - sm P (List.range n) = c at *
  obtain ⟨p1, p2⟩ := Rp.q_parts (a := c) (n := n) (by omega)
  unfold rdd rdp
  rw [hm, hg, p1, p2]
  have g1 : (Int.gcd (n : Int) c : Int) ∣ (n : Int) := Int.gcd_dvd_left _ _
  have g2 : (Int.gcd (n : Int) c : Int) ∣ c := Int.gcd_dvd_right _ _
  refine ⟨by rw [Int.natCast_ediv], fun j hj => ?_⟩
  have : el ((List.range n).map fun j => shp n P R j / (Int.gcd (n : Int) c : Int)) j = shp n P R j / (Int.gcd (n : Int) c : Int) := by unfold el; simp [hj]
  rw [this, hf, Int.add_ediv_of_dvd_right g2, Int.mul_comm (n : Int), Int.mul_ediv_assoc _ g1]
theorem shp_congr {n : Nat} {P Q : Nat → Int} (R : Int) (h : ∀ j, j < n → P j = Q j) {j : Nat} (hj : j < n) : shp n P R j = shp n Q R j := by
  unfold shp
  rw [h j hj, sm_congr (f := P) (g := Q) fun k hk => h k (List.mem_range.1 hk)]
theorem shp_map {n : Nat} {P Q : Nat → Int} (R : Int) (h : ∀ j, j < n → P j = Q j) : rdp n (shp n P R) = rdp n (shp n Q R) ∧ rdd n (shp n P R) = rdd n (shp n Q R) := by
  have e : (List.range n).map (shp n P R) = (List.range n).map (shp n Q R) := List.map_congr_left fun j hj => shp_congr R h (List.mem_range.1 hj)
  unfold rdd rdp
  rw [e]
  exact ⟨List.map_congr_left fun j hj => by rw [shp_congr R h (List.mem_range.1 hj)], rfl⟩
end Go.Proofs.Ytncmffhoodfhjaa.As
