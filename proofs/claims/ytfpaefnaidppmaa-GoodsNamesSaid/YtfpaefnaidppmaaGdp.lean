/- Layer 16 (goods): mathematics of passing and giving. -/
import Derived.Test.YtfpaefnaidppmaaGdm
import Derived.Test.YtfpaefnaidppmaaYe
namespace Go.Proofs.Ytfpaefnaidppmaa
open Go.RowKit
namespace As
section
variable {V : List (List Int)} {a : List Int} {o : List Nat} {n m : Nat}
theorem ord_idx (ho : o.Perm (List.range n)) {x : Nat} (hx : x < n) : o.idxOf x < n ∧ o.getD (o.idxOf x) 0 = x := by
  have hm : x ∈ o := ho.mem_iff.2 (List.mem_range.2 hx)
  have hi : o.idxOf x < o.length := List.idxOf_lt_length_iff.2 hm
  exact ⟨by rw [← (perm_lt ho).1]; exact hi, by rw [getD_lt hi]; exact List.getElem_idxOf hi⟩
theorem idx_ord (ho : o.Perm (List.range n)) {i : Nat} (hi : i < n) : o.idxOf (o.getD i 0) = i :=
  idxOf_getD (ho.nodup_iff.2 List.nodup_range) (by rw [(perm_lt ho).1]; exact hi)
theorem pas_al (ho : o.Perm (List.range n)) (h : Al n m a) : Al n m (pas o a) := by
  refine ⟨by rw [pas_len]; exact h.len, fun g hg => ?_⟩
  have hb := h.bd g hg
  rw [el_pas o (by rw [h.len]; exact hg)]
  by_cases h0 : 0 ≤ el a g
  · rw [if_pos h0]
    have := (ord_idx ho (x := (el a g).toNat) (by omega)).1
    omega
  · rw [if_neg h0]; omega
theorem pas_iff (ho : o.Perm (List.range n)) (h : Al n m a) {g i : Nat} (hg : g < m) (hi : i < n) : el (pas o a) g = (i : Int) ↔ el a g = ((o.getD i 0 : Nat) : Int) := by
  have hb := h.bd g hg
  rw [el_pas o (by rw [h.len]; exact hg)]
  by_cases h0 : 0 ≤ el a g
  · rw [if_pos h0]
    constructor
    · intro e
      have e1 : o.idxOf (el a g).toNat = i := by omega
      have := (ord_idx ho (x := (el a g).toNat) (by omega)).2
      rw [e1] at this
      omega
    · intro e
      have e1 : (el a g).toNat = o.getD i 0 := by omega
      rw [e1, idx_ord ho hi]
  · rw [if_neg h0]
    constructor
    · intro e; omega
    · intro e; omega
/-- After passing, the bundle of i is that of the agent order[i]. -/
theorem bw_pas (ho : o.Perm (List.range n)) (h : Al n m a) {i : Nat} (hi : i < n) (j : Nat) : bw V (pas o a) j i = bw V a j (o.getD i 0) := by
  unfold bw
  rw [pas_len]
  refine sm_congr fun g hg => ?_
  have hg2 : g < m := by rw [← h.len]; exact List.mem_range.1 hg
  by_cases e : el (pas o a) g = (i : Int)
  · rw [if_pos e, if_pos ((pas_iff ho h hg2 hi).1 e)]
  · rw [if_neg e, if_neg (fun x => e ((pas_iff ho h hg2 hi).2 x))]
/-- The order back. -/
def bck (o : List Nat) (n : Nat) : List Nat := (List.range n).map fun x => o.idxOf x
theorem bck_len : (bck o n).length = n := by simp [bck]
theorem bck_at {x : Nat} (hx : x < n) : (bck o n).getD x 0 = o.idxOf x := by
  rw [getD_lt (by rw [bck_len]; exact hx)]
  simp [bck]
theorem bck_isA (ho : o.Perm (List.range n)) : isA (al (bck o n)) n = true := by
  refine isA_yes (by rw [al_len, bck_len]) fun j hj => ?_
  unfold has
  rw [decide_eq_true_eq]
  unfold al bck
  refine List.mem_map.2 ⟨j, List.mem_map.2 ⟨o.getD j 0, List.mem_range.2 ((perm_lt ho).2 j hj), idx_ord ho hj⟩, rfl⟩
theorem bck_perm (ho : o.Perm (List.range n)) : (bck o n).Perm (List.range n) := by
  obtain ⟨b, e, hb⟩ := isA_perm (bck_isA ho)
  have : bck o n = b := by
    have := congrArg (fun l : List Int => l.map Int.toNat) e
    simpa only [toNat_al] using this
  rw [this]; exact hb
/-- Passing back. -/
theorem pas_back (ho : o.Perm (List.range n)) (h : Al n m a) : pas (bck o n) (pas o a) = a := by
  have h2 := pas_al ho h
  refine List.ext_getElem (by rw [pas_len, pas_len]) fun g h3 h4 => ?_
  have hg : g < m := by rw [← h.len]; exact h4
  rw [← el_lt h3, ← el_lt h4]
  have hb := h.bd g hg
  rw [el_pas _ (by rw [pas_len]; exact h4), el_pas o h4]
  by_cases h0 : 0 ≤ el a g
  · rw [if_pos h0, if_pos (by omega)]
    have hx : (el a g).toNat < n := by omega
    rw [Int.toNat_natCast, show o.idxOf (el a g).toNat = (bck o n).getD (el a g).toNat 0 from (bck_at hx).symm, idx_ord (bck_perm ho) hx]
    omega
  · rw [if_neg h0, if_neg (by omega)]; omega
/-- A good that is given. -/
theorem set_al (h : Al n m a) {g : Nat} {x : Int} (hg : g < m) (hx : -1 ≤ x ∧ x < n) : Al n m (a.set g x) := by
  refine ⟨by rw [List.length_set]; exact h.len, fun k hk => ?_⟩
  rw [el_set (by rw [h.len]; exact hg)]
  by_cases e : k = g
  · rw [if_pos e]; exact hx
  · rw [if_neg e]; exact h.bd k hk
theorem set_back {g : Nat} (hg : g < a.length) (x : Int) : (a.set g x).set g (el a g) = a := by
  rw [List.set_set, el_lt hg]
  exact List.set_getElem_self hg
end
end As
end Go.Proofs.Ytfpaefnaidppmaa
