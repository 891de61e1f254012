/- Layer 16: passing and giving, as the program does it. -/
import Derived.Test.YtfpaefnaidppmaaGdz
namespace Go.Proofs.Ytfpaefnaidppmaa
open Go.RowKit
namespace As
theorem idx_al (x : Nat) : ∀ l : List Nat, (al l).idxOf (x : Int) = l.idxOf x
  | [] => rfl
  | y :: l => by
    have ih := idx_al x l
    have e : al (y :: l) = (y : Int) :: al l := rfl
    rw [e, List.idxOf_cons, List.idxOf_cons, ih]
    by_cases h : y = x
    · subst h; simp
    · have h1 : ((y : Int) == (x : Int)) = false := by rw [beq_eq_false_iff_ne]; omega
      have h2 : (y == x) = false := by rw [beq_eq_false_iff_ne]; exact h
      rw [h1, h2]
theorem mem_al {x : Nat} {l : List Nat} : (x : Int) ∈ al l ↔ x ∈ l := by
  unfold al
  rw [List.mem_map]
  constructor
  · rintro ⟨y, hy, e⟩
    have : y = x := by omega
    exact this ▸ hy
  · exact fun h => ⟨x, h, rfl⟩
section
variable {V : List (List Int)} {a : List Int} {o : List Nat} {n m : Nat}
theorem pass_eq (ho : o.Perm (List.range n)) (h : Al n m a) : a.map (ixo (al o)) = pas o a := by
  unfold pas
  refine List.map_congr_left fun x hx => ?_
  obtain ⟨g, hg, rfl⟩ := List.mem_iff_getElem.1 hx
  have hb := h.bd g (by rw [← h.len]; exact hg)
  rw [el_lt hg] at hb
  generalize a[g] = x at *
  unfold ixo
  by_cases h0 : 0 ≤ x
  · obtain ⟨k, rfl⟩ := Int.eq_ofNat_of_zero_le h0
    have hk : k ∈ o := ho.mem_iff.2 (List.mem_range.2 (by omega))
    rw [if_pos h0, if_pos (mem_al.2 hk), idx_al, Int.toNat_natCast]
  · rw [if_neg h0, if_neg]
    intro hm
    obtain ⟨j, _, e⟩ := List.mem_map.1 hm
    omega
/-- The order back, in the making. -/
def bkf (o : List Nat) (i x : Nat) : Int := if o.idxOf x < i then ((o.idxOf x : Nat) : Int) else 0
theorem bkf_zero (o : List Nat) (x : Nat) : bkf o 0 x = 0 := by unfold bkf; rw [if_neg (by omega)]
theorem bkf_step (ho : o.Perm (List.range n)) {i x : Nat} (hi : i < n) (hx : x < n) : (if x = o.getD i 0 then (i : Int) else bkf o i x) = bkf o (i + 1) x := by
  unfold bkf
  by_cases e : x = o.getD i 0
  · have e2 : o.idxOf x = i := by rw [e]; exact idx_ord ho hi
    rw [if_pos e, if_pos (by omega), e2]
  · have e2 : o.idxOf x ≠ i := fun h => e (by rw [← h, (ord_idx ho hx).2])
    rw [if_neg e]
    by_cases e3 : o.idxOf x < i
    · rw [if_pos e3, if_pos (by omega)]
    · rw [if_neg e3, if_neg (by omega)]
theorem bkf_end (ho : o.Perm (List.range n)) {x : Nat} (hx : x < n) : bkf o n x = el (al (bck o n)) x := by
  unfold bkf
  rw [if_pos (ord_idx ho hx).1, el_al, bck_at hx]
theorem bkf_ml (ho : o.Perm (List.range n)) : ml n (bkf o n) = al (bck o n) := by
  unfold ml
  refine List.ext_getElem (by simp [al_len, bck_len]) fun j h1 h2 => ?_
  simp only [List.getElem_map, List.getElem_range]
  rw [bkf_end ho (by simpa using h1), el_lt h2]
theorem bkf_bd (ho : o.Perm (List.range n)) {i x : Nat} (hx : x < n) : 0 ≤ bkf o i x ∧ bkf o i x < n := by
  have h := (ord_idx ho hx).1
  unfold bkf
  split <;> omega
end
end As
end Go.Proofs.Ytfpaefnaidppmaa
