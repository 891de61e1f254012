/- Prices that are lifted prove their assignment: mathematics. -/
import Derived.Test.YtncmffhoodfhjaaLxl0
import Derived.Test.YtncmffhoodfhjaaYe
import Derived.Test.YtncmffhoodfhjaaYf
namespace Go.Proofs.Ytncmffhoodfhjaa
open Go.RowKit
namespace As
section
variable {V : List (List Int)} {a : List Nat} {R : Int} {ps : List Int} {D : Int}
theorem sc_mm (ok : Ok V) (D : Int) : sc D V = mm V.length V.length (fun i j => vl V i j * D) := by
  refine List.ext_getElem (by rw [sc_len, mm_len]) fun i h1 h2 => ?_
  have hi : i < V.length := by rw [sc_len] at h1; exact h1
  have e1 : (sc D V)[i] = V[i].map fun x => D * x := by simp [sc]
  have e2 : (mm V.length V.length (fun i j => vl V i j * D))[i] = ml V.length (fun j => vl V i j * D) := by simp [mm]
  rw [e1, e2]
  have hr : V[i].length = V.length := by
    have := ok.row i hi
    rwa [List.getD_eq_getElem?_getD, List.getElem?_eq_getElem hi] at this
  refine List.ext_getElem (by rw [List.length_map, ml_len, hr]) fun j h3 h4 => ?_
  have hj : j < V.length := by rw [ml_len] at h4; exact h4
  have e3 : vl V i j = V[i][j] := by
    have e4 : V.getD i [] = V[i] := by simp [List.getD_eq_getElem?_getD, hi]
    unfold vl
    rw [e4]
    exact el_lt (by rw [hr]; exact hj)
  simp only [List.getElem_map, ml, List.getElem_range]
  rw [e3, Int.mul_comm]
/-- The prices, lifted by the least one. -/
def lft (V : List (List Int)) (ps : List Int) : List Int := ml V.length (fun j => el ps j - mnk ps V.length)
theorem lft_cont (le : Le14 V.length R a ps D) (ct : Cont (sc D V) a (el ps)) : Cont (sc D V) a (el (lft V ps)) := by
  intro i j hi hj
  have h := ct i j hi hj
  have hl := sc_len D V
  rw [hl] at hi hj
  have h2 : a.getD i 0 < V.length := (perm_lt le.perm).2 i hi
  unfold lft
  rw [el_ml hj, el_ml h2]
  omega
theorem lft_prv (le : Le14 V.length R a ps D) (ct : Cont (sc D V) a (el ps)) (h0 : chk (sc D V) = 0) (h1 : isL (lft V ps) V.length 10000000 = true) : prvS (sc D V) (al a) (lft V ps) = (true, 0) := by
  have ct2 := lft_cont le ct
  unfold prvS
  rw [if_pos h0, sc_len, perm_isA le.perm, h1, toNat_al]
  simp only [Bool.and_self, if_true]
  rw [contB_yes (fun i hi => rowB_yes (fun j hj => ct2 i j hi hj))]
theorem lft_val (le : Le14 V.length R a ps D) (ct : Cont (sc D V) a (el ps)) (h0 : chk (sc D V) = 0) : valS (sc D V) (al a) = (bsv (sc D V), 0) := by
  have ok := chk_ok h0
  have hb := bst_top ok
  have hl := sc_len D V
  have ta : Top (sc D V) a := ct.top (by rw [hl]; exact le.perm)
  have e : wr (sc D V) a = wr (sc D V) (bst (sc D V)) := Int.le_antisymm (hb.top a ta.perm) (ta.top _ hb.perm)
  unfold valS bsv
  rw [if_pos h0, if_pos h0, hl, perm_isA le.perm, toNat_al, ← e]
  rfl
end
end As
theorem top_range (A : Option Addr) (cv : Nat) (V : List (List Int)) (T : Int) (J : Nat) (v : World) (hl : V.length ≤ maxLen) (hv : IsM v A V) (hT : As.rchk V T = 0) (hJ : J < V.length) : Calls Try.prog 13 #[.agg #[.slice A V.length cv, .int .i64 T], .int .i64 J] v fun e w' => e = .returned (.tuple #[.agg #[.int .i64 (Rp.q (As.lowN V (As.bst V) T J) V.length).num, .int .i64 ((Rp.q (As.lowN V (As.bst V) T J) V.length).den : Int)], .agg #[.int .i64 (Rp.q (As.highN V (As.bst V) T J) V.length).num, .int .i64 ((Rp.q (As.highN V (As.bst V) T J) V.length).den : Int)], .int .i64 0]) ∧ Below v.heap.size v w' := by
  have c := rmRange_any A cv V T J v hl hv
  unfold rgV As.rgS at c
  rw [if_pos hT, if_pos (show (0 : Int) ≤ (J : Int) ∧ (J : Int) < V.length by omega)] at c
  exact c
/-- The price of a room without envy lies in its range. -/
theorem As.in_rangeT {V : List (List Int)} {a : List Nat} {ps : List Int} {D R : Int} {j : Nat} (ok : As.Ok V) (le : As.Le14 V.length R a ps D) (hc : As.Cont (As.sc D V) a (As.el ps)) (hj : j < V.length) :
    As.lowN V (As.bst V) R j * D ≤ As.el ps j * V.length ∧ As.el ps j * V.length ≤ As.highN V (As.bst V) R j * D := by
  obtain ⟨h1, h2⟩ := As.range_in le.d1 (As.bst_top ok) le.perm hc le.sum hj
  rw [Int.mul_comm _ D, Int.mul_comm (As.el ps j), Int.mul_comm (As.highN V (As.bst V) R j)]
  exact ⟨h1, h2⟩
end Go.Proofs.Ytncmffhoodfhjaa
