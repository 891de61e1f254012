/- Package assign: slices.Clone of rows, greatestWithout. -/
import Derived.Test.YtpiolhjiflohgaaAsh
import Derived.Lib.Slices
namespace Go.Proofs.Ytpiolhjiflohgaa
open Go.RowKit
theorem rowInfo : (Try.prog.info? 26).map (fun i => (i.zero, i.size, i.bytes)) = some (some (.slice none 0 0), 1, 24) := by kernel_rfl
/-- A row of the call's own, as a block. -/
theorem own_block {w : World} {B n : Nat} {e : TypeId} {v : Value} {xs : List Value} (h : w.ownsRow B e 1 v n xs) (hn : 0 < n) : ∃ g cap, v = .slice (some ⟨g, 0, none⟩) n cap ∧ B ≤ g ∧ n ≤ cap ∧ BK w g xs := by
  rcases h.2 with ⟨_, h0⟩ | ⟨g, cap, cur, hv, hb, hg, hc, _, hs, ht⟩
  · omega
  · have hlt : g < w.heap.size := (Array.getElem?_eq_some_iff.1 hg).1
    refine ⟨g, cap, hv, hb, hc, hlt, fun j x ej => ?_⟩
    rw [← ht] at ej
    have hj : cur[j]? = some x := by
      rw [List.getElem?_take] at ej
      split at ej
      · simpa using ej
      · cases ej
    constructor
    · simp [World.cell?, hg, hj]
    · simp [World.frozen?, hg]
/-- The rows of bids as values. -/
def Rvs (w : World) (V : List (List Int)) (RV : Nat → Value) : Prop := ∀ i, i < V.length → ∃ R c, RV i = .slice R (V.getD i []).length c ∧ (V.getD i []).length ≤ maxLen ∧ IsI w R (V.getD i [])
theorem rvs_of {w : World} {V : List (List Int)} {b off : Nat} (h : ∀ i, i < V.length → ∃ R c, w.cell? ⟨b, off + i, none⟩ = some (.slice R (V.getD i []).length c) ∧ (V.getD i []).length ≤ maxLen ∧ IsI w R (V.getD i [])) :
    ∃ RV : Nat → Value, (∀ i, i < V.length → w.cell? ⟨b, off + i, none⟩ = some (RV i)) ∧ Rvs w V RV := by
  have key : ∀ i, i < V.length → ∃ x : Value, w.cell? ⟨b, off + i, none⟩ = some x ∧ ∃ R c, x = .slice R (V.getD i []).length c ∧ (V.getD i []).length ≤ maxLen ∧ IsI w R (V.getD i []) := fun i hi => by
    obtain ⟨R, c, h1, h2⟩ := h i hi
    exact ⟨_, h1, R, c, rfl, h2⟩
  obtain ⟨f, hf⟩ := Go.Deep.choose_lt key
  exact ⟨f, fun i hi => (hf i hi).1, fun i hi => (hf i hi).2⟩
/-- What Clone gives. -/
def CloneQ (n : Nat) (RV : Nat → Value) (w : World) (e : Ending) (w' : World) : Prop := ∃ g c, e = .returned (.slice (some ⟨g, 0, none⟩) n c) ∧ w.heap.size ≤ g ∧ BK w' g ((List.range n).map RV) ∧ Below w.heap.size w w'
namespace As
/-- Bids with a list put to 0. -/
def zr (V : List (List Int)) (i : Nat) : List (List Int) := V.set i (List.replicate V.length 0)
theorem zr_len (V : List (List Int)) (i : Nat) : (zr V i).length = V.length := by simp [zr]
theorem zr_get (V : List (List Int)) {i k : Nat} (hi : i < V.length) : (zr V i).getD k [] = if k = i then List.replicate V.length 0 else V.getD k [] := by
  unfold zr
  simp only [List.getD_eq_getElem?_getD]
  by_cases e : k = i
  · subst e; rw [if_pos rfl, List.getElem?_set_self hi]; rfl
  · rw [if_neg e, List.getElem?_set_ne (by omega)]
theorem zr_vl (V : List (List Int)) {i : Nat} (hi : i < V.length) (k j : Nat) : vl (zr V i) k j = if k = i then 0 else vl V k j := by
  unfold vl
  rw [zr_get V hi]
  by_cases e : k = i
  · rw [if_pos e, if_pos e]
    unfold el
    simp only [List.getD_eq_getElem?_getD, List.getElem?_replicate]
    split <;> rfl
  · rw [if_neg e, if_neg e]
theorem zr_ok {V : List (List Int)} (h : Ok V) {i : Nat} (hi : i < V.length) : Ok (zr V i) := by
  refine ⟨by rw [zr_len]; exact h.n1, by rw [zr_len]; exact h.n6, fun k hk => ?_, fun k j => ?_⟩
  · rw [zr_len] at hk ⊢
    rw [zr_get V hi]
    split
    · simp
    · exact h.row k hk
  · rw [zr_vl V hi]
    split
    · omega
    · exact h.bd k j
/-- What all items can be worth for the others. -/
def gw (V : List (List Int)) (i : Nat) : Int := opt (zr V i) (List.range V.length)
theorem mst_all {V : List (List Int)} (n6 : V.length ≤ 6) : mst V (2 ^ V.length - 1) = opt V (List.range V.length) := by
  unfold mst
  rw [its_all V.length (by omega)]
  simp
end As
end Go.Proofs.Ytpiolhjiflohgaa
