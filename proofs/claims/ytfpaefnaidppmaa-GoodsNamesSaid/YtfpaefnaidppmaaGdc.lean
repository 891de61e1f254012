/- Layer 16 (goods): what Check and Valid give. -/
import Derived.Test.YtfpaefnaidppmaaGdp
namespace Go.Proofs.Ytfpaefnaidppmaa
open Go.RowKit
namespace As
/-- A row that isn't valid. -/
def gbad (m : Nat) (r : List Int) : Bool := decide (r.length ≠ m) || r.any (fun x => decide (x < 0 ∨ 1000 < x))
/-- How many goods there are. -/
def gm (V : List (List Int)) : Nat := (V.getD 0 []).length
def gchk (V : List (List Int)) : Int := if 6 < V.length then 4 else if V.any (fun r => decide (10 < r.length)) then 4 else if V.any (gbad (gm V)) then 8 else if V.length < 1 then 8 else 0
/-- Valid goods. -/
structure Gok (V : List (List Int)) : Prop where
  n1 : 1 ≤ V.length
  n6 : V.length ≤ 6
  m10 : gm V ≤ 10
  row : ∀ i, i < V.length → (V.getD i []).length = gm V
  bd : ∀ i g, 0 ≤ vl V i g ∧ vl V i g ≤ 1000
theorem getD_memL {α : Type} {l : List α} {i : Nat} (h : i < l.length) (d : α) : l.getD i d ∈ l := by
  rw [List.getD_eq_getElem?_getD, List.getElem?_eq_getElem h]; exact List.getElem_mem h
theorem gchk_cases (V : List (List Int)) : gchk V = 0 ∨ gchk V = 4 ∨ gchk V = 8 := by
  unfold gchk
  by_cases h1 : 6 < V.length
  · rw [if_pos h1]; exact .inr (.inl rfl)
  · rw [if_neg h1]
    cases V.any (fun r => decide (10 < r.length))
    · cases V.any (gbad (gm V))
      · by_cases h2 : V.length < 1
        · rw [if_neg (by decide), if_neg (by decide), if_pos h2]; exact .inr (.inr rfl)
        · rw [if_neg (by decide), if_neg (by decide), if_neg h2]; exact .inl rfl
      · exact .inr (.inr rfl)
    · exact .inr (.inl rfl)
theorem gchk_ok {V : List (List Int)} (h : gchk V = 0) : Gok V := by
  unfold gchk at h
  by_cases h1 : 6 < V.length
  · rw [if_pos h1] at h; cases h
  · rw [if_neg h1] at h
    by_cases h2 : V.any (fun r => decide (10 < r.length)) = true
    · rw [if_pos h2] at h; cases h
    · rw [if_neg h2] at h
      by_cases h3 : V.any (gbad (gm V)) = true
      · rw [if_pos h3] at h; cases h
      · rw [if_neg h3] at h
        by_cases h4 : V.length < 1
        · rw [if_pos h4] at h; cases h
        · have hr : ∀ i, i < V.length → gbad (gm V) (V.getD i []) = false := fun i hi => by
            cases e : gbad (gm V) (V.getD i []) with
            | false => rfl
            | true => exact absurd (List.any_eq_true.2 ⟨_, getD_memL hi [], e⟩) h3
          have hl : ∀ i, i < V.length → (V.getD i []).length = gm V := fun i hi => by
            have := hr i hi
            unfold gbad at this
            rw [Bool.or_eq_false_iff] at this
            have := of_decide_eq_false this.1
            omega
          refine ⟨by omega, by omega, ?_, hl, fun i g => ?_⟩
          · refine Classical.byContradiction fun h5 => h2 (List.any_eq_true.2 ⟨_, getD_memL (l := V) (i := 0) (by omega) [], ?_⟩)
            rw [decide_eq_true_eq]
            unfold gm at h5
            omega
          · unfold vl
            by_cases hi : i < V.length
            · by_cases hg : g < (V.getD i []).length
              · have := hr i hi
                unfold gbad at this
                rw [Bool.or_eq_false_iff] at this
                have h6 := List.any_eq_false.1 this.2 (el (V.getD i []) g) (by rw [el_lt hg]; exact List.getElem_mem hg)
                rw [decide_eq_true_eq] at h6
                omega
              · have : el (V.getD i []) g = 0 := by
                  unfold el; rw [List.getD_eq_getElem?_getD, List.getElem?_eq_none (by omega)]; rfl
                rw [this]; decide
            · have : V.getD i [] = [] := by rw [List.getD_eq_getElem?_getD, List.getElem?_eq_none (by omega)]; rfl
              rw [this]
              exact (by decide : (0 : Int) ≤ 0 ∧ (0 : Int) ≤ 1000)
/-- Is an element no agent and not -1? -/
def gout (n : Nat) (x : Int) : Bool := decide (x < -1) || decide ((n : Int) ≤ x)
def gvld (V : List (List Int)) (a : List Int) : Int := if gchk V ≠ 0 then gchk V else if a.length ≠ gm V then 8 else if a.any (gout V.length) then 8 else 0
theorem gvld_ok {V : List (List Int)} {a : List Int} (h : gvld V a = 0) : gchk V = 0 ∧ Al V.length (gm V) a := by
  unfold gvld at h
  by_cases h0 : gchk V = 0
  · rw [if_neg (fun x => x h0)] at h
    by_cases h1 : a.length ≠ gm V
    · rw [if_pos h1] at h; cases h
    · rw [if_neg h1] at h
      have hl : a.length = gm V := Classical.not_not.1 h1
      by_cases h2 : a.any (gout V.length) = true
      · rw [if_pos h2] at h; cases h
      · refine ⟨h0, hl, fun g hg => ?_⟩
        have hg2 : g < a.length := by rw [hl]; exact hg
        cases e : gout V.length (el a g) with
        | true => exact absurd (List.any_eq_true.2 ⟨_, by rw [el_lt hg2]; exact List.getElem_mem hg2, e⟩) h2
        | false =>
          unfold gout at e
          rw [Bool.or_eq_false_iff] at e
          have e1 := of_decide_eq_false e.1
          have e2 := of_decide_eq_false e.2
          omega
  · rw [if_pos h0] at h; exact absurd h h0
theorem gvld_al {V : List (List Int)} {a : List Int} (h0 : gchk V = 0) (h : Al V.length (gm V) a) : gvld V a = 0 := by
  unfold gvld
  rw [if_neg (fun x => x h0), if_neg (fun x => x h.len), if_neg]
  rw [Bool.not_eq_true, List.any_eq_false]
  intro x hx
  obtain ⟨g, hg, e⟩ := List.mem_iff_getElem.1 hx
  have hb := h.bd g (by rw [← h.len]; exact hg)
  rw [el_lt hg, e] at hb
  unfold gout
  rw [decide_eq_false (by omega), decide_eq_false (by omega)]
  decide
end As
end Go.Proofs.Ytfpaefnaidppmaa
