/- The part of a cake between two whole numbers: plain mathematics on lists. slices.Clone at ints; package cake's intervals. -/
import Derived.Test.YtnnpmegknlgkoaaTot
import Derived.Test.YtnnpmegknlgkoaaGi
import Derived.Test.YtnnpmegknlgkoaaGh
import Derived.Lib.SliceRun
namespace Go.Proofs.Ytnnpmegknlgkoaa
namespace Ck
theorem at_app {l : List Int} {x : Int} {i : Nat} (h : i < l.length) : at_ (l ++ [x]) i = at_ l i := by
  rw [at_lt h, at_lt (by rw [List.length_append]; omega), List.getElem_append_left h]
theorem at_end {l : List Int} {x : Int} : at_ (l ++ [x]) l.length = x := by
  rw [at_lt (by rw [List.length_append]; simp)]
  simp
def inside (c : List Int) (a b : Int) (k : Nat) : Bool := decide (at_ c k < b) && decide (a < at_ c (k + 1))
/-- Cuts and densities of the part, of the first intervals. -/
def pC (c : List Int) (a b : Int) : Nat → List Int
  | 0 => [0]
  | k + 1 => if inside c a b k then pC c a b k ++ [min b (at_ c (k + 1)) - a] else pC c a b k
def pD (c d : List Int) (a b : Int) : Nat → List Int
  | 0 => []
  | k + 1 => if inside c a b k then pD c d a b k ++ [at_ d k] else pD c d a b k
theorem pC_yes {c : List Int} {a b : Int} {k : Nat} (h : inside c a b k = true) : pC c a b (k + 1) = pC c a b k ++ [min b (at_ c (k + 1)) - a] := by
  show (if inside c a b k then _ else _) = _
  rw [if_pos h]
theorem pC_no {c : List Int} {a b : Int} {k : Nat} (h : inside c a b k = false) : pC c a b (k + 1) = pC c a b k := by
  show (if inside c a b k then _ else _) = _
  rw [if_neg (by rw [h]; simp)]
theorem pD_yes {c d : List Int} {a b : Int} {k : Nat} (h : inside c a b k = true) : pD c d a b (k + 1) = pD c d a b k ++ [at_ d k] := by
  show (if inside c a b k then _ else _) = _
  rw [if_pos h]
theorem pD_no {c d : List Int} {a b : Int} {k : Nat} (h : inside c a b k = false) : pD c d a b (k + 1) = pD c d a b k := by
  show (if inside c a b k then _ else _) = _
  rw [if_neg (by rw [h]; simp)]
theorem pC_len (c : List Int) (a b : Int) : ∀ k, (pC c a b k).length ≤ k + 1
  | 0 => Nat.le_refl _
  | k + 1 => by
    have := pC_len c a b k
    unfold pC
    split
    · rw [List.length_append]; simp; omega
    · omega
theorem pD_len (c d : List Int) (a b : Int) : ∀ k, (pD c d a b k).length ≤ k
  | 0 => Nat.le_refl _
  | k + 1 => by
    have := pD_len c d a b k
    unfold pD
    split
    · rw [List.length_append]; simp; omega
    · omega
/-- The intervals from f on that are less than g: those that have a length in common with what lies between a and b. -/
structure Cut (c d : List Int) (a b : Int) (f g : Nat) : Prop where
  lt : f < g
  le : g ≤ d.length
  lo : ∀ j, j < f → at_ c (j + 1) ≤ a
  hi : a < at_ c (f + 1)
  in_ : ∀ j, f ≤ j → j < g → at_ c j < b
  out : g = d.length ∨ b ≤ at_ c g
variable {len : Int} {c d : List Int} {a b : Int} {f g : Nat}
theorem p_low (h : Cut c d a b f g) : ∀ k, k ≤ f → pC c a b k = [0] ∧ pD c d a b k = []
  | 0, _ => ⟨rfl, rfl⟩
  | k + 1, hk => by
    have ih := p_low h k (by omega)
    have e : inside c a b k = false := by
      unfold inside
      rw [decide_eq_false (p := a < at_ c (k + 1)) (by have := h.lo k (by omega); omega), Bool.and_false]
    rw [pC_no e, pD_no e]
    exact ih
theorem p_mid (hG : Good len c d) (h : Cut c d a b f g) : ∀ t, t ≤ g - f → (pC c a b (f + t)).length = t + 1 ∧ (∀ i, i ≤ t → at_ (pC c a b (f + t)) i = if i = 0 then 0 else min b (at_ c (f + i)) - a) ∧
    (pD c d a b (f + t)).length = t ∧ ∀ i, i < t → at_ (pD c d a b (f + t)) i = at_ d (f + i)
  | 0, _ => by
    have := p_low h f (Nat.le_refl _)
    rw [Nat.add_zero, this.1, this.2]
    refine ⟨rfl, fun i hi => ?_, rfl, fun i hi => absurd hi (by omega)⟩
    obtain rfl : i = 0 := by omega
    rfl
  | t + 1, ht => by
    obtain ⟨h1, h2, h3, h4⟩ := p_mid hG h t (by omega)
    have hlt := h.lt
    have hle := h.le
    have e : inside c a b (f + t) = true := by
      unfold inside
      rw [decide_eq_true (h.in_ (f + t) (by omega) (by omega)), decide_eq_true (p := a < at_ c (f + t + 1)) (by
        have := hG.mono (f + 1) (f + t + 1) (by omega) (by omega)
        have := h.hi
        omega)]
      rfl
    rw [← Nat.add_assoc, pC_yes e, pD_yes e]
    refine ⟨by rw [List.length_append, h1]; rfl, fun i hi => ?_, by rw [List.length_append, h3]; rfl, fun i hi => ?_⟩
    · rcases Nat.lt_or_ge i (t + 1) with g' | g'
      · rw [at_app (by omega), h2 i (by omega)]
      · obtain rfl : i = t + 1 := by omega
        have := at_end (l := pC c a b (f + t)) (x := min b (at_ c (f + t + 1)) - a)
        rw [h1] at this
        rw [this, if_neg (by omega)]
        rfl
    · rcases Nat.lt_or_ge i t with g' | g'
      · rw [at_app (by omega), h4 i (by omega)]
      · obtain rfl : i = t := by omega
        have := at_end (l := pD c d a b (f + i)) (x := at_ d (f + i))
        rw [h3] at this
        exact this
theorem p_high (hG : Good len c d) (h : Cut c d a b f g) : ∀ k, g ≤ k → k ≤ d.length → pC c a b k = pC c a b g ∧ pD c d a b k = pD c d a b g := by
  intro k
  induction k with
  | zero => intro h1 _; have := h.lt; omega
  | succ k ih =>
    intro h1 h2
    rcases Nat.lt_or_ge k g with g' | g'
    · rw [show k + 1 = g by omega]; exact ⟨rfl, rfl⟩
    · have e : inside c a b k = false := by
        unfold inside
        have := hG.mono g k g' (by omega)
        rw [decide_eq_false (p := at_ c k < b) (by rcases h.out with e | e <;> omega), Bool.false_and]
      rw [pC_no e, pD_no e]
      exact ih g' (by omega)
theorem p_all (hG : Good len c d) (h : Cut c d a b f g) : (pC c a b d.length).length = g - f + 1 ∧ (∀ i, i ≤ g - f → at_ (pC c a b d.length) i = if i = 0 then 0 else min b (at_ c (f + i)) - a) ∧
    (pD c d a b d.length).length = g - f ∧ ∀ i, i < g - f → at_ (pD c d a b d.length) i = at_ d (f + i) := by
  have h1 := p_high hG h d.length h.le (Nat.le_refl _)
  have h2 := p_mid hG h (g - f) (Nat.le_refl _)
  rw [show f + (g - f) = g by have := h.lt; omega] at h2
  rw [h1.1, h1.2]
  exact h2
theorem p_chk (hG : Good len c d) (h : Cut c d a b f g) (h0 : 0 ≤ a) (h1 : a < b) (h2 : b ≤ len) : chk (b - a) (pC c a b d.length) (pD c d a b d.length) = if wanted (pD c d a b d.length) then 0 else 8 := by
  obtain ⟨p1, p2, p3, p4⟩ := p_all hG h
  have hsh := hG.shape
  have hl1 := hG.len1
  have hlt := h.lt
  have hle := h.le
  unfold chk
  have e1 : great (b - a) (pC c a b d.length) = false := by
    unfold great
    rw [decide_eq_false (by omega), decide_eq_false (by omega)]
    rfl
  have e2 : shapeBad (b - a) (pC c a b d.length) (pD c d a b d.length) = false := by
    unfold shapeBad
    rw [decide_eq_false (by omega), decide_eq_false (by omega), decide_eq_false (by omega)]
    rfl
  have e3 : endsBad (b - a) (pC c a b d.length) = false := by
    unfold endsBad
    rw [p1, Nat.add_sub_cancel, p2 0 (by omega), p2 (g - f) (Nat.le_refl _), if_pos rfl, if_neg (by omega), show f + (g - f) = g by omega]
    have : min b (at_ c g) = b := by
      have := hG.last
      rcases h.out with e | e
      · rw [e]; omega
      · omega
    rw [this]
    simp
  have e4 : anyBad (pC c a b d.length) (pD c d a b d.length) = false := by
    refine bad_not fun j hj => ?_
    rw [p3] at hj
    unfold badAt
    rw [p2 j (by omega), p2 (j + 1) (by omega), p4 j hj, if_neg (by omega : ¬ j + 1 = 0)]
    have hs := hG.step (f + j) (by omega)
    have hm := hG.mono (f + 1) (f + (j + 1)) (by omega) (by omega)
    have hh := h.hi
    have hin := h.in_ (f + j) (by omega) (by omega)
    have hs1 : at_ c (f + j) < at_ c (f + (j + 1)) := hs.1
    rw [decide_eq_false (p := at_ d (f + j) < 0) (by omega), decide_eq_false (p := 12 < at_ d (f + j)) (by omega), Bool.or_false, Bool.or_false, decide_eq_false_iff_not]
    split
    · omega
    · omega
  rw [e1, e2, e3, e4]
  simp
/-- Part's cake (length, cuts, densities) and error. -/
def parS (len : Int) (c d : List Int) (a b : Int) : Int × List Int × List Int × Int :=
  if chk len c d = 0 then (if a < 0 ∨ len < b ∨ b ≤ a then (0, [], [], 2) else if chk (b - a) (pC c a b d.length) (pD c d a b d.length) = 0 then (b - a, pC c a b d.length, pD c d a b d.length, 0) else (0, [], [], 6))
  else (0, [], [], chk len c d)
/-- What is made by cutting lists is what is made interval by interval. -/
theorem pD_is (hG : Good len c d) (h : Cut c d a b f g) : (d.drop f).take (g - f) = pD c d a b d.length := by
  obtain ⟨_, _, p3, p4⟩ := p_all hG h
  have hle := h.le
  have hlt := h.lt
  have hl : ((d.drop f).take (g - f)).length = g - f := by rw [List.length_take, List.length_drop]; omega
  rw [ext_iff (by rw [hl, p3])]
  intro j hj
  rw [hl] at hj
  rw [p4 j hj, at_lt (by rw [hl]; exact hj), at_lt (by omega)]
  simp
theorem pC_is (hG : Good len c d) (h : Cut c d a b f g) (h2 : b ≤ len) (zs : List Int) (hl : zs.length = g - f + 1) (hz : ∀ i, i < g - f + 1 → at_ zs i = (if i = 0 then a else if i < g - f then at_ c (f + i) else b) - a) : zs = pC c a b d.length := by
  obtain ⟨p1, p2, _, _⟩ := p_all hG h
  have hlt := h.lt
  rw [ext_iff (by rw [hl, p1])]
  intro j hj
  rw [hl] at hj
  rw [hz j hj, p2 j (by omega)]
  by_cases j0 : j = 0
  · rw [if_pos j0, if_pos j0]; omega
  · rw [if_neg j0, if_neg j0]
    by_cases j1 : j < g - f
    · rw [if_pos j1]
      have := h.in_ (f + j) (by omega) (by omega)
      omega
    · obtain rfl : j = g - f := by omega
      rw [if_neg j1, show f + (g - f) = g by omega]
      have := hG.last
      rcases h.out with e | e
      · rw [e]; omega
      · omega
end Ck
end Go.Proofs.Ytnnpmegknlgkoaa
namespace Go.Proofs.Ytnnpmegknlgkoaa
open Go.RowKit

theorem Own.cell {w : World} {B g n cap : Nat} {xs : List Int} (h : Own w B (.slice (some ⟨g, 0, none⟩) n cap) xs) (j : Nat) (hj : j < xs.length) : w.cell? ⟨g, j, none⟩ = some (.int .i64 (Ck.at_ xs j)) := by
  have hn : n = xs.length := by
    rcases h.2 with ⟨h', _⟩ | ⟨g', cap', cur, h', _⟩
    · simp at h'
    · simp only [Value.slice.injEq] at h'
      exact h'.2.1
  subst hn
  rw [World.ownsRow.cellAt h j (by omega), List.getElem?_map, List.getElem?_eq_getElem hj, Ck.at_lt hj]
  rfl

set_option maxHeartbeats 1000000 in
set_option maxRecDepth 100000 in
theorem clone_any (b off n c : Nat) (xs : List Int) (w : World) (hn : xs.length = n) (h0 : 0 < n) (h1 : n ≤ 1000) (hc : ∀ i, i < xs.length → w.cell? ⟨b, off + i, none⟩ = some (.int .i64 (Ck.at_ xs i))) :
    Calls Try.prog 101 #[.slice (some ⟨b, off, none⟩) n c] w fun e w' => ∃ v, e = .returned v ∧ Own w' w.heap.size v xs ∧ Below w.heap.size w w' := by
  have q : ∀ (w : World) (a : Option Addr) (n c n' c' : Nat), (binOp .eql 31 (.slice a n c) (.slice none n' c')).run Try.prog w = .ok (.bool a.isNone) w := fun w a n c n' c' => Lib.run_eql_slice_nil w _ _ a n c n' c' Try.underlying31
  obtain ⟨i0, hi0, hz0, hz1, hz2⟩ := info_parts intInfo
  have HC := Lib.hid (fun j u (hj : (xs.map (Value.int .i64))[j]? = some u) => (show (w.alloc (.cells #[] 3)).cell? ((⟨b, off, none⟩ : Addr).add j) = some u by
    rw [List.getElem?_map, Option.map_eq_some_iff] at hj
    obtain ⟨x, hx, rfl⟩ := hj
    obtain ⟨hj1, hj2⟩ := List.getElem?_eq_some_iff.1 hx
    rw [Addr.add_lit]
    have := cell_alloc (hc j hj1) (.cells #[] 3)
    rw [Ck.at_lt hj1, hj2] at this
    exact this))
  clear hc
  go_enter Try.func101, Try.ntmps101
  go_wp2_with (at_builtin; refine wpList_append_lies _ rfl _ _ _ rfl w.heap.size 3 i0 _ 1 8 Try.underlying31 hi0 hz0 hz1 hz2 rfl (by omega) (.slice (some ⟨w.heap.size, 0, none⟩) 0 0) 0 [] (by rfl) (World.ownsRow_lit w #[] 0 (Nat.le_refl _) (by decide) rfl) ⟨b, off, none⟩ n c (xs.map (Value.int .i64)) (by rfl) (by simp [hn]) HC.out (by simp [Value.oneCell']) h0 (by unfold maxLen; omega) (by omega) (by simp) (w.heap.size + 1) (by simp) ?_; intro g cap w1 hown1 hgrow hat hlt)
  go_ret
  refine ⟨_, rfl, ?_, ((Below.refl _ _).alloc (Nat.le_refl _) _).grown hgrow (by simp) (fun k e => by
    have : w.heap.size = k := by simpa [Value.ownBlock] using e
    omega)⟩
  rw [Nat.zero_add, List.nil_append] at hown1
  subst hn
  exact hown1

end Go.Proofs.Ytnnpmegknlgkoaa
