/- Slices of ints of the call's own: what they hold, and what leaves them as they were; a cake that is filled by append. Rows of the call's own, and what lay before the call. -/
import Derived.Test.YtmfnlapoefihkaaGreatCheck
import Derived.Deep.AppendLies
import Derived.Deep.Onto
import Derived.OwnWalk
namespace Go.Proofs.YtmfnlapoefihkaaGreat
open Go.RowKit

/-- A slice of ints of the call's own, in a block from B on. -/
def Own (w : World) (B : Nat) (v : Value) (xs : List Int) : Prop := w.ownsRow B 3 1 v xs.length (xs.map (Value.int .i64))
theorem intInfo : (Tryz.prog.info? 3).map (fun i => (i.zero, i.size, i.bytes)) = some (some (.int .i64 0), 1, 8) := by kernel_rfl
theorem below_st {B : Nat} {a w : World} (h : Below B a w) {b o : Nat} (hb : B ≤ b) (u : Value) : Below B a (w.setCell ⟨b, o, none⟩ u) := h.setCell hb u
theorem Own.nil_ (w : World) (B : Nat) : Own w B (.slice none 0 0) [] := World.ownsRow_nil w B _ 1
theorem Own.lt {w : World} {B : Nat} {v : Value} {xs : List Int} (h : Own w B v xs) : ∀ g, v.ownBlock = some g → B ≤ g ∧ g < w.heap.size := World.ownsRow.lt h
theorem Own.kept {w w' : World} {B : Nat} {v : Value} {xs : List Int} {row : Option Nat} (h : Own w B v xs) (hg : w.grownBy w' row) (hne : v.ownBlock = none ∨ v.ownBlock ≠ row) : Own w' B v xs := World.ownsRow.kept h hg hne
theorem Own.keepB {w w' : World} {B : Nat} {v : Value} {xs : List Int} (h : Own w B v xs) (hb : Below w.heap.size w w') : Own w' B v xs :=
  h.kept (row := none) ⟨hb.os, hb.tape, hb.output, hb.size, fun k hk _ => hb.block k hk⟩ (by
    rcases v.ownBlock with _ | g
    · exact .inl rfl
    · exact .inr (by simp))
theorem Own.set {w : World} {B : Nat} {v : Value} {xs : List Int} {NB off : Nat} (h : Own w B v xs) (hne : v.ownBlock ≠ some NB) (u : Value) : Own (w.setCell ⟨NB, off, none⟩ u) B v xs := by
  refine h.kept (row := some NB) ⟨rfl, rfl, rfl, by simp [World.setCell], fun k _ hk => Below.heap_setCell w ⟨NB, off, none⟩ u k (fun e => hk (by rw [e]))⟩ ?_; exact .inr hne
theorem Own.mono {w : World} {B B' : Nat} {v : Value} {xs : List Int} (h : Own w B v xs) (hb : B' ≤ B) : Own w B' v xs := World.ownsRow.mono h hb
theorem Own.form {w : World} {B : Nat} {v : Value} {xs : List Int} (h : Own w B v xs) : ∃ A cap, v = .slice A xs.length cap := by
  rcases h.2 with ⟨h1, h2⟩ | ⟨g, cap, cur, h1, _⟩
  · exact ⟨none, 0, by rw [h1, h2]⟩
  · exact ⟨_, _, h1⟩
/-- Read as a slice that came in. -/
theorem Own.isI {w : World} {B : Nat} {A : Option Addr} {n cap : Nat} {xs : List Int} (h : Own w B (.slice A n cap) xs) (hb : ∀ x ∈ xs, I64 x) : IsI w A xs := by
  refine ⟨fun h0 => ?_, hb⟩; obtain ⟨g, cap', hv, _, hlt⟩ := World.ownsRow.form h h0
  simp only [Value.slice.injEq] at hv
  obtain ⟨rfl, rfl, rfl⟩ := hv; refine ⟨g, 0, rfl, fun i hi => ?_⟩; have := World.ownsRow.cellAt h i (by omega); rw [Nat.zero_add, this, List.getElem?_map, List.getElem?_eq_getElem hi, Ck.at_lt hi]
  rfl

/-- A cake that is filled: its argument in the block w.heap.size, its result's zero behind it, the cake itself in the block NB. -/
structure NRel (w : World) (len : Int) (K Z : Value) (NB : Nat) (v1 v2 : Value) (xs ys : List Int) (L : Int) (V : World) : Prop where
  bb : Below w.heap.size w V
  c0 : V.cell? ⟨w.heap.size, 0, none⟩ = some (.int .i64 len)
  c1 : V.cell? ⟨w.heap.size, 1, none⟩ = some K
  c2 : V.cell? ⟨w.heap.size, 2, none⟩ = some Z
  r0 : V.cell? ⟨w.heap.size + 1, 0, none⟩ = some (.int .i64 0)
  r1 : V.cell? ⟨w.heap.size + 1, 1, none⟩ = some (.slice none 0 0)
  r2 : V.cell? ⟨w.heap.size + 1, 2, none⟩ = some (.slice none 0 0)
  q0 : V.frozen? ⟨w.heap.size + 1, 0, none⟩ = false
  q1 : V.frozen? ⟨w.heap.size + 1, 1, none⟩ = false
  q2 : V.frozen? ⟨w.heap.size + 1, 2, none⟩ = false
  n0 : V.cell? ⟨NB, 0, none⟩ = some (.int .i64 L)
  n1 : V.cell? ⟨NB, 1, none⟩ = some v1
  n2 : V.cell? ⟨NB, 2, none⟩ = some v2
  f1 : V.frozen? ⟨NB, 1, none⟩ = false
  f2 : V.frozen? ⟨NB, 2, none⟩ = false
  o1 : Own V (w.heap.size + 2) v1 xs
  o2 : Own V (w.heap.size + 2) v2 ys
  ap : ∀ g, v1.ownBlock = some g → v2.ownBlock ≠ some g
  s1 : v1.ownBlock ≠ some NB
  s2 : v2.ownBlock ≠ some NB
  hN : w.heap.size + 1 < NB
section
variable {w V : World} {len L : Int} {K Z v1 v2 : Value} {NB : Nat} {xs ys : List Int}
theorem NRel.drewN (h : NRel w len K Z NB v1 v2 xs ys L V) (n : Nat) : NRel w len K Z NB v1 v2 xs ys L (V.drewN n) :=
  ⟨below_drewN h.bb n, h.c0, h.c1, h.c2, h.r0, h.r1, h.r2, h.q0, h.q1, h.q2, h.n0, h.n1, h.n2, h.f1, h.f2, h.o1, h.o2, h.ap, h.s1, h.s2, h.hN⟩

theorem NRel.pre1 (h : NRel w len K Z NB v1 v2 xs ys L V) {W w1 : World} (hW : Below V.heap.size V W) (hg : W.grownBy w1 v1.ownBlock) : w1.cell? ⟨NB, 1, none⟩ = some v1 ∧ w1.frozen? ⟨NB, 1, none⟩ = false := by
  have hNB : NB < V.heap.size := lt_of_cell h.n0; have hlt : NB < W.heap.size := Nat.lt_of_lt_of_le hNB hW.size; refine ⟨?_, ?_⟩
  · rw [hg.cell_far ⟨NB, 1, none⟩ hlt (fun e => h.s1 e.symm), hW.cell (p := ⟨NB, 1, none⟩) hNB]
    exact h.n1
  · rw [hg.frozen_far ⟨NB, 1, none⟩ hlt (fun e => h.s1 e.symm), hW.frozen (p := ⟨NB, 1, none⟩) hNB]
    exact h.f1

theorem NRel.pre2 (h : NRel w len K Z NB v1 v2 xs ys L V) {W w1 : World} (hW : Below V.heap.size V W) (hg : W.grownBy w1 v2.ownBlock) : w1.cell? ⟨NB, 2, none⟩ = some v2 ∧ w1.frozen? ⟨NB, 2, none⟩ = false := by
  have hNB : NB < V.heap.size := lt_of_cell h.n0; have hlt : NB < W.heap.size := Nat.lt_of_lt_of_le hNB hW.size; refine ⟨?_, ?_⟩
  · rw [hg.cell_far ⟨NB, 2, none⟩ hlt (fun e => h.s2 e.symm), hW.cell (p := ⟨NB, 2, none⟩) hNB]
    exact h.n2
  · rw [hg.frozen_far ⟨NB, 2, none⟩ hlt (fun e => h.s2 e.symm), hW.frozen (p := ⟨NB, 2, none⟩) hNB]
    exact h.f2

theorem NRel.app1 (h : NRel w len K Z NB v1 v2 xs ys L V) {W w1 : World} {x : Int} {g cap : Nat} (hW : Below V.heap.size V W)
    (hown : w1.ownsRow (w.heap.size + 2) 3 1 (.slice (some ⟨g, 0, none⟩) (xs.length + 1) cap) (xs.length + 1) (xs.map (Value.int .i64) ++ [.int .i64 x])) (hg : W.grownBy w1 v1.ownBlock) (hat : v1.ownBlock = some g ∨ g = W.heap.size) :
    NRel w len K Z NB (.slice (some ⟨g, 0, none⟩) (xs.length + 1) cap) v2 (xs ++ [x]) ys L (w1.setCell ⟨NB, 1, none⟩ (.slice (some ⟨g, 0, none⟩) (xs.length + 1) cap)) := by
  have hNB : NB < V.heap.size := lt_of_cell h.n0; have hsz : V.heap.size ≤ W.heap.size := hW.size
  have far : ∀ (b o : Nat) (u : Value), V.cell? ⟨b, o, none⟩ = some u → v1.ownBlock ≠ some b → w1.cell? ⟨b, o, none⟩ = some u := by
    intro b o u hu hne; have hb := lt_of_cell hu; rw [hg.cell_far ⟨b, o, none⟩ (Nat.lt_of_lt_of_le hb hsz) (fun e => hne e.symm), hW.cell (p := ⟨b, o, none⟩) hb]; exact hu
  have farf : ∀ (b o : Nat), b < V.heap.size → V.frozen? ⟨b, o, none⟩ = false → v1.ownBlock ≠ some b → w1.frozen? ⟨b, o, none⟩ = false := by
    intro b o hb hu hne; rw [hg.frozen_far ⟨b, o, none⟩ (Nat.lt_of_lt_of_le hb hsz) (fun e => hne e.symm), hW.frozen (p := ⟨b, o, none⟩) hb]; exact hu
  have lo : ∀ b, b < w.heap.size + 2 → v1.ownBlock ≠ some b := fun b hb e => by
    have := (h.o1.lt b e).1
    omega
  have hN := h.hN
  have hg2 : w.heap.size + 2 ≤ g ∧ g ≠ NB := by
    rcases hat with e | e
    · refine ⟨(h.o1.lt g e).1, fun e' => ?_⟩
      subst e'; exact h.s1 e
    · have := h.bb.size
      omega
  have setc : ∀ (b o : Nat) (u : Value), w1.cell? ⟨b, o, none⟩ = some u → (b ≠ NB ∨ o ≠ 1) → (w1.setCell ⟨NB, 1, none⟩ (.slice (some ⟨g, 0, none⟩) (xs.length + 1) cap)).cell? ⟨b, o, none⟩ = some u := by
    intro b o u hu hne
    rw [World.cell?_setCell_other _ _ _ _ (by
      intro e
      injection e with e1 e2
      rcases hne with hne | hne
      · exact hne e1.symm
      · exact hne e2.symm)]
    exact hu
  have hr0 : w.heap.size + 1 < V.heap.size := by omega
  refine ⟨?_, setc _ _ _ (far _ _ _ h.c0 (lo _ (by omega))) (.inl (by omega)), setc _ _ _ (far _ _ _ h.c1 (lo _ (by omega))) (.inl (by omega)), setc _ _ _ (far _ _ _ h.c2 (lo _ (by omega))) (.inl (by omega)),
    setc _ _ _ (far _ _ _ h.r0 (lo _ (by omega))) (.inl (by omega)), setc _ _ _ (far _ _ _ h.r1 (lo _ (by omega))) (.inl (by omega)), setc _ _ _ (far _ _ _ h.r2 (lo _ (by omega))) (.inl (by omega)),
    froz_set (farf _ _ hr0 h.q0 (lo _ (by omega))) _ _, froz_set (farf _ _ hr0 h.q1 (lo _ (by omega))) _ _, froz_set (farf _ _ hr0 h.q2 (lo _ (by omega))) _ _,
    setc _ _ _ (far _ _ _ h.n0 h.s1) (.inr (by omega)), ?_, ?_, froz_set (farf _ _ hNB h.f1 h.s1) _ _, froz_set (farf _ _ hNB h.f2 h.s1) _ _, ?_, ?_, ?_, ?_, ?_, hN⟩
  · exact ((h.bb.trans (hW.mono h.bb.size)).grown hg (Nat.le_trans h.bb.size hsz) (fun j e => by have := (h.o1.lt j e).1; omega)).setCell (by show w.heap.size ≤ NB; omega) _
  · exact World.cell?_setCell_same _ _ _ (far _ _ _ h.n1 h.s1)
  · exact setc _ _ _ (far _ _ _ h.n2 h.s1) (.inr (by omega))
  · refine Own.set (NB := NB) (off := 1) ?_ (by simp [Value.ownBlock]; omega) _
    unfold Own
    rw [List.length_append, List.map_append]; exact hown
  · refine Own.set ((h.o2.keepB hW).kept hg ?_) h.s2 _
    by_cases e : v2.ownBlock = none
    · exact .inl e
    · right
      intro e'
      rcases hv : v2.ownBlock with _ | j
      · exact e hv
      · rw [hv] at e'
        exact h.ap j e'.symm hv
  · intro j hj
    have hj' : g = j := by simpa [Value.ownBlock] using hj
    subst hj'
    rcases hat with e | e
    · exact h.ap _ e
    · intro e'
      have := (h.o2.lt _ e').2
      omega
  · intro e
    have : g = NB := by simpa [Value.ownBlock] using e
    omega
  · exact h.s2

theorem NRel.app2 (h : NRel w len K Z NB v1 v2 xs ys L V) {W w1 : World} {x : Int} {g cap : Nat} (hW : Below V.heap.size V W)
    (hown : w1.ownsRow (w.heap.size + 2) 3 1 (.slice (some ⟨g, 0, none⟩) (ys.length + 1) cap) (ys.length + 1) (ys.map (Value.int .i64) ++ [.int .i64 x])) (hg : W.grownBy w1 v2.ownBlock) (hat : v2.ownBlock = some g ∨ g = W.heap.size) :
    NRel w len K Z NB v1 (.slice (some ⟨g, 0, none⟩) (ys.length + 1) cap) xs (ys ++ [x]) L (w1.setCell ⟨NB, 2, none⟩ (.slice (some ⟨g, 0, none⟩) (ys.length + 1) cap)) := by
  have hNB : NB < V.heap.size := lt_of_cell h.n0; have hsz : V.heap.size ≤ W.heap.size := hW.size
  have far : ∀ (b o : Nat) (u : Value), V.cell? ⟨b, o, none⟩ = some u → v2.ownBlock ≠ some b → w1.cell? ⟨b, o, none⟩ = some u := by
    intro b o u hu hne; have hb := lt_of_cell hu; rw [hg.cell_far ⟨b, o, none⟩ (Nat.lt_of_lt_of_le hb hsz) (fun e => hne e.symm), hW.cell (p := ⟨b, o, none⟩) hb]; exact hu
  have farf : ∀ (b o : Nat), b < V.heap.size → V.frozen? ⟨b, o, none⟩ = false → v2.ownBlock ≠ some b → w1.frozen? ⟨b, o, none⟩ = false := by
    intro b o hb hu hne; rw [hg.frozen_far ⟨b, o, none⟩ (Nat.lt_of_lt_of_le hb hsz) (fun e => hne e.symm), hW.frozen (p := ⟨b, o, none⟩) hb]; exact hu
  have lo : ∀ b, b < w.heap.size + 2 → v2.ownBlock ≠ some b := fun b hb e => by
    have := (h.o2.lt b e).1
    omega
  have hN := h.hN
  have hg2 : w.heap.size + 2 ≤ g ∧ g ≠ NB := by
    rcases hat with e | e
    · refine ⟨(h.o2.lt g e).1, fun e' => ?_⟩
      subst e'; exact h.s2 e
    · have := h.bb.size
      omega
  have setc : ∀ (b o : Nat) (u : Value), w1.cell? ⟨b, o, none⟩ = some u → (b ≠ NB ∨ o ≠ 2) → (w1.setCell ⟨NB, 2, none⟩ (.slice (some ⟨g, 0, none⟩) (ys.length + 1) cap)).cell? ⟨b, o, none⟩ = some u := by
    intro b o u hu hne
    rw [World.cell?_setCell_other _ _ _ _ (by
      intro e
      injection e with e1 e2
      rcases hne with hne | hne
      · exact hne e1.symm
      · exact hne e2.symm)]
    exact hu
  have hr0 : w.heap.size + 1 < V.heap.size := by omega
  refine ⟨?_, setc _ _ _ (far _ _ _ h.c0 (lo _ (by omega))) (.inl (by omega)), setc _ _ _ (far _ _ _ h.c1 (lo _ (by omega))) (.inl (by omega)), setc _ _ _ (far _ _ _ h.c2 (lo _ (by omega))) (.inl (by omega)),
    setc _ _ _ (far _ _ _ h.r0 (lo _ (by omega))) (.inl (by omega)), setc _ _ _ (far _ _ _ h.r1 (lo _ (by omega))) (.inl (by omega)), setc _ _ _ (far _ _ _ h.r2 (lo _ (by omega))) (.inl (by omega)),
    froz_set (farf _ _ hr0 h.q0 (lo _ (by omega))) _ _, froz_set (farf _ _ hr0 h.q1 (lo _ (by omega))) _ _, froz_set (farf _ _ hr0 h.q2 (lo _ (by omega))) _ _,
    setc _ _ _ (far _ _ _ h.n0 h.s2) (.inr (by omega)), ?_, ?_, froz_set (farf _ _ hNB h.f1 h.s2) _ _, froz_set (farf _ _ hNB h.f2 h.s2) _ _, ?_, ?_, ?_, ?_, ?_, hN⟩
  · exact ((h.bb.trans (hW.mono h.bb.size)).grown hg (Nat.le_trans h.bb.size hsz) (fun j e => by have := (h.o2.lt j e).1; omega)).setCell (by show w.heap.size ≤ NB; omega) _
  · exact setc _ _ _ (far _ _ _ h.n1 h.s2) (.inr (by omega))
  · exact World.cell?_setCell_same _ _ _ (far _ _ _ h.n2 h.s2)
  · refine Own.set ((h.o1.keepB hW).kept hg ?_) h.s1 _
    by_cases e : v1.ownBlock = none
    · exact .inl e
    · right
      intro e'
      rcases hv : v1.ownBlock with _ | j
      · exact e hv
      · rw [hv] at e'
        exact h.ap j hv e'.symm
  · refine Own.set (NB := NB) (off := 2) ?_ (by simp [Value.ownBlock]; omega) _
    unfold Own
    rw [List.length_append, List.map_append]; exact hown
  · intro j hj hj2
    have hj' : g = j := by simpa [Value.ownBlock] using hj2
    subst hj'
    rcases hat with e | e
    · exact h.ap _ hj e
    · have := (h.o1.lt _ hj).2
      omega
  · exact h.s1
  · intro e
    have : g = NB := by simpa [Value.ownBlock] using e
    omega
end
end Go.Proofs.YtmfnlapoefihkaaGreat
namespace Go.Proofs.YtmfnlapoefihkaaGreat
open Go.RowKit
theorem row_keep {w w' : World} {B : Nat} {e : TypeId} {sz n : Nat} {v : Value} {cs : List Value} (h : w.ownsRow B e sz v n cs) (hb : Below w.heap.size w w') : w'.ownsRow B e sz v n cs :=
  World.ownsRow.kept (row := none) h ⟨hb.os, hb.tape, hb.output, hb.size, fun k hk _ => hb.block k hk⟩ (by
    rcases v.ownBlock with _ | g
    · exact .inl rfl
    · exact .inr (by simp))
/-- A row of the call's own, and what lay before the call. -/
structure Acc (w : World) (B : Nat) (e : TypeId) (sz : Nat) (v : Value) (n : Nat) (cs : List Value) (V : World) : Prop where
  bb : Below B w V
  hB : B ≤ V.heap.size
  row : V.ownsRow B e sz v n cs
theorem Acc.app {w V W w1 : World} {B : Nat} {e : TypeId} {sz n n' : Nat} {v v' : Value} {cs cs' : List Value} (h : Acc w B e sz v n cs V) (hW : Below V.heap.size V W) (ho : w1.ownsRow B e sz v' n' cs') (hg : W.grownBy w1 v.ownBlock) : Acc w B e sz v' n' cs' w1 :=
  ⟨(h.bb.trans (hW.mono h.hB)).grown hg (Nat.le_trans h.hB hW.size) (fun j ej => (World.ownsRow.lt h.row j ej).1), Nat.le_trans h.hB (Nat.le_trans hW.size hg.size), ho⟩
theorem Acc.keep {w V W : World} {B : Nat} {e : TypeId} {sz n : Nat} {v : Value} {cs : List Value} (h : Acc w B e sz v n cs V) (hW : Below V.heap.size V W) : Acc w B e sz v n cs W :=
  ⟨h.bb.trans (hW.mono h.hB), Nat.le_trans h.hB hW.size, row_keep h.row hW⟩
end Go.Proofs.YtmfnlapoefihkaaGreat

