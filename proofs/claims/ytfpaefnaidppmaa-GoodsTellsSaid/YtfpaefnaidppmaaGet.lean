/- A table of rows and a list, both of the call's own, made side by side. -/
import Derived.Test.YtfpaefnaidppmaaYf
namespace Go.Proofs.Ytfpaefnaidppmaa
open Go.RowKit
/-- k rows and m ints, in blocks from B on. -/
structure T3 (w W : World) (B n k m : Nat) (F : Nat → Nat → Int) (G : Nat → Int) (vv vl : Value) (H C : Nat → Nat) : Prop where
  tw : Tw w W B n k F vv H C
  ow : W.ownsRow B 3 1 vl m ((List.range m).map fun j => Value.int .i64 (G j))
  n1 : ∀ b, vl.ownBlock = some b → vv.ownBlock ≠ some b
  n2 : ∀ i, i < k → vl.ownBlock ≠ some (H i)
theorem T3.keep {w W W' : World} {B n k m : Nat} {F : Nat → Nat → Int} {G : Nat → Int} {vv vl : Value} {H C : Nat → Nat} (t : T3 w W B n k m F G vv vl H C) (hb : Below W.heap.size W W') : T3 w W' B n k m F G vv vl H C :=
  ⟨t.tw.keep hb, own_keepB t.ow hb, t.n1, t.n2⟩
/-- A row on its way besides. -/
structure T4 (w W : World) (B n k m : Nat) (F : Nat → Nat → Int) (G : Nat → Int) (vv vl : Value) (H C : Nat → Nat) (vr : Value) (y : Nat) : Prop where
  t : T3 w W B n k m F G vv vl H C
  ro : W.ownsRow B 3 1 vr y ((List.range y).map fun j => Value.int .i64 (F k j))
  d1 : ∀ b, vr.ownBlock = some b → vv.ownBlock ≠ some b
  d2 : ∀ b, vr.ownBlock = some b → vl.ownBlock ≠ some b
  d3 : ∀ i, i < k → vr.ownBlock ≠ some (H i)
theorem T4.start {w W : World} {B n k m : Nat} {F : Nat → Nat → Int} {G : Nat → Int} {vv vl : Value} {H C : Nat → Nat} (t : T3 w W B n k m F G vv vl H C) : T4 w W B n k m F G vv vl H C (.slice none 0 0) 0 :=
  ⟨t, World.ownsRow_nil _ _ _ _, fun b e => by simp [Value.ownBlock] at e, fun b e => by simp [Value.ownBlock] at e, fun i _ e => by simp [Value.ownBlock] at e⟩
theorem T4.keep {w W W' : World} {B n k m : Nat} {F : Nat → Nat → Int} {G : Nat → Int} {vv vl : Value} {H C : Nat → Nat} {vr : Value} {y : Nat} (t : T4 w W B n k m F G vv vl H C vr y) (hb : Below W.heap.size W W') : T4 w W' B n k m F G vv vl H C vr y :=
  ⟨t.t.keep hb, own_keepB t.ro hb, t.d1, t.d2, t.d3⟩
/-- An int more in the row. -/
theorem T4.app {w W W' : World} {B n k m g cap : Nat} {F : Nat → Nat → Int} {G : Nat → Int} {vv vl : Value} {H C : Nat → Nat} {vr : Value} {y : Nat} {o : Obj} (t : T4 w W B n k m F G vv vl H C vr y) (hg : (W.alloc o).grownBy W' vr.ownBlock)
    (hown : W'.ownsRow B 3 1 (.slice (some ⟨g, 0, none⟩) (y + 1) cap) (y + 1) (((List.range y).map fun j => Value.int .i64 (F k j)) ++ [.int .i64 (F k y)])) (hat : vr.ownBlock = some g ∨ g = W.heap.size + 1) :
    T4 w W' B n k m F G vv vl H C (.slice (some ⟨g, 0, none⟩) (y + 1) cap) (y + 1) := by
  have a := t.keep (below_al (Below.refl _ _) o)
  have hr : ∀ b, vr.ownBlock = some b → B ≤ b := fun b e => (World.ownsRow.lt t.ro b e).1
  have hvv : ∀ b, vv.ownBlock = some b → b < W.heap.size := fun b e => (World.ownsRow.lt t.t.tw.own b e).2
  have hvl : ∀ b, vl.ownBlock = some b → b < W.heap.size := fun b e => (World.ownsRow.lt t.t.ow b e).2
  have hh : ∀ i, i < k → H i < W.heap.size := fun i hi => (t.t.tw.rows i hi).2.lt
  have hown2 : ∀ b, (Value.slice (some ⟨g, 0, none⟩) (y + 1) cap).ownBlock = some b → b = g := fun b e => by
    have : g = b := by simpa [Value.ownBlock] using e
    exact this.symm
  refine ⟨⟨a.t.tw.grown hg hr (fun b e e2 => t.d1 b e2 e) (fun i hi => t.d3 i hi), own_grown a.t.ow hg (fun b e e2 => t.d2 b e2 e), t.t.n1, t.t.n2⟩, ?_, fun b e => ?_, fun b e => ?_, fun i hi e => ?_⟩
  · rw [List.range_succ, List.map_append]; exact hown
  · rw [hown2 b e]
    rcases hat with h | h
    · exact t.d1 g h
    · intro e2; have := hvv g e2; omega
  · rw [hown2 b e]
    rcases hat with h | h
    · exact t.d2 g h
    · intro e2; have := hvl g e2; omega
  · have e3 := hown2 _ e
    rcases hat with h | h
    · exact t.d3 i hi (by rw [h, e3])
    · have := hh i hi; omega
/-- The row is put into the table. -/
theorem T4.row {w W W' : World} {B n k m h c g cap : Nat} {F : Nat → Nat → Int} {G : Nat → Int} {vv vl : Value} {H C : Nat → Nat} {o : Obj} (t : T4 w W B n k m F G vv vl H C (.slice (some ⟨h, 0, none⟩) n c) n) (hn : n ≠ 0) (hg : (W.alloc o).grownBy W' vv.ownBlock)
    (hown : W'.ownsRow B 25 1 (.slice (some ⟨g, 0, none⟩) (k + 1) cap) (k + 1) (rvs n H C k ++ [.slice (some ⟨h, 0, none⟩) n c])) (hat : vv.ownBlock = some g ∨ g = W.heap.size + 1) :
    T3 w W' B n (k + 1) m F G (.slice (some ⟨g, 0, none⟩) (k + 1) cap) vl (fun i => if i = k then h else H i) (fun i => if i = k then c else C i) := by
  have a := t.keep (below_al (Below.refl _ _) o)
  have hbf := bfOf a.ro hn
  have hhB : B ≤ h := (World.ownsRow.lt t.ro h rfl).1
  have hvv : vv.ownBlock ≠ some h := t.d1 h rfl
  have hvl : ∀ b, vl.ownBlock = some b → b < W.heap.size := fun b e => (World.ownsRow.lt t.t.ow b e).2
  have hsz : (W.alloc o).heap.size = W.heap.size + 1 := by simp
  refine ⟨a.t.tw.app hhB hbf (fun i hi e => t.d3 i hi (by rw [e]; rfl)) hvv hg hown (by rw [hsz]; exact hat), own_grown a.t.ow hg (fun b e => t.t.n1 b e), fun b e e2 => ?_, fun i hi e => ?_⟩
  · have : g = b := by simpa [Value.ownBlock] using e2
    subst this
    rcases hat with h2 | h2
    · exact t.t.n1 g e h2
    · have := hvl g e; omega
  · by_cases ei : i = k
    · subst ei
      simp only [if_true] at e
      exact t.d2 h rfl e
    · simp only [if_neg ei] at e
      exact t.t.n2 i (by omega) e
/-- An int more in the list. -/
theorem T3.lst {w W W' : World} {B n k m g cap : Nat} {F : Nat → Nat → Int} {G : Nat → Int} {vv vl : Value} {H C : Nat → Nat} {o : Obj} (t : T3 w W B n k m F G vv vl H C) (hg : (W.alloc o).grownBy W' vl.ownBlock)
    (hown : W'.ownsRow B 3 1 (.slice (some ⟨g, 0, none⟩) (m + 1) cap) (m + 1) (((List.range m).map fun j => Value.int .i64 (G j)) ++ [.int .i64 (G m)])) (hat : vl.ownBlock = some g ∨ g = W.heap.size + 1) :
    T3 w W' B n k (m + 1) F G vv (.slice (some ⟨g, 0, none⟩) (m + 1) cap) H C := by
  have a := t.keep (below_al (Below.refl _ _) o)
  have hvv : ∀ b, vv.ownBlock = some b → b < W.heap.size := fun b e => (World.ownsRow.lt t.tw.own b e).2
  have hh : ∀ i, i < k → H i < W.heap.size := fun i hi => (t.tw.rows i hi).2.lt
  refine ⟨a.tw.grown hg (fun b e => (World.ownsRow.lt t.ow b e).1) (fun b e e2 => t.n1 b e2 e) (fun i hi => t.n2 i hi), ?_, fun b e e2 => ?_, fun i hi e => ?_⟩
  · rw [List.range_succ, List.map_append]; exact hown
  · have : g = b := by simpa [Value.ownBlock] using e
    subst this
    rcases hat with h2 | h2
    · exact t.n1 g h2 e2
    · have := hvv g e2; omega
  · have : g = H i := by simpa [Value.ownBlock] using e
    rcases hat with h2 | h2
    · exact t.n2 i hi (by rw [h2, this])
    · have := hh i hi; omega
theorem T3.nil (w : World) (n : Nat) (F : Nat → Nat → Int) (G : Nat → Int) (H C : Nat → Nat) : T3 w w w.heap.size n 0 0 F G (.slice none 0 0) (.slice none 0 0) H C :=
  ⟨Tw.nil w w w.heap.size n F H C (Below.refl _ _) ⟨Nat.le_refl _, Nat.le_refl _⟩, World.ownsRow_nil _ _ _ _, fun b e => by simp [Value.ownBlock] at e, fun i h => absurd h (by omega)⟩
theorem row_formT {w : World} {B : Nat} {e : TypeId} {sz n : Nat} {v : Value} {cs : List Value} (h : w.ownsRow B e sz v n cs) : ∃ A cap, v = .slice A n cap := by
  rcases h.2 with ⟨h1, h2⟩ | ⟨g, cap, cur, h1, _⟩
  · exact ⟨none, 0, by rw [h1, h2]⟩
  · exact ⟨_, _, h1⟩
end Go.Proofs.Ytfpaefnaidppmaa
