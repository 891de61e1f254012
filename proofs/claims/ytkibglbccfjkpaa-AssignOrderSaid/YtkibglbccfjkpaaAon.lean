/- AssignOrder: what holds in its loops. -/
import Derived.Test.YtkibglbccfjkpaaAom
namespace Go.Proofs.Ytkibglbccfjkpaa
open Go.RowKit
/-- A store below the rows. -/
theorem Tw.under {w W : World} {B n m q o : Nat} {F : Nat → Nat → Int} {v : Value} {H C : Nat → Nat} (t : Tw w W B n m F v H C) (hq : w.heap.size ≤ q) (hB : q < B) (x : Value) : Tw w (W.setCell ⟨q, o, none⟩ x) B n m F v H C := by
  have hg : W.grownBy (W.setCell ⟨q, o, none⟩ x) (some q) := ⟨rfl, rfl, rfl, by simp [World.setCell], fun b _ hb => Below.heap_setCell W ⟨q, o, none⟩ _ b (fun e => hb (by rw [e]))⟩
  refine ⟨t.bb.setCell hq _, ⟨t.hB.1, by rw [World.size_setCell]; exact t.hB.2⟩, own_grown t.own hg (fun b hb e => ?_), fun r hr => ⟨(t.rows r hr).1, (t.rows r hr).2.far ?_ _ _⟩, t.ds, t.top⟩
  · have := (World.ownsRow.lt t.own b hb).1
    injection e with e; omega
  · have := (t.rows r hr).1
    omega
/-- Both tables: the grown one below B2, the other one from B2 on. -/
structure Og (w W : World) (V : List (List Int)) (ord : List Nat) (it : Nat) (more : Int) (B1 B2 k kp : Nat) (v1 v2 : Value) (H1 C1 H2 C2 : Nat → Nat) : Prop where
  g : Tw w W B1 V.length V.length (fun i j => if i < k ∧ j = it then As.vl V i j + more else As.vl V i j) v1 H1 C1
  p : Tw w W B2 V.length kp (fun i j => As.vl V i (ord.getD j 0)) v2 H2 C2
  s1 : ∀ i, i < V.length → H1 i < B2
  s2 : ∀ b, v1.ownBlock = some b → b < B2
  b12 : B1 ≤ B2
section
variable {w W W' : World} {V : List (List Int)} {ord : List Nat} {it : Nat} {more : Int} {B1 B2 k kp : Nat} {v1 v2 : Value} {H1 C1 H2 C2 : Nat → Nat}
theorem Og.keep (h : Og w W V ord it more B1 B2 k kp v1 v2 H1 C1 H2 C2) (hb : Below W.heap.size W W') : Og w W' V ord it more B1 B2 k kp v1 v2 H1 C1 H2 C2 := ⟨h.g.keep hb, h.p.keep hb, h.s1, h.s2, h.b12⟩
/-- Both tables, with a row that is being made behind all of them: from B3 on. -/
structure Or (w W : World) (V : List (List Int)) (ord : List Nat) (it : Nat) (more : Int) (B1 B2 B3 k m : Nat) (v1 v2 v3 : Value) (H1 C1 H2 C2 : Nat → Nat) : Prop where
  og : Og w W V ord it more B1 B2 k k v1 v2 H1 C1 H2 C2
  hB : B2 ≤ B3 ∧ B3 ≤ W.heap.size
  t1 : ∀ i, i < k → H2 i < B3
  t2 : ∀ b, v2.ownBlock = some b → b < B3
  own : W.ownsRow B3 3 1 v3 m ((List.range m).map fun j => Value.int .i64 (As.vl V k (ord.getD j 0)))
theorem Or.new (h : Og w W V ord it more B1 B2 k k v1 v2 H1 C1 H2 C2) : Or w W V ord it more B1 B2 W.heap.size k 0 v1 v2 (.slice none 0 0) H1 C1 H2 C2 :=
  ⟨h, ⟨h.p.hB.2, Nat.le_refl _⟩, fun i hi => (h.p.rows i hi).2.lt, fun b hb => (World.ownsRow.lt h.p.own b hb).2, World.ownsRow_nil _ _ _ _⟩
variable {B3 m : Nat} {v3 : Value}
theorem Or.keep (h : Or w W V ord it more B1 B2 B3 k m v1 v2 v3 H1 C1 H2 C2) (hb : Below W.heap.size W W') : Or w W' V ord it more B1 B2 B3 k m v1 v2 v3 H1 C1 H2 C2 :=
  ⟨h.og.keep hb, ⟨h.hB.1, Nat.le_trans h.hB.2 hb.size⟩, h.t1, h.t2, own_keepB h.own hb⟩
/-- A number more in the row. -/
theorem Or.app {g cap : Nat} (h : Or w W V ord it more B1 B2 B3 k m v1 v2 v3 H1 C1 H2 C2) (hg : W.grownBy W' v3.ownBlock) (hown : W'.ownsRow B3 3 1 (.slice (some ⟨g, 0, none⟩) (m + 1) cap) (m + 1) ((List.range m).map (fun j => Value.int .i64 (As.vl V k (ord.getD j 0))) ++ [.int .i64 (As.vl V k (ord.getD m 0))])) :
    Or w W' V ord it more B1 B2 B3 k (m + 1) v1 v2 (.slice (some ⟨g, 0, none⟩) (m + 1) cap) H1 C1 H2 C2 := by
  have hlt := World.ownsRow.lt h.own
  have hB := h.hB
  refine ⟨⟨h.og.g.grown hg (fun b e => ?_) (fun b e1 e2 => ?_) (fun i hi e => ?_), h.og.p.grown hg (fun b e => ?_) (fun b e1 e2 => ?_) (fun i hi e => ?_), h.og.s1, h.og.s2, h.og.b12⟩, ⟨hB.1, Nat.le_trans hB.2 hg.size⟩, h.t1, h.t2, ?_⟩
  · have h1 := (hlt b e).1
    exact Nat.le_trans h.og.b12 (Nat.le_trans hB.1 h1)
  · have h1 := (hlt b e2).1
    have := h.og.s2 b e1
    omega
  · have h1 := (hlt _ e).1
    have := h.og.s1 i hi
    omega
  · have h1 := (hlt b e).1
    omega
  · have h1 := (hlt b e2).1
    have := h.t2 b e1
    omega
  · have h1 := (hlt _ e).1
    have := h.t1 i hi
    omega
  · rw [List.range_succ, List.map_append]; exact hown
/-- The row is put into the table. -/
theorem Or.row {h c g cap : Nat} {o : Obj} (t : Or w W V ord it more B1 B2 B3 k V.length v1 v2 (.slice (some ⟨h, 0, none⟩) V.length c) H1 C1 H2 C2) (h0 : 0 < V.length)
    (hg : (W.alloc o).grownBy W' v2.ownBlock) (hown : W'.ownsRow B2 25 1 (.slice (some ⟨g, 0, none⟩) (k + 1) cap) (k + 1) (rvs V.length H2 C2 k ++ [.slice (some ⟨h, 0, none⟩) V.length c])) (hat : v2.ownBlock = some g ∨ g = W.heap.size + 1) :
    Og w W' V ord it more B1 B2 k (k + 1) v1 (.slice (some ⟨g, 0, none⟩) (k + 1) cap) H1 C1 (fun i => if i = k then h else H2 i) (fun i => if i = k then c else C2 i) := by
  have tk := t.keep (below_al (Below.refl _ _) o)
  obtain ⟨g', cap', hv, hb3, _, hbk⟩ := own_block t.own h0
  simp only [Value.slice.injEq, Option.some.injEq, Addr.mk.injEq] at hv
  obtain ⟨⟨rfl, -, -⟩, -, rfl⟩ := hv
  have hbf : BF W h V.length (fun j => As.vl V k (ord.getD j 0)) := hbk
  have hlt2 := World.ownsRow.lt t.og.p.own
  have hB := t.hB
  refine ⟨tk.og.g.grown hg (fun b e => ?_) (fun b e1 e2 => ?_) (fun i hi e => ?_), tk.og.p.app (Nat.le_trans hB.1 hb3) (hbf.al o) (fun i hi => ?_) (fun e => ?_) hg hown (by simpa using hat), t.og.s1, t.og.s2, t.og.b12⟩
  · exact Nat.le_trans t.og.b12 (hlt2 b e).1
  · have := (hlt2 b e2).1
    have := t.og.s2 b e1
    omega
  · have := (hlt2 _ e).1
    have := t.og.s1 i hi
    omega
  · have := t.t1 i hi
    omega
  · have := t.t2 h e
    omega
/-- The grown table's number is stored. -/
theorem Og.put (t : Og w W V ord it more B1 B2 k (k + 1) v1 v2 H1 C1 H2 C2) (hk : k < V.length) : Og w (W.setCell ⟨H1 k, it, none⟩ (.int .i64 (As.vl V k it + more))) V ord it more B1 B2 (k + 1) (k + 1) v1 v2 H1 C1 H2 C2 := by
  have hw := t.g.hB.1
  have h1 := (t.g.rows k hk).1
  refine ⟨(t.g.set hk _).cong fun i j hi hj => ?_, t.p.under (Nat.le_trans hw h1) (t.s1 k hk) _, t.s1, t.s2, t.b12⟩
  by_cases e1 : i = k
  · subst e1
    by_cases e2 : j = it
    · subst e2
      rw [if_pos ⟨rfl, rfl⟩, if_pos ⟨by omega, rfl⟩]
    · rw [if_neg (fun h => e2 h.2), if_neg (fun h => e2 h.2), if_neg (fun h => e2 h.2)]
  · rw [if_neg (fun h => e1 h.1)]
    by_cases e2 : i < k ∧ j = it
    · rw [if_pos e2, if_pos ⟨by omega, e2.2⟩]
    · rw [if_neg e2, if_neg (fun h => e2 ⟨by omega, h.2⟩)]
end
end Go.Proofs.Ytkibglbccfjkpaa
