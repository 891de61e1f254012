/- The chapter's examples of layer 4 hold. What the examples of layer 4 answer. -/
import Derived.Test.YtniagnldiegamaaGreatGk
import Derived.Test.YtniagnldiegamaaGreatGl
namespace Go.Proofs.YtniagnldiegamaaGreat
open Go.RowKit
/-- Blocks from B on, below the end of Wd, lie as they lay there. -/
structure Mid (B : Nat) (Wd W : World) : Prop where
  size : Wd.heap.size ≤ W.heap.size
  block : ∀ k, B ≤ k → k < Wd.heap.size → W.heap[k]? = Wd.heap[k]?
section
variable {Wd W W' : World} {B : Nat}
theorem Mid.refl (B : Nat) (Wd : World) : Mid B Wd Wd := ⟨Nat.le_refl _, fun _ _ _ => rfl⟩
theorem Mid.call (h : Mid B Wd W) (hb : Below W.heap.size W W') : Mid B Wd W' := ⟨Nat.le_trans h.size hb.size, fun k h1 h2 => (hb.block k (Nat.lt_of_lt_of_le h2 h.size)).trans (h.block k h1 h2)⟩
theorem Mid.al (h : Mid B Wd W) (o : Obj) : Mid B Wd (W.alloc o) := h.call (below_al (Below.refl _ _) o)
theorem Mid.set (h : Mid B Wd W) {p o : Nat} (hp : p < B ∨ Wd.heap.size ≤ p) (x : Value) : Mid B Wd (W.setCell ⟨p, o, none⟩ x) :=
  ⟨by rw [World.size_setCell]; exact h.size, fun k h1 h2 => (Below.heap_setCell W ⟨p, o, none⟩ x k (fun e => by
    have e : k = p := e
    omega)).trans (h.block k h1 h2)⟩
theorem row_mid {sz n : Nat} {e : TypeId} {v : Value} {cs : List Value} (h : Wd.ownsRow B e sz v n cs) (hm : Mid B Wd W) : W.ownsRow B e sz v n cs := by
  refine ⟨h.1, ?_⟩
  rcases h.2 with h2 | ⟨g, cap, cur, h1, h2, h3, h4, h5, h6⟩
  · exact .inl h2
  · refine .inr ⟨g, cap, cur, h1, h2, ?_, h4, h5, h6⟩
    rw [hm.block g h2 (Array.getElem?_eq_some_iff.1 h3).1]; exact h3
theorem IsG.mid {row : Option Nat} {A : Option Addr} {zs : List Int} (h : IsG Wd B row A zs) (hm : Mid B Wd W) : IsG W B row A zs :=
  ⟨fun h0 => by
    obtain ⟨g, off, e, h1, h2, hc⟩ := h.1 h0
    exact ⟨g, off, e, h1, h2, fun i hi => (World.cell?_of_block (hm.block g h1 (lt_of_cell (hc i hi)))).trans (hc i hi)⟩, h.2⟩
theorem FD.mid {A : Option Addr} {ca : Nat} {l : List CkR} {Q : Option Addr} {cq : Nat} {qs : List Qr} (h : FD Wd B A ca l Q cq qs) (hm : Mid B Wd W) : FD W B A ca l Q cq qs :=
  ⟨row_mid h.row hm, fun c hc => ⟨(h.all c hc).1, (h.all c hc).2.1, (h.all c hc).2.2.1.mid hm, (h.all c hc).2.2.2.mid hm⟩, row_mid h.log hm, h.q64, h.lc, h.lq⟩
end
end Go.Proofs.YtniagnldiegamaaGreat
namespace Go.Proofs.YtniagnldiegamaaGreat
open Go.RowKit
theorem PL {α : Type} : ((∀ (xs : List α) (i : Nat) (h : i < xs.toArray.size), xs.toArray[i] = xs[i]'(by simpa using h)) ∧ (∀ (a : α) (zs : List α) (i : Nat) (h : i + 1 < (a :: zs).length), (a :: zs)[i + 1] = zs[i]'(by simpa using h)) ∧ (∀ (a : α) (zs : List α) (h : 0 < (a :: zs).length), (a :: zs)[0] = a)) ∧ (∀ (l : List α) (i : Nat) (v : α), l.toArray.setIfInBounds i v = (l.set i v).toArray) ∧ (∀ (x : α) (xs : List α) (a : α), (x :: xs).set 0 a = a :: xs) ∧ (∀ (x : α) (xs : List α) (n : Nat) (a : α), (x :: xs).set (n + 1) a = x :: xs.set n a) :=
  ⟨⟨fun _ _ _ => rfl, fun _ _ _ _ => rfl, fun _ _ _ => rfl⟩, fun _ _ _ => by simp, fun _ _ _ => rfl, fun _ _ _ _ => rfl⟩
theorem Ak.at_worldK {K : Act → World → Prop} {a : Act} {w : World} (S : World → Prop) (h : S w) (k : ∀ V, S V → K a V) : K a w := k w h
end Go.Proofs.YtniagnldiegamaaGreat

