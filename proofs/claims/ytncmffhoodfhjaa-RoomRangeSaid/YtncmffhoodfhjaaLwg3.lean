/- Two lists of the call's own in two boxed leases, made int by int. -/
import Derived.Test.YtncmffhoodfhjaaLwg1
import Derived.Test.YtncmffhoodfhjaaYf
namespace Go.Proofs.Ytncmffhoodfhjaa
open Go.RowKit
theorem row_formL {w : World} {B : Nat} {e : TypeId} {sz n : Nat} {v : Value} {cs : List Value} (h : w.ownsRow B e sz v n cs) : ∃ A cap, v = .slice A n cap := by
  rcases h.2 with ⟨h1, h2⟩ | ⟨g, cap, cur, h1, _⟩
  · exact ⟨none, 0, by rw [h1, h2]⟩
  · exact ⟨_, _, h1⟩
/-- Boxes p and q hold leases whose prices are lists of the call's own. -/
structure Rx (w0 : World) (p q Bs : Nat) (H : Value) (N : Int) (F G : Nat → Int) (vx vy : Value) (k m : Nat) (W : World) : Prop where
  b : Below w0.heap.size w0 W
  bp : BK W p [H, vx, .int .i64 N]
  bq : BK W q [H, vy, .int .i64 N]
  op : W.ownsRow Bs 3 1 vx k ((List.range k).map fun i => Value.int .i64 (F i))
  oq : W.ownsRow Bs 3 1 vy m ((List.range m).map fun i => Value.int .i64 (G i))
  ne : ∀ g, vx.ownBlock = some g → vy.ownBlock ≠ some g
  lp : w0.heap.size ≤ p
  lq : w0.heap.size ≤ q
  pB : p < Bs
  qB : q < Bs
  pq : p ≠ q
  wB : Bs ≤ W.heap.size
theorem Rx.swap {w0 : World} {p q Bs : Nat} {H : Value} {N : Int} {F G : Nat → Int} {vx vy : Value} {k m : Nat} {W : World} (t : Rx w0 p q Bs H N F G vx vy k m W) : Rx w0 q p Bs H N G F vy vx m k W :=
  ⟨t.b, t.bq, t.bp, t.oq, t.op, fun g e1 e2 => t.ne g e2 e1, t.lq, t.lp, t.qB, t.pB, t.pq.symm, t.wB⟩
theorem Rx.keep {w0 : World} {p q Bs : Nat} {H : Value} {N : Int} {F G : Nat → Int} {vx vy : Value} {k m : Nat} {W W' : World} (t : Rx w0 p q Bs H N F G vx vy k m W) (hb : Below W.heap.size W W') : Rx w0 p q Bs H N F G vx vy k m W' :=
  ⟨keepB t.b hb, t.bp.keep hb, t.bq.keep hb, ownG_keepB t.op hb, ownG_keepB t.oq hb, t.ne, t.lp, t.lq, t.pB, t.qB, t.pq, Nat.le_trans t.wB hb.size⟩
theorem Rx.app {w0 : World} {p q Bs g cap : Nat} {H : Value} {N : Int} {F G : Nat → Int} {vx vy : Value} {k m : Nat} {W w6 : World} {o : Obj} (t : Rx w0 p q Bs H N F G vx vy k m W) (hg : (W.alloc o).grownBy w6 vx.ownBlock)
    (hown : w6.ownsRow Bs 3 1 (.slice (some ⟨g, 0, none⟩) (k + 1) cap) (k + 1) (((List.range k).map fun i => Value.int .i64 (F i)) ++ [.int .i64 (F k)])) (hat : vx.ownBlock = some g ∨ g = W.heap.size + 1) :
    Rx w0 p q Bs H N F G (.slice (some ⟨g, 0, none⟩) (k + 1) cap) vy (k + 1) m (w6.setCell ⟨p, 1, none⟩ (.slice (some ⟨g, 0, none⟩) (k + 1) cap)) := by
  have hgB : Bs ≤ g := (World.ownsRow.lt hown g rfl).1
  have hset := gby_setL w6 p 1 (.slice (some ⟨g, 0, none⟩) (k + 1) cap)
  have hxB : ∀ b, vx.ownBlock = some b → Bs ≤ b ∧ b < W.heap.size := fun b e => World.ownsRow.lt t.op b e
  have hyB : ∀ b, vy.ownBlock = some b → Bs ≤ b ∧ b < W.heap.size := fun b e => World.ownsRow.lt t.oq b e
  have hb6 : Below w0.heap.size w0 w6 := own_app rfl t.b (fun b e => by have := (hxB b e).1; have := t.lp; have := t.pB; omega) hg
  have hpB := t.pB
  have hqB := t.qB
  refine ⟨below_set hb6 t.lp _, ?_, ?_, ?_, ?_, ?_, t.lp, t.lq, t.pB, t.qB, t.pq, ?_⟩
  · exact ((t.bp.al o).grownT hg (fun e => by have := (hxB p e).1; omega)).set 1 _
  · exact ((t.bq.al o).grownT hg (fun e => by have := (hxB q e).1; omega)).far t.pq 1 _
  · rw [List.range_succ, List.map_append]
    exact ownG_grown hown hset (fun b hb2 => by
      have : g = b := by simpa [Value.ownBlock] using hb2
      intro e3; injection e3 with e3; omega)
  · have h1 := ownG_keepB t.oq (below_al (Below.refl _ _) o)
    have h2 := ownG_grown h1 hg (fun b hb2 e2 => t.ne b e2 hb2)
    exact ownG_grown h2 hset (fun b hb2 => by
      have := (hyB b hb2).1
      intro e3; injection e3 with e3; omega)
  · intro b e1 e2
    have hgb : g = b := by simpa [Value.ownBlock] using e1
    subst hgb
    rcases hat with h | h
    · exact t.ne g h e2
    · have := (hyB g e2).2
      omega
  · have h1 := (World.ownsRow.lt hown g rfl).2
    have h2 : (w6.setCell ⟨p, 1, none⟩ (.slice (some ⟨g, 0, none⟩) (k + 1) cap)).heap.size = w6.heap.size := by simp [World.setCell]
    rw [h2]
    omega
end Go.Proofs.Ytncmffhoodfhjaa
