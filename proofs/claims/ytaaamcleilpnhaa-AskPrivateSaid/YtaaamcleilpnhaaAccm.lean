/- Rows of the call's own, and what lay before the call. -/
import Derived.Test.YtaaamcleilpnhaaOwn
namespace Go.Proofs.Ytaaamcleilpnhaa
open Go.RowKit
theorem row_keep {w w' : World} {B : Nat} {e : TypeId} {sz n : Nat} {v : Value} {cs : List Value} (h : w.ownsRow B e sz v n cs) (hb : Below w.heap.size w w') : w'.ownsRow B e sz v n cs :=
  World.ownsRow.kept (row := none) h ⟨hb.os, hb.tape, hb.output, hb.size, fun k hk _ => hb.block k hk⟩ (by
    rcases v.ownBlock with _ | g
    · exact .inl rfl
    · exact .inr (by simp))
theorem row_form {w : World} {B : Nat} {e : TypeId} {sz n : Nat} {v : Value} {cs : List Value} (h : w.ownsRow B e sz v n cs) : ∃ A cap, v = .slice A n cap := by
  rcases h.2 with ⟨h1, h2⟩ | ⟨g, cap, cur, h1, _⟩
  · exact ⟨none, 0, by rw [h1, h2]⟩
  · exact ⟨_, _, h1⟩
/-- A row of the call's own, and what lay before the call. -/
structure Acc (w : World) (B : Nat) (e : TypeId) (sz : Nat) (v : Value) (n : Nat) (cs : List Value) (V : World) : Prop where
  bb : Below B w V
  hB : B ≤ V.heap.size
  row : V.ownsRow B e sz v n cs
theorem Acc.app {w V W w1 : World} {B : Nat} {e : TypeId} {sz n n' : Nat} {v v' : Value} {cs cs' : List Value} (h : Acc w B e sz v n cs V) (hW : Below V.heap.size V W) (ho : w1.ownsRow B e sz v' n' cs') (hg : W.grownBy w1 v.ownBlock) : Acc w B e sz v' n' cs' w1 :=
  ⟨(h.bb.trans (hW.mono h.hB)).grown hg (Nat.le_trans h.hB hW.size) (fun j ej => (World.ownsRow.lt h.row j ej).1), Nat.le_trans h.hB (Nat.le_trans hW.size hg.size), ho⟩
theorem Acc.keep {w V W : World} {B : Nat} {e : TypeId} {sz n : Nat} {v : Value} {cs : List Value} (h : Acc w B e sz v n cs V) (hW : Below V.heap.size V W) : Acc w B e sz v n cs W :=
  ⟨h.bb.trans (hW.mono h.hB), Nat.le_trans h.hB hW.size, row_keep h.row hW⟩
end Go.Proofs.Ytaaamcleilpnhaa
