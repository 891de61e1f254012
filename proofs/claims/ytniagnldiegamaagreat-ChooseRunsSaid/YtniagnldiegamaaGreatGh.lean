/- Slices of ints of the call's own: what they hold, and what leaves them as they were; a cake that is filled by append. Rows of the call's own, and what lay before the call. -/
import Derived.Test.YtniagnldiegamaaGreatCheck
import Derived.Deep.AppendLies
import Derived.Deep.Onto
import Derived.OwnWalk
namespace Go.Proofs.YtniagnldiegamaaGreat
open Go.RowKit

/-- A slice of ints of the call's own, in a block from B on. -/
def Own (w : World) (B : Nat) (v : Value) (xs : List Int) : Prop := w.ownsRow B 3 1 v xs.length (xs.map (Value.int .i64))
theorem intInfo : (Tryz.prog.info? 3).map (fun i => (i.zero, i.size, i.bytes)) = some (some (.int .i64 0), 1, 8) := by kernel_rfl
theorem below_st {B : Nat} {a w : World} (h : Below B a w) {b o : Nat} (hb : B ≤ b) (u : Value) : Below B a (w.setCell ⟨b, o, none⟩ u) := h.setCell hb u
theorem Own.lt {w : World} {B : Nat} {v : Value} {xs : List Int} (h : Own w B v xs) : ∀ g, v.ownBlock = some g → B ≤ g ∧ g < w.heap.size := World.ownsRow.lt h
theorem Own.kept {w w' : World} {B : Nat} {v : Value} {xs : List Int} {row : Option Nat} (h : Own w B v xs) (hg : w.grownBy w' row) (hne : v.ownBlock = none ∨ v.ownBlock ≠ row) : Own w' B v xs := World.ownsRow.kept h hg hne
theorem Own.keepB {w w' : World} {B : Nat} {v : Value} {xs : List Int} (h : Own w B v xs) (hb : Below w.heap.size w w') : Own w' B v xs :=
  h.kept (row := none) ⟨hb.os, hb.tape, hb.output, hb.size, fun k hk _ => hb.block k hk⟩ (by
    rcases v.ownBlock with _ | g
    · exact .inl rfl
    · exact .inr (by simp))
theorem Own.set {w : World} {B : Nat} {v : Value} {xs : List Int} {NB off : Nat} (h : Own w B v xs) (hne : v.ownBlock ≠ some NB) (u : Value) : Own (w.setCell ⟨NB, off, none⟩ u) B v xs := by
  refine h.kept (row := some NB) ⟨rfl, rfl, rfl, by simp [World.setCell], fun k _ hk => Below.heap_setCell w ⟨NB, off, none⟩ u k (fun e => hk (by rw [e]))⟩ ?_; exact .inr hne
theorem Own.mono {w : World} {B B' : Nat} {v : Value} {xs : List Int} (h : Own w B v xs) (hb : B' ≤ B) : Own w B' v xs := World.ownsRow.mono h hb
theorem Own.form {w : World} {B : Nat} {v : Value} {xs : List Int} (h : Own w B v xs) : ∃ A cap, v = .slice A xs.length cap := by
  rcases h.2 with ⟨h1, h2⟩ | ⟨g, cap, cur, h1, _⟩
  · exact ⟨none, 0, by rw [h1, h2]⟩
  · exact ⟨_, _, h1⟩
/-- Read as a slice that came in. -/
theorem Own.isI {w : World} {B : Nat} {A : Option Addr} {n cap : Nat} {xs : List Int} (h : Own w B (.slice A n cap) xs) (hb : ∀ x ∈ xs, I64 x) : IsI w A xs := by
  refine ⟨fun h0 => ?_, hb⟩; obtain ⟨g, cap', hv, _, hlt⟩ := World.ownsRow.form h h0
  simp only [Value.slice.injEq] at hv
  obtain ⟨rfl, rfl, rfl⟩ := hv; refine ⟨g, 0, rfl, fun i hi => ?_⟩; have := World.ownsRow.cellAt h i (by omega); rw [Nat.zero_add, this, List.getElem?_map, List.getElem?_eq_getElem hi, Ck.at_lt hi]
  rfl

/-- A cake that is filled: its argument in the block w.heap.size, its result's zero behind it, the cake itself in the block NB. -/
structure NRel (w : World) (len : Int) (K Z : Value) (NB : Nat) (v1 v2 : Value) (xs ys : List Int) (L : Int) (V : World) : Prop where
  bb : Below w.heap.size w V
  c0 : V.cell? ⟨w.heap.size, 0, none⟩ = some (.int .i64 len)
  c1 : V.cell? ⟨w.heap.size, 1, none⟩ = some K
  c2 : V.cell? ⟨w.heap.size, 2, none⟩ = some Z
  r0 : V.cell? ⟨w.heap.size + 1, 0, none⟩ = some (.int .i64 0)
  r1 : V.cell? ⟨w.heap.size + 1, 1, none⟩ = some (.slice none 0 0)
  r2 : V.cell? ⟨w.heap.size + 1, 2, none⟩ = some (.slice none 0 0)
  q0 : V.frozen? ⟨w.heap.size + 1, 0, none⟩ = false
  q1 : V.frozen? ⟨w.heap.size + 1, 1, none⟩ = false
  q2 : V.frozen? ⟨w.heap.size + 1, 2, none⟩ = false
  n0 : V.cell? ⟨NB, 0, none⟩ = some (.int .i64 L)
  n1 : V.cell? ⟨NB, 1, none⟩ = some v1
  n2 : V.cell? ⟨NB, 2, none⟩ = some v2
  f1 : V.frozen? ⟨NB, 1, none⟩ = false
  f2 : V.frozen? ⟨NB, 2, none⟩ = false
  o1 : Own V (w.heap.size + 2) v1 xs
  o2 : Own V (w.heap.size + 2) v2 ys
  ap : ∀ g, v1.ownBlock = some g → v2.ownBlock ≠ some g
  s1 : v1.ownBlock ≠ some NB
  s2 : v2.ownBlock ≠ some NB
  hN : w.heap.size + 1 < NB
section
variable {w V : World} {len L : Int} {K Z v1 v2 : Value} {NB : Nat} {xs ys : List Int}
theorem NRel.drewN (h : NRel w len K Z NB v1 v2 xs ys L V) (n : Nat) : NRel w len K Z NB v1 v2 xs ys L (V.drewN n) :=
  ⟨below_drewN h.bb n, h.c0, h.c1, h.c2, h.r0, h.r1, h.r2, h.q0, h.q1, h.q2, h.n0, h.n1, h.n2, h.f1, h.f2, h.o1, h.o2, h.ap, h.s1, h.s2, h.hN⟩

end
end Go.Proofs.YtniagnldiegamaaGreat
namespace Go.Proofs.YtniagnldiegamaaGreat
open Go.RowKit
theorem row_keep {w w' : World} {B : Nat} {e : TypeId} {sz n : Nat} {v : Value} {cs : List Value} (h : w.ownsRow B e sz v n cs) (hb : Below w.heap.size w w') : w'.ownsRow B e sz v n cs :=
  World.ownsRow.kept (row := none) h ⟨hb.os, hb.tape, hb.output, hb.size, fun k hk _ => hb.block k hk⟩ (by
    rcases v.ownBlock with _ | g
    · exact .inl rfl
    · exact .inr (by simp))
/-- A row of the call's own, and what lay before the call. -/
structure Acc (w : World) (B : Nat) (e : TypeId) (sz : Nat) (v : Value) (n : Nat) (cs : List Value) (V : World) : Prop where
  bb : Below B w V
  hB : B ≤ V.heap.size
  row : V.ownsRow B e sz v n cs
theorem Acc.app {w V W w1 : World} {B : Nat} {e : TypeId} {sz n n' : Nat} {v v' : Value} {cs cs' : List Value} (h : Acc w B e sz v n cs V) (hW : Below V.heap.size V W) (ho : w1.ownsRow B e sz v' n' cs') (hg : W.grownBy w1 v.ownBlock) : Acc w B e sz v' n' cs' w1 :=
  ⟨(h.bb.trans (hW.mono h.hB)).grown hg (Nat.le_trans h.hB hW.size) (fun j ej => (World.ownsRow.lt h.row j ej).1), Nat.le_trans h.hB (Nat.le_trans hW.size hg.size), ho⟩
theorem Acc.keep {w V W : World} {B : Nat} {e : TypeId} {sz n : Nat} {v : Value} {cs : List Value} (h : Acc w B e sz v n cs V) (hW : Below V.heap.size V W) : Acc w B e sz v n cs W :=
  ⟨h.bb.trans (hW.mono h.hB), Nat.le_trans h.hB hW.size, row_keep h.row hW⟩
end Go.Proofs.YtniagnldiegamaaGreat

