/- The reference of layer 13: Link. -/
import Derived.Test.YtfpaefnaidppmaaYb
import Derived.Test.YtfpaefnaidppmaaYh
namespace Go.Proofs.Ytfpaefnaidppmaa
open Go.RowKit
/-- A block of n bools, to be written. -/
def BB (w : World) (g n : Nat) (S : Nat → Bool) : Prop := BK w g ((List.range n).map fun k => Value.bool (S k))
theorem BB.lt {w : World} {g n : Nat} {S : Nat → Bool} (h : BB w g n S) : g < w.heap.size := BK.lt h
theorem BB.c {w : World} {g n : Nat} {S : Nat → Bool} (h : BB w g n S) {k : Nat} (hk : k < n) : w.cell? ⟨g, k, none⟩ = some (.bool (S k)) := BK.c h k (by simp [hk])
theorem BB.f {w : World} {g n : Nat} {S : Nat → Bool} (h : BB w g n S) {k : Nat} (hk : k < n) : w.frozen? ⟨g, k, none⟩ = false := BK.f (x := .bool (S k)) h k (by simp [hk])
theorem BB.keep {v w : World} {g n : Nat} {S : Nat → Bool} (h : BB v g n S) (hb : Below v.heap.size v w) : BB w g n S := BK.keep h hb
theorem BB.cong {v : World} {g n : Nat} {S T : Nat → Bool} (h : BB v g n S) (e : ∀ k, k < n → S k = T k) : BB v g n T := by
  unfold BB at h ⊢
  have : (List.range n).map (fun k => Value.bool (T k)) = (List.range n).map (fun k => Value.bool (S k)) := List.map_congr_left fun k hk => by rw [e k (by simpa using hk)]
  rw [this]; exact h
theorem BB.set {v : World} {g n : Nat} {S : Nat → Bool} (h : BB v g n S) (k : Nat) (x : Bool) : BB (v.setCell ⟨g, k, none⟩ (.bool x)) g n (As.upd S k x) := by
  have hb := BK.set h k (.bool x)
  have e : ((List.range n).map fun k => Value.bool (S k)).set k (.bool x) = (List.range n).map (fun i => Value.bool (As.upd S k x i)) := List.ext_getElem (by simp) fun j h1 h2 => by
    simp only [List.getElem_set, List.getElem_map, List.getElem_range, As.upd]
    by_cases e : k = j
    · rw [if_pos e, if_pos e.symm]
    · rw [if_neg e, if_neg (fun x => e x.symm)]
  rw [e] at hb
  exact hb
theorem BB.new (v : World) (n : Nat) (t : TypeId) : BB (v.alloc (.cells (Array.replicate n (Value.bool false)) t)) v.heap.size n (fun _ => false) := by
  unfold BB
  have e : (List.range n).map (fun _ => Value.bool false) = List.replicate n (.bool false) := List.ext_getElem (by simp) fun k h1 h2 => by simp
  rw [e, ← List.toArray_replicate]
  exact BK.new _ _ _
theorem gby_trans {w W W' : World} {g : Nat} (h : w.grownBy W (some g)) (k : W.grownBy W' (some g)) : w.grownBy W' (some g) :=
  ⟨k.os.trans h.os, k.tape.trans h.tape, k.output.trans h.output, Nat.le_trans h.size k.size, fun b hb hne => (k.block b (Nat.lt_of_lt_of_le hb h.size) hne).trans (h.block b hb hne)⟩
theorem gby_drewN {w W : World} {g : Option Nat} (h : w.grownBy W g) (k : Nat) : w.grownBy (W.drewN k) g := ⟨h.os, h.tape, h.output, h.size, h.block⟩
theorem gby_drew {w W : World} {g : Option Nat} (h : w.grownBy W g) : w.grownBy W.drew g := ⟨h.os, h.tape, h.output, h.size, h.block⟩
theorem below_gby {w W W' : World} {g : Nat} (h : Below w.heap.size w W) (k : W.grownBy W' (some g)) (hg : w.heap.size ≤ g) : Below w.heap.size w W' := h.grown k h.size (fun j e => by injection e with e; omega)
/-- What Link gives. -/
def LinkQ (g n : Nat) (S : Nat → Bool) (r : Int) (w : World) (e : Ending) (w' : World) : Prop := e = .returned (.int .i64 r) ∧ w.grownBy w' (some g) ∧ BB w' g n S
end Go.Proofs.Ytfpaefnaidppmaa
