/- Blocks of ints that are made and filled. -/
import Derived.Test.YtpiolhjiflohgaaIb
import Derived.Deep.OwnRows
namespace Go.Proofs.Ytpiolhjiflohgaa
open Go.RowKit
theorem ints_make (n : Nat) (hn : n ≤ 1000) (v : World) : Sem.run Try.prog (Instr.makeSlice 26 (.int .i64 (n : Int)) (.int .i64 (n : Int))) v = .ok (.slice (some ⟨v.heap.size, 0, none⟩) n n) (v.alloc (.cells (Array.replicate n (Value.int .i64 0)) 3)) := by
  have h := run_make_row' (P := Try.prog) 26 3 (.int .i64 0) 8 (by kernel_rfl) (by kernel_rfl) rfl .i64 .i64 n (by omega) (by omega) v
  have e : madeCells #[Value.int .i64 0] n = Array.replicate n (Value.int .i64 0) := by
    apply Array.ext
    · simp [madeCells]
    · intro i h1 h2
      simp [madeCells, Nat.mod_one]
  rw [e] at h
  exact h
/-- A block of n ints, to be written. -/
def BF (w : World) (g n : Nat) (F : Nat → Int) : Prop := BK w g ((List.range n).map fun k => Value.int .i64 (F k))
theorem BF.lt {w : World} {g n : Nat} {F : Nat → Int} (h : BF w g n F) : g < w.heap.size := BK.lt h
theorem BF.c {w : World} {g n : Nat} {F : Nat → Int} (h : BF w g n F) {k : Nat} (hk : k < n) : w.cell? ⟨g, k, none⟩ = some (.int .i64 (F k)) := BK.c h k (by simp [hk])
theorem BF.f {w : World} {g n : Nat} {F : Nat → Int} (h : BF w g n F) {k : Nat} (hk : k < n) : w.frozen? ⟨g, k, none⟩ = false := BK.f (x := .int .i64 (F k)) h k (by simp [hk])
theorem BF.keep {v w : World} {g n : Nat} {F : Nat → Int} (h : BF v g n F) (hb : Below v.heap.size v w) : BF w g n F := BK.keep h hb
theorem BF.drewN {v : World} {g n : Nat} {F : Nat → Int} (h : BF v g n F) (k : Nat) : BF (v.drewN k) g n F := BK.keep h (below_drewN (Below.refl _ _) k)
theorem BF.drew {v : World} {g n : Nat} {F : Nat → Int} (h : BF v g n F) : BF v.drew g n F := BK.keep h (Below.refl _ _).drew
theorem BF.al {v : World} {g n : Nat} {F : Nat → Int} (h : BF v g n F) (o : Obj) : BF (v.alloc o) g n F := BK.al h o
theorem BF.far {v : World} {g n : Nat} {F : Nat → Int} (h : BF v g n F) {q : Nat} (hne : q ≠ g) (o : Nat) (u : Value) : BF (v.setCell ⟨q, o, none⟩ u) g n F := BK.far h hne o u
theorem BF.cong {v : World} {g n : Nat} {F G : Nat → Int} (h : BF v g n F) (e : ∀ k, k < n → F k = G k) : BF v g n G := by
  unfold BF at h ⊢
  have : (List.range n).map (fun k => Value.int .i64 (G k)) = (List.range n).map (fun k => Value.int .i64 (F k)) := List.map_congr_left fun k hk => by rw [e k (by simpa using hk)]
  rw [this]; exact h
theorem BF.set {v : World} {g n : Nat} {F : Nat → Int} (h : BF v g n F) (k : Nat) (x : Int) : BF (v.setCell ⟨g, k, none⟩ (.int .i64 x)) g n (fun i => if i = k then x else F i) := by
  have hb := BK.set h k (.int .i64 x)
  have e : ((List.range n).map fun k => Value.int .i64 (F k)).set k (.int .i64 x) = (List.range n).map (fun i => Value.int .i64 (if i = k then x else F i)) := List.ext_getElem (by simp) fun j h1 h2 => by
    simp only [List.getElem_set, List.getElem_map, List.getElem_range]
    by_cases e : k = j
    · rw [if_pos e, if_pos e.symm]
    · rw [if_neg e, if_neg (fun x => e x.symm)]
  rw [e] at hb
  exact hb
theorem BF.new (v : World) (n : Nat) (t : TypeId) : BF (v.alloc (.cells (Array.replicate n (Value.int .i64 0)) t)) v.heap.size n (fun _ => 0) := by
  unfold BF
  have e : (List.range n).map (fun _ => Value.int .i64 0) = List.replicate n (.int .i64 0) := List.ext_getElem (by simp) fun k h1 h2 => by simp
  rw [e, ← List.toArray_replicate]
  exact BK.new _ _ _
/-- The list that a block holds. -/
def ml (n : Nat) (F : Nat → Int) : List Int := (List.range n).map F
theorem ml_len (n : Nat) (F : Nat → Int) : (ml n F).length = n := by simp [ml]
theorem el_ml {n : Nat} {F : Nat → Int} {k : Nat} (h : k < n) : As.el (ml n F) k = F k := by unfold As.el ml; simp [h]
theorem BF.isI {w : World} {g n : Nat} {F : Nat → Int} (h : BF w g n F) (hb : ∀ k, k < n → I64 (F k)) : IsI w (some ⟨g, 0, none⟩) (ml n F) := by
  refine ⟨fun _ => ⟨g, 0, rfl, fun i hi => ?_⟩, fun z hz => ?_⟩
  · rw [ml_len] at hi
    rw [Nat.zero_add, el_ml hi]
    exact h.c hi
  · obtain ⟨k, hk, rfl⟩ := List.mem_map.1 hz
    exact hb k (by simpa using hk)
end Go.Proofs.Ytpiolhjiflohgaa
