/- Slices of ints, and slices of such slices, that came in. Blocks of ints that are made and filled. Slices of ints of the call's own that grow. -/
import Derived.Test.YtfpaefnaidppmaaYa
import Derived.Test.YtfpaefnaidppmaaYb
import Derived.Deep.OwnRows
import Derived.Deep.AppendLies
import Derived.OwnWalk
namespace Go.Proofs.Ytfpaefnaidppmaa
open Go.ChangeShapes Go.WideShapes Go.ChangeAt Go.RowKit Go.Joins Go.Deep
theorem below_drewN {B : Nat} {a w : World} (h : Below B a w) (n : Nat) : Below B a (w.drewN n) := ⟨h.os, h.tape, h.output, h.size, h.block⟩
/-- A slice of ints. -/
def IsI (w : World) (A : Option Addr) (zs : List Int) : Prop :=
  (0 < zs.length → ∃ b off, A = some ⟨b, off, none⟩ ∧ ∀ i, i < zs.length → w.cell? ⟨b, off + i, none⟩ = some (.int .i64 (As.el zs i))) ∧ ∀ z ∈ zs, I64 z
theorem IsI.keep {w v : World} {A : Option Addr} {zs : List Int} (h : IsI w A zs) (hb : Below w.heap.size w v) : IsI v A zs :=
  ⟨fun h0 => by
    obtain ⟨b, off, e, hc⟩ := h.1 h0
    exact ⟨b, off, e, fun i hi => keepC hb (hc i hi)⟩, h.2⟩
theorem el_lt {zs : List Int} {k : Nat} (h : k < zs.length) : As.el zs k = zs[k] := by unfold As.el; simp [h]
theorem IsI.bd {w : World} {A : Option Addr} {zs : List Int} (h : IsI w A zs) (k : Nat) : I64 (As.el zs k) := by
  rcases Nat.lt_or_ge k zs.length with hk | hk
  · rw [el_lt hk]
    exact h.2 _ (List.getElem_mem hk)
  · unfold As.el
    rw [List.getD_eq_getElem?_getD, List.getElem?_eq_none hk]
    exact ⟨by decide, by decide⟩
/-- A slice of slices of ints. -/
def IsM (w : World) (A : Option Addr) (V : List (List Int)) : Prop :=
  (0 < V.length → ∃ b off, A = some ⟨b, off, none⟩ ∧ ∀ i, i < V.length → ∃ R c, w.cell? ⟨b, off + i, none⟩ = some (.slice R (V.getD i []).length c) ∧ (V.getD i []).length ≤ maxLen ∧ IsI w R (V.getD i []))
theorem IsM.keep {w v : World} {A : Option Addr} {V : List (List Int)} (h : IsM w A V) (hb : Below w.heap.size w v) : IsM v A V := fun h0 => by
  obtain ⟨b, off, e, hc⟩ := h h0
  refine ⟨b, off, e, fun i hi => ?_⟩
  obtain ⟨R, c, h1, h2, h3⟩ := hc i hi
  exact ⟨R, c, keepC hb h1, h2, h3.keep hb⟩
section
variable {H : Type} {enc : TypeId × Value → H} {P : Program} {w : World} {base : Nat} {spare : Nat → Bool} {held : Bool}
theorem open_ints_any {t e : TypeId} {fuel : Nat} {cs : List Value} {x : DataW H × List MemPlace} (ht : P.underlying t = some (.slice e)) (he : P.underlying e = some (.int .i64)) (hc : P.cellsOf e = 1)
    (h : DataW.trod enc P w base spare held fuel t cs = some x) : ∃ A cap zs, cs = [.slice A zs.length cap] ∧ zs.length ≤ maxLen ∧ IsI w A zs := by
  rcases open_ints ht he hc h with ⟨rfl, _⟩ | ⟨a, len, cap, zs, rfl, hb, hl, hm, hz, hx, hcell, hw⟩
  · exact ⟨none, 0, [], rfl, by simp, fun h => absurd h (by simp), by simp⟩
  · have hlz : len ≤ zs.length := by rw [hz]; split <;> omega
    have hlen : (zs.take len).length = len := by rw [List.length_take]; omega
    refine ⟨some a, cap, zs.take len, by rw [hlen], by rw [hlen]; omega, fun h0 => ?_, fun z hzm => wf_i64 (hw z (List.mem_of_mem_take hzm))⟩
    rw [hlen] at h0
    obtain ⟨b, off, spot⟩ := a
    have hspot : spot = none := by simpa [Addr.add] using World.cell?_spot (hcell 0 (by omega))
    subst hspot
    refine ⟨b, off, rfl, fun i hi => ?_⟩
    rw [hlen] at hi
    have := hcell i (by omega)
    rw [Addr.add_lit] at this
    rw [this]
    unfold As.el
    simp [List.getD_eq_getElem?_getD, hi]
theorem open_rows_any {t e q : TypeId} {fuel : Nat} {cs : List Value} {x : DataW H × List MemPlace} (ht : P.underlying t = some (.slice e)) (he : P.underlying e = some (.slice q)) (hq : P.underlying q = some (.int .i64)) (ce : P.cellsOf e = 1) (cq : P.cellsOf q = 1)
    (h : DataW.trod enc P w base spare held fuel t cs = some x) : ∃ A cap V, cs = [.slice A (V : List (List Int)).length cap] ∧ V.length ≤ maxLen ∧ IsM w A V := by
  rcases open_slice ht h with ⟨rfl, _⟩ | ⟨a, len, cap, m, n, D, Pl, rfl, hb, hl, hm, hmm, hx, hi⟩
  · exact ⟨none, 0, [], rfl, by simp, fun h => absurd h (by simp)⟩
  · have hml : len ≤ m := by rw [hmm]; split <;> omega
    rw [ce] at hi
    have key : ∀ i, i < len → ∃ y : List Int, ∃ R c, w.cell? (a.add i) = some (.slice R y.length c) ∧ y.length ≤ maxLen ∧ IsI w R y := by
      intro i hlt
      obtain ⟨cs', hc, ht'⟩ := hi i (by omega)
      obtain ⟨R, c, y, rfl, hyl, hI⟩ := open_ints_any he hq cq ht'
      obtain ⟨_, _, hat⟩ := World.cells?_some hc
      have h0 := hat 0 (by omega)
      rw [Nat.mul_one, Go.Deep.add_add, Nat.add_zero] at h0
      exact ⟨y, R, c, h0, hyl, hI⟩
    obtain ⟨f, hf⟩ := choose_lt key
    refine ⟨some a, cap, (List.range len).map f, by simp, by simp; omega, fun h0 => ?_⟩
    simp only [List.length_map, List.length_range] at h0
    obtain ⟨b, off, spot⟩ := a
    have hspot : spot = none := by
      obtain ⟨R, c, h1, _⟩ := hf 0 h0
      simpa [Addr.add] using World.cell?_spot h1
    subst hspot
    refine ⟨b, off, rfl, fun i hi' => ?_⟩
    simp only [List.length_map, List.length_range] at hi'
    have hg : ((List.range len).map f).getD i [] = f i := by simp [List.getD, hi']
    obtain ⟨R, c, h1, h2, h3⟩ := hf i hi'
    rw [Addr.add_lit] at h1
    rw [hg]
    exact ⟨R, c, h1, h2, h3⟩
end
section
variable {H : Type} {enc : TypeId × Value → H} {w : World} {base : Nat} {spare : Nat → Bool} {held : Bool}
theorem cellsInt : Try.prog.cellsOf 3 = 1 := by kernel_rfl
theorem cellsInts : Try.prog.cellsOf 25 = 1 := by kernel_rfl
set_option maxRecDepth 100000 in
theorem open_li {r : Reach} {b0 : Nat} {v : Value} {d : DataW H} {p : List MemPlace} (hv : Value.okWide Try.prog w r b0 25 v) (h : DataW.Trod enc Try.prog w base spare held 25 v d p) :
    ∃ A cap zs, v = .slice A zs.length cap ∧ zs.length ≤ maxLen ∧ IsI w A zs := by
  obtain ⟨a, len, cap, rfl⟩ := okWide_slice Try.underlying25 hv
  obtain ⟨fuel, hf⟩ := h
  obtain ⟨A, cap', xs, hcs, hm, hI⟩ := open_ints_any Try.underlying25 Try.underlying3 cellsInt hf
  simp [Value.cells] at hcs
  obtain ⟨rfl, rfl, rfl⟩ := hcs
  exact ⟨a, cap, xs, rfl, hm, hI⟩
set_option maxRecDepth 100000 in
theorem open_lli {r : Reach} {b0 : Nat} {v : Value} {d : DataW H} {p : List MemPlace} (hv : Value.okWide Try.prog w r b0 22 v) (h : DataW.Trod enc Try.prog w base spare held 22 v d p) :
    ∃ A cap V, v = .slice A (V : List (List Int)).length cap ∧ V.length ≤ maxLen ∧ IsM w A V := by
  obtain ⟨a, len, cap, rfl⟩ := okWide_slice Try.underlying22 hv
  obtain ⟨fuel, hf⟩ := h
  obtain ⟨A, cap', V, hcs, hm, hI⟩ := open_rows_any Try.underlying22 Try.underlying25 Try.underlying3 cellsInts cellsInt hf
  simp [Value.cells] at hcs
  obtain ⟨rfl, rfl, rfl⟩ := hcs
  exact ⟨a, cap, V, rfl, hm, hI⟩
end
end Go.Proofs.Ytfpaefnaidppmaa
namespace Go.Proofs.Ytfpaefnaidppmaa
open Go.RowKit
theorem ints_make (n : Nat) (hn : n ≤ 1000) (v : World) : Sem.run Try.prog (Instr.makeSlice 25 (.int .i64 (n : Int)) (.int .i64 (n : Int))) v = .ok (.slice (some ⟨v.heap.size, 0, none⟩) n n) (v.alloc (.cells (Array.replicate n (Value.int .i64 0)) 3)) := by
  have h := run_make_row' (P := Try.prog) 25 3 (.int .i64 0) 8 (by kernel_rfl) (by kernel_rfl) rfl .i64 .i64 n (by omega) (by omega) v
  have e : madeCells #[Value.int .i64 0] n = Array.replicate n (Value.int .i64 0) := by
    apply Array.ext
    · simp [madeCells]
    · intro i h1 h2
      simp [madeCells, Nat.mod_one]
  rw [e] at h
  exact h
/-- A block of n ints, to be written. -/
def BF (w : World) (g n : Nat) (F : Nat → Int) : Prop := BK w g ((List.range n).map fun k => Value.int .i64 (F k))
theorem BF.lt {w : World} {g n : Nat} {F : Nat → Int} (h : BF w g n F) : g < w.heap.size := BK.lt h
theorem BF.c {w : World} {g n : Nat} {F : Nat → Int} (h : BF w g n F) {k : Nat} (hk : k < n) : w.cell? ⟨g, k, none⟩ = some (.int .i64 (F k)) := BK.c h k (by simp [hk])
theorem BF.f {w : World} {g n : Nat} {F : Nat → Int} (h : BF w g n F) {k : Nat} (hk : k < n) : w.frozen? ⟨g, k, none⟩ = false := BK.f (x := .int .i64 (F k)) h k (by simp [hk])
theorem BF.keep {v w : World} {g n : Nat} {F : Nat → Int} (h : BF v g n F) (hb : Below v.heap.size v w) : BF w g n F := BK.keep h hb
theorem BF.drewN {v : World} {g n : Nat} {F : Nat → Int} (h : BF v g n F) (k : Nat) : BF (v.drewN k) g n F := BK.keep h (below_drewN (Below.refl _ _) k)
theorem BF.drew {v : World} {g n : Nat} {F : Nat → Int} (h : BF v g n F) : BF v.drew g n F := BK.keep h (Below.refl _ _).drew
theorem BF.al {v : World} {g n : Nat} {F : Nat → Int} (h : BF v g n F) (o : Obj) : BF (v.alloc o) g n F := BK.al h o
theorem BF.far {v : World} {g n : Nat} {F : Nat → Int} (h : BF v g n F) {q : Nat} (hne : q ≠ g) (o : Nat) (u : Value) : BF (v.setCell ⟨q, o, none⟩ u) g n F := BK.far h hne o u
theorem BF.cong {v : World} {g n : Nat} {F G : Nat → Int} (h : BF v g n F) (e : ∀ k, k < n → F k = G k) : BF v g n G := by
  unfold BF at h ⊢
  have : (List.range n).map (fun k => Value.int .i64 (G k)) = (List.range n).map (fun k => Value.int .i64 (F k)) := List.map_congr_left fun k hk => by rw [e k (by simpa using hk)]
  rw [this]; exact h
theorem BF.set {v : World} {g n : Nat} {F : Nat → Int} (h : BF v g n F) (k : Nat) (x : Int) : BF (v.setCell ⟨g, k, none⟩ (.int .i64 x)) g n (fun i => if i = k then x else F i) := by
  have hb := BK.set h k (.int .i64 x)
  have e : ((List.range n).map fun k => Value.int .i64 (F k)).set k (.int .i64 x) = (List.range n).map (fun i => Value.int .i64 (if i = k then x else F i)) := List.ext_getElem (by simp) fun j h1 h2 => by
    simp only [List.getElem_set, List.getElem_map, List.getElem_range]
    by_cases e : k = j
    · rw [if_pos e, if_pos e.symm]
    · rw [if_neg e, if_neg (fun x => e x.symm)]
  rw [e] at hb
  exact hb
theorem BF.new (v : World) (n : Nat) (t : TypeId) : BF (v.alloc (.cells (Array.replicate n (Value.int .i64 0)) t)) v.heap.size n (fun _ => 0) := by
  unfold BF
  have e : (List.range n).map (fun _ => Value.int .i64 0) = List.replicate n (.int .i64 0) := List.ext_getElem (by simp) fun k h1 h2 => by simp
  rw [e, ← List.toArray_replicate]
  exact BK.new _ _ _
/-- The list that a block holds. -/
def ml (n : Nat) (F : Nat → Int) : List Int := (List.range n).map F
theorem ml_len (n : Nat) (F : Nat → Int) : (ml n F).length = n := by simp [ml]
theorem el_ml {n : Nat} {F : Nat → Int} {k : Nat} (h : k < n) : As.el (ml n F) k = F k := by unfold As.el ml; simp [h]
theorem BF.isI {w : World} {g n : Nat} {F : Nat → Int} (h : BF w g n F) (hb : ∀ k, k < n → I64 (F k)) : IsI w (some ⟨g, 0, none⟩) (ml n F) := by
  refine ⟨fun _ => ⟨g, 0, rfl, fun i hi => ?_⟩, fun z hz => ?_⟩
  · rw [ml_len] at hi
    rw [Nat.zero_add, el_ml hi]
    exact h.c hi
  · obtain ⟨k, hk, rfl⟩ := List.mem_map.1 hz
    exact hb k (by simpa using hk)
end Go.Proofs.Ytfpaefnaidppmaa
namespace Go.Proofs.Ytfpaefnaidppmaa
open Go.RowKit
/-- A slice of ints of the call's own, in a block from B on. -/
def Own (w : World) (B : Nat) (v : Value) (xs : List Int) : Prop := w.ownsRow B 3 1 v xs.length (xs.map (Value.int .i64))
theorem intInfo : (Try.prog.info? 3).map (fun i => (i.zero, i.size, i.bytes)) = some (some (.int .i64 0), 1, 8) := by kernel_rfl
theorem Own.nil_ (w : World) (B : Nat) : Own w B (.slice none 0 0) [] := World.ownsRow_nil w B _ 1
theorem Own.lt {w : World} {B : Nat} {v : Value} {xs : List Int} (h : Own w B v xs) : ∀ g, v.ownBlock = some g → B ≤ g ∧ g < w.heap.size := World.ownsRow.lt h
theorem Own.kept {w w' : World} {B : Nat} {v : Value} {xs : List Int} {row : Option Nat} (h : Own w B v xs) (hg : w.grownBy w' row) (hne : v.ownBlock = none ∨ v.ownBlock ≠ row) : Own w' B v xs := World.ownsRow.kept h hg hne
theorem Own.keepB {w w' : World} {B : Nat} {v : Value} {xs : List Int} (h : Own w B v xs) (hb : Below w.heap.size w w') : Own w' B v xs :=
  h.kept (row := none) ⟨hb.os, hb.tape, hb.output, hb.size, fun k hk _ => hb.block k hk⟩ (by
    rcases v.ownBlock with _ | g
    · exact .inl rfl
    · exact .inr (by simp))
theorem Own.form {w : World} {B : Nat} {v : Value} {xs : List Int} (h : Own w B v xs) : ∃ A cap, v = .slice A xs.length cap := by
  rcases h.2 with ⟨h1, h2⟩ | ⟨g, cap, cur, h1, _⟩
  · exact ⟨none, 0, by rw [h1, h2]⟩
  · exact ⟨_, _, h1⟩
/-- Read as a slice that came in. -/
theorem Own.isI {w : World} {B : Nat} {A : Option Addr} {n cap : Nat} {xs : List Int} (h : Own w B (.slice A n cap) xs) (hb : ∀ x ∈ xs, I64 x) : IsI w A xs := by
  refine ⟨fun h0 => ?_, hb⟩
  obtain ⟨g, cap', hv, _, hlt⟩ := World.ownsRow.form h h0
  simp only [Value.slice.injEq] at hv
  obtain ⟨rfl, rfl, rfl⟩ := hv
  refine ⟨g, 0, rfl, fun i hi => ?_⟩
  have := World.ownsRow.cellAt h i (by omega)
  rw [Nat.zero_add, this, List.getElem?_map, List.getElem?_eq_getElem hi, el_lt hi]
  rfl
theorem BF.grown {W W' : World} {g n : Nat} {F : Nat → Int} {row : Option Nat} (h : BF W g n F) (hg : W.grownBy W' row) (hne : row ≠ some g) : BF W' g n F := by
  have hlt := h.lt
  have hb := hg.block g hlt hne.symm
  refine ⟨Nat.lt_of_lt_of_le hlt hg.size, fun j x e => ?_⟩
  have := BK.c h j e
  have h2 := BK.f h j e
  unfold World.cell? at this ⊢
  unfold World.frozen? at h2 ⊢
  dsimp only at this h2 ⊢
  rw [hb]
  exact ⟨this, h2⟩
end Go.Proofs.Ytfpaefnaidppmaa
