/- Slices of ints, and slices of such slices, that came in. -/
import Derived.Test.YtpiolhjiflohgaaOpen
import Derived.Test.YtpiolhjiflohgaaTree
import Derived.Test.YtpiolhjiflohgaaAsm
namespace Go.Proofs.Ytpiolhjiflohgaa
open Go.ChangeShapes Go.WideShapes Go.ChangeAt Go.RowKit Go.Joins Go.Deep
theorem below_drewN {B : Nat} {a w : World} (h : Below B a w) (n : Nat) : Below B a (w.drewN n) := ⟨h.os, h.tape, h.output, h.size, h.block⟩
/-- A slice of ints. -/
def IsI (w : World) (A : Option Addr) (zs : List Int) : Prop :=
  (0 < zs.length → ∃ b off, A = some ⟨b, off, none⟩ ∧ ∀ i, i < zs.length → w.cell? ⟨b, off + i, none⟩ = some (.int .i64 (As.el zs i))) ∧ ∀ z ∈ zs, I64 z
theorem IsI.keep {w v : World} {A : Option Addr} {zs : List Int} (h : IsI w A zs) (hb : Below w.heap.size w v) : IsI v A zs :=
  ⟨fun h0 => by
    obtain ⟨b, off, e, hc⟩ := h.1 h0
    exact ⟨b, off, e, fun i hi => keepC hb (hc i hi)⟩, h.2⟩
theorem el_lt {zs : List Int} {k : Nat} (h : k < zs.length) : As.el zs k = zs[k] := by unfold As.el; simp [h]
theorem IsI.bd {w : World} {A : Option Addr} {zs : List Int} (h : IsI w A zs) (k : Nat) : I64 (As.el zs k) := by
  rcases Nat.lt_or_ge k zs.length with hk | hk
  · rw [el_lt hk]
    exact h.2 _ (List.getElem_mem hk)
  · unfold As.el
    rw [List.getD_eq_getElem?_getD, List.getElem?_eq_none hk]
    exact ⟨by decide, by decide⟩
/-- A slice of slices of ints. -/
def IsM (w : World) (A : Option Addr) (V : List (List Int)) : Prop :=
  (0 < V.length → ∃ b off, A = some ⟨b, off, none⟩ ∧ ∀ i, i < V.length → ∃ R c, w.cell? ⟨b, off + i, none⟩ = some (.slice R (V.getD i []).length c) ∧ (V.getD i []).length ≤ maxLen ∧ IsI w R (V.getD i []))
theorem IsM.keep {w v : World} {A : Option Addr} {V : List (List Int)} (h : IsM w A V) (hb : Below w.heap.size w v) : IsM v A V := fun h0 => by
  obtain ⟨b, off, e, hc⟩ := h h0
  refine ⟨b, off, e, fun i hi => ?_⟩
  obtain ⟨R, c, h1, h2, h3⟩ := hc i hi
  exact ⟨R, c, keepC hb h1, h2, h3.keep hb⟩
section
variable {H : Type} {enc : TypeId × Value → H} {P : Program} {w : World} {base : Nat} {spare : Nat → Bool} {held : Bool}
theorem open_ints_any {t e : TypeId} {fuel : Nat} {cs : List Value} {x : DataW H × List MemPlace} (ht : P.underlying t = some (.slice e)) (he : P.underlying e = some (.int .i64)) (hc : P.cellsOf e = 1)
    (h : DataW.trod enc P w base spare held fuel t cs = some x) : ∃ A cap zs, cs = [.slice A zs.length cap] ∧ zs.length ≤ maxLen ∧ IsI w A zs := by
  rcases open_ints ht he hc h with ⟨rfl, _⟩ | ⟨a, len, cap, zs, rfl, hb, hl, hm, hz, hx, hcell, hw⟩
  · exact ⟨none, 0, [], rfl, by simp, fun h => absurd h (by simp), by simp⟩
  · have hlz : len ≤ zs.length := by rw [hz]; split <;> omega
    have hlen : (zs.take len).length = len := by rw [List.length_take]; omega
    refine ⟨some a, cap, zs.take len, by rw [hlen], by rw [hlen]; omega, fun h0 => ?_, fun z hzm => wf_i64 (hw z (List.mem_of_mem_take hzm))⟩
    rw [hlen] at h0
    obtain ⟨b, off, spot⟩ := a
    have hspot : spot = none := by simpa [Addr.add] using World.cell?_spot (hcell 0 (by omega))
    subst hspot
    refine ⟨b, off, rfl, fun i hi => ?_⟩
    rw [hlen] at hi
    have := hcell i (by omega)
    rw [Addr.add_lit] at this
    rw [this]
    unfold As.el
    simp [List.getD_eq_getElem?_getD, hi]
theorem open_rows_any {t e q : TypeId} {fuel : Nat} {cs : List Value} {x : DataW H × List MemPlace} (ht : P.underlying t = some (.slice e)) (he : P.underlying e = some (.slice q)) (hq : P.underlying q = some (.int .i64)) (ce : P.cellsOf e = 1) (cq : P.cellsOf q = 1)
    (h : DataW.trod enc P w base spare held fuel t cs = some x) : ∃ A cap V, cs = [.slice A (V : List (List Int)).length cap] ∧ V.length ≤ maxLen ∧ IsM w A V := by
  rcases open_slice ht h with ⟨rfl, _⟩ | ⟨a, len, cap, m, n, D, Pl, rfl, hb, hl, hm, hmm, hx, hi⟩
  · exact ⟨none, 0, [], rfl, by simp, fun h => absurd h (by simp)⟩
  · have hml : len ≤ m := by rw [hmm]; split <;> omega
    rw [ce] at hi
    have key : ∀ i, i < len → ∃ y : List Int, ∃ R c, w.cell? (a.add i) = some (.slice R y.length c) ∧ y.length ≤ maxLen ∧ IsI w R y := by
      intro i hlt
      obtain ⟨cs', hc, ht'⟩ := hi i (by omega)
      obtain ⟨R, c, y, rfl, hyl, hI⟩ := open_ints_any he hq cq ht'
      obtain ⟨_, _, hat⟩ := World.cells?_some hc
      have h0 := hat 0 (by omega)
      rw [Nat.mul_one, Go.Deep.add_add, Nat.add_zero] at h0
      exact ⟨y, R, c, h0, hyl, hI⟩
    obtain ⟨f, hf⟩ := choose_lt key
    refine ⟨some a, cap, (List.range len).map f, by simp, by simp; omega, fun h0 => ?_⟩
    simp only [List.length_map, List.length_range] at h0
    obtain ⟨b, off, spot⟩ := a
    have hspot : spot = none := by
      obtain ⟨R, c, h1, _⟩ := hf 0 h0
      simpa [Addr.add] using World.cell?_spot h1
    subst hspot
    refine ⟨b, off, rfl, fun i hi' => ?_⟩
    simp only [List.length_map, List.length_range] at hi'
    have hg : ((List.range len).map f).getD i [] = f i := by simp [List.getD, hi']
    obtain ⟨R, c, h1, h2, h3⟩ := hf i hi'
    rw [Addr.add_lit] at h1
    rw [hg]
    exact ⟨R, c, h1, h2, h3⟩
end
section
variable {H : Type} {enc : TypeId × Value → H} {w : World} {base : Nat} {spare : Nat → Bool} {held : Bool}
theorem cellsInt : Try.prog.cellsOf 3 = 1 := by kernel_rfl
theorem cellsInts : Try.prog.cellsOf 26 = 1 := by kernel_rfl
set_option maxRecDepth 100000 in
theorem open_li {r : Reach} {b0 : Nat} {v : Value} {d : DataW H} {p : List MemPlace} (hv : Value.okWide Try.prog w r b0 26 v) (h : DataW.Trod enc Try.prog w base spare held 26 v d p) :
    ∃ A cap zs, v = .slice A zs.length cap ∧ zs.length ≤ maxLen ∧ IsI w A zs := by
  obtain ⟨a, len, cap, rfl⟩ := okWide_slice Try.underlying26 hv
  obtain ⟨fuel, hf⟩ := h
  obtain ⟨A, cap', xs, hcs, hm, hI⟩ := open_ints_any Try.underlying26 Try.underlying3 cellsInt hf
  simp [Value.cells] at hcs
  obtain ⟨rfl, rfl, rfl⟩ := hcs
  exact ⟨a, cap, xs, rfl, hm, hI⟩
set_option maxRecDepth 100000 in
theorem open_lli {r : Reach} {b0 : Nat} {v : Value} {d : DataW H} {p : List MemPlace} (hv : Value.okWide Try.prog w r b0 22 v) (h : DataW.Trod enc Try.prog w base spare held 22 v d p) :
    ∃ A cap V, v = .slice A (V : List (List Int)).length cap ∧ V.length ≤ maxLen ∧ IsM w A V := by
  obtain ⟨a, len, cap, rfl⟩ := okWide_slice Try.underlying22 hv
  obtain ⟨fuel, hf⟩ := h
  obtain ⟨A, cap', V, hcs, hm, hI⟩ := open_rows_any Try.underlying22 Try.underlying26 Try.underlying3 cellsInts cellsInt hf
  simp [Value.cells] at hcs
  obtain ⟨rfl, rfl, rfl⟩ := hcs
  exact ⟨a, cap, V, rfl, hm, hI⟩
end
end Go.Proofs.Ytpiolhjiflohgaa
