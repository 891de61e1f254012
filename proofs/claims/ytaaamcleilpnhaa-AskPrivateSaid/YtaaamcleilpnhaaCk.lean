/- Cakes: what Check answers, as a function on lists of numbers; slices of ints that came in. -/
import Derived.Test.YtaaamcleilpnhaaOpen
namespace Go.Proofs.Ytaaamcleilpnhaa
open Go.ChangeShapes Go.WideShapes Go.ChangeAt Go.RowKit Go.Joins Go.Deep
namespace Ck
/-- The element at a place; 0 behind the end. -/
def at_ (l : List Int) (k : Nat) : Int := l.getD k 0
def badAt (c d : List Int) (k : Nat) : Bool := decide (at_ c (k + 1) ≤ at_ c k) || decide (at_ d k < 0) || decide (12 < at_ d k)
def great (len : Int) (c : List Int) : Bool := decide (1000 < len) || decide (40 < c.length)
def shapeBad (len : Int) (c d : List Int) : Bool := decide (len < 1) || decide (c.length < 2) || decide (d.length + 1 ≠ c.length)
def endsBad (len : Int) (c : List Int) : Bool := decide (at_ c 0 ≠ 0) || decide (at_ c (c.length - 1) ≠ len)
def anyBad (c d : List Int) : Bool := (List.range d.length).any (badAt c d)
def wanted (d : List Int) : Bool := d.any (fun x => decide (0 < x))
/-- Check's answer. -/
def chk (len : Int) (c d : List Int) : Int :=
  if great len c then 4 else if shapeBad len c d then 8 else if endsBad len c then 8 else if anyBad c d then 8 else if wanted d then 0 else 8
theorem at_lt {l : List Int} {k : Nat} (h : k < l.length) : at_ l k = l[k] := by unfold at_; simp [h]
theorem wanted_of {d : List Int} {k : Nat} (h : k < d.length) (hp : 0 < at_ d k) : wanted d = true := by
  unfold wanted
  rw [List.any_eq_true]
  exact ⟨d[k], List.getElem_mem h, by rw [at_lt h] at hp; simpa using hp⟩
theorem wanted_not {d : List Int} (h : ∀ j, j < d.length → ¬ 0 < at_ d j) : wanted d = false := by
  unfold wanted
  rw [List.any_eq_false]
  intro x hx
  obtain ⟨j, hj, rfl⟩ := List.mem_iff_getElem.1 hx
  have := h j hj
  rw [at_lt hj] at this
  simpa using this
theorem bad_of {c d : List Int} {k : Nat} (h : k < d.length) (hb : badAt c d k = true) : anyBad c d = true := by
  unfold anyBad
  rw [List.any_eq_true]
  exact ⟨k, by simpa using h, hb⟩
theorem bad_not {c d : List Int} (h : ∀ j, j < d.length → badAt c d j = false) : anyBad c d = false := by
  unfold anyBad
  rw [List.any_eq_false]
  intro j hj
  have := h j (by simpa using hj)
  simp [this]
end Ck

/-- A slice of ints that came in. -/
def IsI (w : World) (A : Option Addr) (zs : List Int) : Prop :=
  (0 < zs.length → ∃ b off, A = some ⟨b, off, none⟩ ∧ ∀ i, i < zs.length → w.cell? ⟨b, off + i, none⟩ = some (.int .i64 (Ck.at_ zs i))) ∧ ∀ z ∈ zs, I64 z
theorem IsI.keep {w v : World} {A : Option Addr} {zs : List Int} (h : IsI w A zs) (hb : Below w.heap.size w v) : IsI v A zs :=
  ⟨fun h0 => by
    obtain ⟨b, off, e, hc⟩ := h.1 h0
    exact ⟨b, off, e, fun i hi => keepC hb (hc i hi)⟩, h.2⟩
theorem IsI.bd {w : World} {A : Option Addr} {zs : List Int} (h : IsI w A zs) (k : Nat) : I64 (Ck.at_ zs k) := by
  unfold Ck.at_
  rw [List.getD_eq_getElem?_getD]
  rcases Nat.lt_or_ge k zs.length with hk | hk
  · rw [List.getElem?_eq_getElem hk]
    exact h.2 _ (List.getElem_mem hk)
  · rw [List.getElem?_eq_none hk]
    exact ⟨by decide, by decide⟩
/-- A cake that came in. -/
def IsCake (w : World) (len : Int) (K : Option Addr) (cuts : List Int) (Z : Option Addr) (dens : List Int) : Prop :=
  I64 len ∧ (cuts.length ≤ maxLen ∧ dens.length ≤ maxLen) ∧ IsI w K cuts ∧ IsI w Z dens
theorem IsCake.keep {w v : World} {len : Int} {K Z : Option Addr} {cuts dens : List Int} (h : IsCake w len K cuts Z dens) (hb : Below w.heap.size w v) : IsCake v len K cuts Z dens :=
  ⟨h.1, h.2.1, h.2.2.1.keep hb, h.2.2.2.keep hb⟩

section
variable {H : Type} {enc : TypeId × Value → H} {P : Program} {w : World} {base : Nat} {spare : Nat → Bool} {held : Bool}
theorem open_ints_any {t e : TypeId} {fuel : Nat} {cs : List Value} {x : DataW H × List MemPlace} (ht : P.underlying t = some (.slice e)) (he : P.underlying e = some (.int .i64)) (hc : P.cellsOf e = 1)
    (h : DataW.trod enc P w base spare held fuel t cs = some x) : ∃ A cap zs, cs = [.slice A zs.length cap] ∧ zs.length ≤ maxLen ∧ IsI w A zs := by
  rcases open_ints ht he hc h with ⟨rfl, _⟩ | ⟨a, len, cap, zs, rfl, hb, hl, hm, hz, hx, hcell, hw⟩
  · exact ⟨none, 0, [], rfl, by simp, fun h => absurd h (by simp), by simp⟩
  · have hlz : len ≤ zs.length := by rw [hz]; split <;> omega
    have hlen : (zs.take len).length = len := by rw [List.length_take]; omega
    refine ⟨some a, cap, zs.take len, by rw [hlen], by rw [hlen]; omega, fun h0 => ?_, fun z hzm => wf_i64 (hw z (List.mem_of_mem_take hzm))⟩
    rw [hlen] at h0
    obtain ⟨b, off, spot⟩ := a
    have hspot : spot = none := by simpa [Addr.add] using World.cell?_spot (hcell 0 (by omega))
    subst hspot
    refine ⟨b, off, rfl, fun i hi => ?_⟩
    rw [hlen] at hi
    have := hcell i (by omega)
    rw [Addr.add_lit] at this
    rw [this]
    unfold Ck.at_
    simp [List.getD_eq_getElem?_getD, hi]
end
section
variable {H : Type} {enc : TypeId × Value → H} {w : World} {base : Nat} {spare : Nat → Bool} {held : Bool}
theorem cellsInt : Try.prog.cellsOf 3 = 1 := by kernel_rfl
theorem cellsCake : Try.prog.cellsOf 33 = 3 := by kernel_rfl
set_option maxRecDepth 100000 in
theorem open_cake {r : Reach} {b0 : Nat} {v : Value} {d : DataW H} {p : List MemPlace} (hv : Value.okWide Try.prog w r b0 33 v) (h : DataW.Trod enc Try.prog w base spare held 33 v d p) :
    ∃ len K cuts ck Z dens cz, v = .agg #[.int .i64 len, .slice K cuts.length ck, .slice Z dens.length cz] ∧ IsCake w len K cuts Z dens := by
  obtain ⟨c0, c1, c2, y0, y1, y2, k, rfl, rfl, rfl, hy0, hy1, hy2⟩ := open_agg3 Try.underlying33 (by kernel_rfl) cellsCake hv h
  obtain ⟨a0, e0, rfl, w0⟩ := DataW.trod_int Try.underlying3 hy0
  obtain ⟨K, ck, cuts, e1, l1, i1⟩ := open_ints_any Try.underlying31 Try.underlying3 cellsInt hy1
  obtain ⟨Z, cz, dens, e2, l2, i2⟩ := open_ints_any Try.underlying31 Try.underlying3 cellsInt hy2
  simp only [List.cons.injEq, and_true] at e0 e1 e2
  subst e0 e1 e2
  exact ⟨a0, K, cuts, ck, Z, dens, cz, rfl, wf_i64 w0, ⟨l1, l2⟩, i1, i2⟩
end
end Go.Proofs.Ytaaamcleilpnhaa
