/- Rows of ratios and of spans: of the call's own, and such as came in. -/
import Derived.Test.YtnnpmegknlgkoaaSpn
import Derived.Test.YtnnpmegknlgkoaaGh
namespace Go.Proofs.Ytnnpmegknlgkoaa
open Go.RowKit
namespace Pc
def cells2 (l : List Rat) : List Value := l.flatMap fun r => [.int .i64 r.num, .int .i64 (r.den : Int)]
def cells4 (l : List (Rat × Rat)) : List Value := cells2 (ends l)
theorem cells2_app (l m : List Rat) : cells2 (l ++ m) = cells2 l ++ cells2 m := List.flatMap_append
theorem ends_app : ∀ (l m : List (Rat × Rat)), ends (l ++ m) = ends l ++ ends m
  | [], _ => rfl
  | s :: l, m => by simp [ends, ends_app l m]
theorem cells4_app (l m : List (Rat × Rat)) : cells4 (l ++ m) = cells4 l ++ cells4 m := by unfold cells4; rw [ends_app, cells2_app]
theorem cells2_len : ∀ (l : List Rat), (cells2 l).length = l.length * 2
  | [] => rfl
  | r :: l => by
    have := cells2_len l
    unfold cells2 at this ⊢
    simp only [List.flatMap_cons, List.length_append, this, List.length_cons, List.length_nil]
    omega
theorem ends_len : ∀ (l : List (Rat × Rat)), (ends l).length = l.length * 2
  | [] => rfl
  | s :: l => by simp [ends, ends_len l]; omega
theorem cells4_len (l : List (Rat × Rat)) : (cells4 l).length = l.length * 4 := by unfold cells4; rw [cells2_len, ends_len]; omega
def qat (l : List Rat) (k : Nat) : Rat := l.getD k 0
theorem qat_lt {l : List Rat} {k : Nat} (h : k < l.length) : qat l k = l[k] := by unfold qat; simp [h]
def sat (l : List (Rat × Rat)) (k : Nat) : Rat × Rat := l.getD k (0, 0)
theorem sat_lt {l : List (Rat × Rat)} {k : Nat} (h : k < l.length) : sat l k = l[k] := by unfold sat; simp [h]
theorem cells2_at : ∀ {l : List Rat} {k : Nat}, k < l.length → (cells2 l)[k * 2]? = some (.int .i64 (qat l k).num) ∧ (cells2 l)[k * 2 + 1]? = some (.int .i64 ((qat l k).den : Int))
  | r :: l, 0, _ => ⟨rfl, rfl⟩
  | r :: l, k + 1, h => by
    have ih := cells2_at (l := l) (k := k) (by simpa using h)
    have e : cells2 (r :: l) = .int .i64 r.num :: .int .i64 (r.den : Int) :: cells2 l := rfl
    rw [e, show (k + 1) * 2 = k * 2 + 1 + 1 by omega, show k * 2 + 1 + 1 + 1 = (k * 2 + 1) + 1 + 1 by omega]
    simp only [List.getElem?_cons_succ]
    exact ih
theorem ends_at : ∀ {l : List (Rat × Rat)} {k : Nat}, k < l.length → qat (ends l) (k * 2) = (sat l k).1 ∧ qat (ends l) (k * 2 + 1) = (sat l k).2
  | s :: l, 0, _ => ⟨rfl, rfl⟩
  | s :: l, k + 1, h => by
    have ih := ends_at (l := l) (k := k) (by simpa using h)
    unfold qat sat at ih ⊢
    rw [show (k + 1) * 2 = k * 2 + 1 + 1 by omega, show k * 2 + 1 + 1 + 1 = (k * 2 + 1) + 1 + 1 by omega]
    simpa [ends] using ih
theorem mem_ends1 {l : List (Rat × Rat)} {k : Nat} (h : k < l.length) : (sat l k).1 ∈ ends l ∧ (sat l k).2 ∈ ends l := by
  have e := ends_at h
  have hl := ends_len l
  rw [← e.1, ← e.2, qat_lt (by omega), qat_lt (by omega)]
  exact ⟨List.getElem_mem _, List.getElem_mem _⟩
theorem take_snoc {α : Type} [Inhabited α] (l : List α) (d : α) {k : Nat} (h : k < l.length) : l.take (k + 1) = l.take k ++ [l.getD k d] := by
  rw [List.take_add_one, List.getElem?_eq_getElem h]
  simp [h]
theorem fit_bd {r : Rat} (h : Fit r) : (-1000000000000000000 ≤ r.num ∧ r.num ≤ 1000000000000000000) ∧ 1 ≤ (r.den : Int) ∧ (r.den : Int) ≤ 1000000000000000000 := by
  obtain ⟨h1, h2, h3, h4, _⟩ := h
  exact ⟨⟨h3, h4⟩, h1, h2⟩
theorem at_map (L : List (Rat × Rat)) {k : Nat} (h : k < L.length) : at_ (L.map raw) k = raw (sat L k) := by
  rw [at_lt (by simpa using h), sat_lt h]
  simp
end Pc
/-- Ratios that came in, all of them valid. -/
def IsQ (w : World) (A : Option Addr) (l : List Rat) : Prop :=
  0 < l.length → ∃ b off, A = some ⟨b, off, none⟩ ∧ ∀ i, i < l.length → w.cell? ⟨b, off + i * 2, none⟩ = some (.int .i64 (Pc.qat l i).num) ∧ w.cell? ⟨b, off + i * 2 + 1, none⟩ = some (.int .i64 ((Pc.qat l i).den : Int))
theorem IsQ.keep {w v : World} {A : Option Addr} {l : List Rat} (h : IsQ w A l) (hb : Below w.heap.size w v) : IsQ v A l := fun h0 => by
  obtain ⟨b, off, e, hc⟩ := h h0
  exact ⟨b, off, e, fun i hi => ⟨keepC hb (hc i hi).1, keepC hb (hc i hi).2⟩⟩
theorem isQ_row {w : World} {B : Nat} {e : TypeId} {A : Option Addr} {n cap : Nat} {l : List Rat} (h : w.ownsRow B e 2 (.slice A n cap) n (Pc.cells2 l)) (hn : n = l.length) : IsQ w A l := fun h0 => by
  obtain ⟨g, cap', hv, _, hlt⟩ := World.ownsRow.form h (by omega)
  simp only [Value.slice.injEq] at hv
  obtain ⟨rfl, _, rfl⟩ := hv
  refine ⟨g, 0, rfl, fun i hi => ?_⟩
  rw [Nat.zero_add, World.ownsRow.cellAt h (i * 2) (by omega), World.ownsRow.cellAt h (i * 2 + 1) (by omega)]
  exact Pc.cells2_at hi
theorem isS_row {w : World} {B : Nat} {e : TypeId} {A : Option Addr} {n cap : Nat} {L : List (Rat × Rat)} (h : w.ownsRow B e 4 (.slice A n cap) n (Pc.cells4 L)) (hn : n = L.length) (hf : ∀ r ∈ Pc.ends L, Pc.Fit r) (hm : L.length ≤ maxLen) : IsS w A (L.map Pc.raw) := by
  refine ⟨fun h0 => ?_, ?_, by rw [List.length_map]; exact hm⟩
  · rw [List.length_map] at h0
    obtain ⟨g, cap', hv, _, hlt⟩ := World.ownsRow.form h (by omega)
    simp only [Value.slice.injEq] at hv
    obtain ⟨rfl, _, rfl⟩ := hv
    refine ⟨g, 0, rfl, fun i hi => ?_⟩
    rw [List.length_map] at hi
    have hl := Pc.ends_len L
    have c1 := Pc.cells2_at (l := Pc.ends L) (k := i * 2) (by omega)
    have c2 := Pc.cells2_at (l := Pc.ends L) (k := i * 2 + 1) (by omega)
    rw [(Pc.ends_at hi).1] at c1
    rw [(Pc.ends_at hi).2] at c2
    rw [Pc.at_map L hi, Nat.zero_add, World.ownsRow.cellAt h (i * 4) (by omega), World.ownsRow.cellAt h (i * 4 + 1) (by omega), World.ownsRow.cellAt h (i * 4 + 2) (by omega), World.ownsRow.cellAt h (i * 4 + 3) (by omega)]
    rw [show i * 2 * 2 = i * 4 by omega] at c1
    rw [show (i * 2 + 1) * 2 = i * 4 + 2 by omega, show i * 4 + 2 + 1 = i * 4 + 3 by omega] at c2
    exact ⟨c1.1, c1.2, c2.1, c2.2⟩
  · intro z hz
    obtain ⟨s, hs, rfl⟩ := List.mem_map.1 hz
    obtain ⟨k, hk, rfl⟩ := List.mem_iff_getElem.1 hs
    have hm := Pc.mem_ends1 hk
    rw [Pc.sat_lt hk] at hm
    have f1 := Pc.fit_bd (hf _ hm.1)
    have f2 := Pc.fit_bd (hf _ hm.2)
    unfold Pc.Raw64 Pc.raw I64
    dsimp only
    omega
theorem ratInfo : (Try.prog.info? 23).map (fun i => (i.zero, i.size, i.bytes)) = some (some (.agg #[.int .i64 0, .int .i64 0]), 2, 16) := by kernel_rfl
theorem spanInfo : (Try.prog.info? 25).map (fun i => (i.zero, i.size, i.bytes)) = some (some (.agg #[.int .i64 0, .int .i64 0, .int .i64 0, .int .i64 0]), 4, 32) := by kernel_rfl
/-- A piece that came in. -/
theorem IsS.cell {w : World} {A : Option Addr} {L : List (Rat × Rat)} (h : IsS w A (L.map Pc.raw)) : ∃ b off, (0 < L.length → A = some ⟨b, off, none⟩) ∧ ∀ i, i < L.length → w.cell? ⟨b, off + i * 4, none⟩ = some (.int .i64 (Pc.sat L i).1.num) ∧ w.cell? ⟨b, off + i * 4 + 1, none⟩ = some (.int .i64 ((Pc.sat L i).1.den : Int)) ∧
    w.cell? ⟨b, off + i * 4 + 2, none⟩ = some (.int .i64 (Pc.sat L i).2.num) ∧ w.cell? ⟨b, off + i * 4 + 3, none⟩ = some (.int .i64 ((Pc.sat L i).2.den : Int)) := by
  by_cases h0 : 0 < L.length
  · obtain ⟨b, off, e, hc⟩ := h.1 (by rw [List.length_map]; exact h0)
    refine ⟨b, off, fun _ => e, fun i hi => ?_⟩
    have := hc i (by rw [List.length_map]; exact hi)
    rw [Pc.at_map L hi] at this
    exact this
  · exact ⟨0, 0, fun k => absurd k h0, fun i hi => absurd hi (by omega)⟩
end Go.Proofs.Ytnnpmegknlgkoaa
