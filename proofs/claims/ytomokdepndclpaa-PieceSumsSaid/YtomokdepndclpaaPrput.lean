/- The reference's put: a point is laid into a list in increasing order. -/
import Derived.Test.YtomokdepndclpaaQc
import Derived.Test.YtomokdepndclpaaPrin
import Derived.RegionTactic
import Derived.ChangeAlike
import Derived.BigRegion
namespace Go.Proofs.Ytomokdepndclpaa
open Go.RowKit
namespace Pc
theorem cells2_set : ∀ (c : List Rat) (k : Nat) (p : Rat), cells2 (c.set k p) = ((cells2 c).set (k * 2) (.int .i64 p.num)).set (k * 2 + 1) (.int .i64 (p.den : Int))
  | [], _, _ => rfl
  | q :: c, 0, p => rfl
  | q :: c, k + 1, p => by
    have ih := cells2_set c k p
    have e : ∀ (x : Rat) (l : List Rat), cells2 (x :: l) = .int .i64 x.num :: .int .i64 (x.den : Int) :: cells2 l := fun _ _ => rfl
    rw [List.set_cons_succ, e, e, ih, show (k + 1) * 2 = k * 2 + 1 + 1 by omega]
    simp only [List.set_cons_succ]
def lay (l : List Rat) (r : Rat) (k : Nat) : List Rat := l.take k ++ r :: l.drop k
theorem lay_len (l : List Rat) (r : Rat) (k : Nat) : (lay l r k).length = l.length + 1 := by unfold lay; simp; omega
theorem lay_at {l : List Rat} {r : Rat} {k : Nat} (h : k ≤ l.length) : qat (lay l r k) k = r := by
  unfold lay qat
  rw [List.getD_eq_getElem?_getD, List.getElem?_append_right (by simp; omega)]
  simp [List.length_take, Nat.min_eq_left h]
theorem lay_bef {l : List Rat} {r : Rat} {k : Nat} (h : k + 1 ≤ l.length) : qat (lay l r (k + 1)) k = qat l k := by
  unfold lay qat
  rw [List.getD_eq_getElem?_getD, List.getElem?_append_left (by simp; omega), List.getD_eq_getElem?_getD, List.getElem?_take]
  simp
theorem lay_swap : ∀ {l : List Rat} {r : Rat} {k : Nat}, k + 1 ≤ l.length → ((lay l r (k + 1)).set k r).set (k + 1) (qat l k) = lay l r k
  | [], _, _, h => by simp at h
  | q :: l, r, 0, _ => rfl
  | q :: l, r, k + 1, h => by
    have ih := lay_swap (l := l) (r := r) (k := k) (by simpa using h)
    unfold lay qat at ih ⊢
    simp only [List.take_succ_cons, List.drop_succ_cons, List.cons_append, List.set_cons_succ, List.getD_cons_succ]
    rw [ih]
theorem lay_mem (l : List Rat) (r : Rat) (k : Nat) (x : Rat) : x ∈ lay l r k ↔ x ∈ l ∨ x = r := by
  unfold lay
  conv => rhs; rw [← List.take_append_drop k l]
  simp only [List.mem_append, List.mem_cons]
  constructor
  · rintro (h | h | h)
    · exact .inl (.inl h)
    · exact .inr h
    · exact .inl (.inr h)
  · rintro ((h | h) | h)
    · exact .inl h
    · exact .inr (.inr h)
    · exact .inr (.inl h)
theorem inc_lay : ∀ {l : List Rat} {r : Rat} {k : Nat}, Inc l → (∀ x ∈ l.take k, x < r) → (∀ x ∈ l.drop k, r < x) → Inc (lay l r k)
  | l, r, 0, h, _, h2 => ⟨fun q hq => h2 q (by simpa using hq), by simpa [lay] using h⟩
  | [], r, k + 1, _, _, _ => ⟨by simp, trivial⟩
  | q :: l, r, k + 1, h, h1, h2 => by
    have ih := inc_lay (l := l) (r := r) (k := k) h.2 (fun x hx => h1 x (by simp [hx])) (fun x hx => h2 x (by simpa using hx))
    refine ⟨fun x hx => ?_, ih⟩
    have : x ∈ lay l r k := hx
    rw [lay_mem] at this
    rcases this with hx | rfl
    · exact h.1 x hx
    · exact h1 q (by simp)
theorem take_lt : ∀ {l : List Rat} {r : Rat} {k : Nat}, Inc l → k + 1 ≤ l.length → qat l k < r → ∀ x ∈ l.take (k + 1), x < r
  | [], _, _, _, h, _ => by simp at h
  | q :: l, r, 0, _, _, h => fun x hx => by have : x = q := by simpa using hx
                                            subst this; exact h
  | q :: l, r, k + 1, hi, hl, h => fun x hx => by
    have ih := take_lt (l := l) (r := r) (k := k) hi.2 (by simpa using hl) h
    rw [List.take_succ_cons] at hx
    rcases List.mem_cons.1 hx with rfl | hx
    · have hm : qat l k ∈ l := by rw [qat_lt (by simp at hl; omega)]; exact List.getElem_mem _
      have := hi.1 _ hm
      have h' : qat l k < r := h
      grind
    · exact ih x hx
theorem drop_lt {l : List Rat} {r : Rat} {k : Nat} (hl : k + 1 ≤ l.length) (h : r < qat l k) (h2 : ∀ x ∈ l.drop (k + 1), r < x) : ∀ x ∈ l.drop k, r < x := by
  intro x hx
  rw [List.drop_eq_getElem_cons (by omega)] at hx
  rcases List.mem_cons.1 hx with rfl | hx
  · rw [qat_lt (by omega)] at h; exact h
  · exact h2 x hx
end Pc
theorem row_cell {w : World} {B g n cap : Nat} {e : TypeId} {c : List Rat} (h : w.ownsRow B e 2 (.slice (some ⟨g, 0, none⟩) n cap) n (Pc.cells2 c)) (hn : n = c.length) {k : Nat} (hk : k < n) :
    w.cell? ⟨g, k * 2, none⟩ = some (.int .i64 (Pc.qat c k).num) ∧ w.cell? ⟨g, k * 2 + 1, none⟩ = some (.int .i64 ((Pc.qat c k).den : Int)) := by
  rw [World.ownsRow.cellAt h (k * 2) (by omega), World.ownsRow.cellAt h (k * 2 + 1) (by omega)]
  exact Pc.cells2_at (by omega)
theorem row_set {w : World} {B g n cap : Nat} {e : TypeId} {c : List Rat} (h : w.ownsRow B e 2 (.slice (some ⟨g, 0, none⟩) n cap) n (Pc.cells2 c)) (k : Nat) (p : Rat) :
    ((w.setCell ⟨g, k * 2, none⟩ (.int .i64 p.num)).setCell ⟨g, k * 2 + 1, none⟩ (.int .i64 (p.den : Int))).ownsRow B e 2 (.slice (some ⟨g, 0, none⟩) n cap) n (Pc.cells2 (c.set k p)) := by
  rw [Pc.cells2_set]
  exact (World.ownsRow.stored (World.ownsRow.stored h (k * 2) _).1 (k * 2 + 1) _).1
theorem Acc.put2 {w V : World} {B g n cap : Nat} {e : TypeId} {c : List Rat} (h : Acc w B e 2 (.slice (some ⟨g, 0, none⟩) n cap) n (Pc.cells2 c) V) (k : Nat) (p : Rat) :
    Acc w B e 2 (.slice (some ⟨g, 0, none⟩) n cap) n (Pc.cells2 (c.set k p)) ((V.setCell ⟨g, k * 2, none⟩ (.int .i64 p.num)).setCell ⟨g, k * 2 + 1, none⟩ (.int .i64 (p.den : Int))) :=
  ⟨below_st (below_st h.bb (World.ownsRow.lt h.row g rfl).1 _) (World.ownsRow.lt h.row g rfl).1 _, by rw [World.size_setCell, World.size_setCell]; exact h.hB, row_set h.row k p⟩
theorem Acc.drew {w V : World} {B n sz : Nat} {e : TypeId} {v : Value} {cs : List Value} (h : Acc w B e sz v n cs V) : Acc w B e sz v n cs V.drew := ⟨below_drewN h.bb 1, h.hB, World.ownsRow.drew h.row⟩

set_option linter.unusedSimpArgs false in
set_option maxHeartbeats 8000000 in
set_option maxRecDepth 100000 in
theorem rput_any (B : Nat) (v : Value) (l : List Rat) (r : Rat) (w : World) (hB : B ≤ w.heap.size) (hrow : w.ownsRow B 30 2 v l.length (Pc.cells2 l)) (hin : Pc.Inc l) (hf : ∀ x ∈ l, Pc.Fit x) (hr : Pc.Fit r) (hl : l.length ≤ 1000) :
    Calls Try.prog 157 #[v, .agg #[.int .i64 r.num, .int .i64 (r.den : Int)]] w fun e w' => ∃ v' l', e = .returned v' ∧ Pc.Inc l' ∧ (∀ x, x ∈ l' ↔ x ∈ l ∨ x = r) ∧ l'.length ≤ l.length + 1 ∧ w'.ownsRow B 30 2 v' l'.length (Pc.cells2 l') ∧ Below B w w' := by
  obtain ⟨A, cap, rfl⟩ := row_form hrow
  have hQ := isQ_row hrow rfl
  obtain ⟨b, off, hA, hc⟩ : ∃ b off, (0 < l.length → A = some ⟨b, off, none⟩) ∧ ∀ i, i < l.length → w.cell? ⟨b, off + i * 2, none⟩ = some (.int .i64 (Pc.qat l i).num) ∧ w.cell? ⟨b, off + i * 2 + 1, none⟩ = some (.int .i64 ((Pc.qat l i).den : Int)) := by
    by_cases h0 : 0 < l.length
    · obtain ⟨b, off, e, hc⟩ := hQ h0
      exact ⟨b, off, fun _ => e, hc⟩
    · exact ⟨0, 0, fun k => absurd k h0, fun i hi => absurd hi (by omega)⟩
  have HC := Lib.hid hc
  have HA := Lib.hid hA
  have HF := Lib.hid hf
  have HIN := Lib.hid hin
  obtain ⟨nL, hnL⟩ : ∃ n, l.length = n := ⟨_, rfl⟩
  rw [hnL] at hrow hl ⊢
  have HNL := Lib.hid hnL
  have HC := Lib.hid (show ∀ i, i < nL → w.cell? ⟨b, off + i * 2, none⟩ = some (.int .i64 (Pc.qat l i).num) ∧ w.cell? ⟨b, off + i * 2 + 1, none⟩ = some (.int .i64 ((Pc.qat l i).den : Int)) from fun i hi => HC.out i (by omega))
  have HA := Lib.hid (show 0 < nL → A = some ⟨b, off, none⟩ from fun h => HA.out (by omega))
  have HW := Lib.hid (show Acc w B 30 2 (.slice A nL cap) nL (Pc.cells2 l) w from ⟨Below.refl _ _, hB, hrow⟩)
  obtain ⟨i0, hi0, hz0, hz1, hz2⟩ := info_parts ratInfo
  have HI := Lib.hid hi0
  have HI2 := Lib.hid hz0
  have HI3 := Lib.hid hz1
  have HI4 := Lib.hid hz2
  clear hi0 hz0 hz1 hz2 hc hA hf hin hnL hQ hrow
  go_enter Try.func157, Try.ntmps157
  go_wp2_with fail
  go_loopw [5] (fun i W => ∃ k : Nat, k ≤ nL ∧ i = .int .i64 k ∧ (∀ j, j < k → Pc.qat l j ≠ r) ∧ Acc w B 30 2 (.slice A nL cap) nL (Pc.cells2 l) W ∧ W.cell? ⟨w.heap.size, 0, none⟩ = some (.int .i64 r.num) ∧ W.cell? ⟨w.heap.size, 1, none⟩ = some (.int .i64 (r.den : Int))) (fun i _ => nL - (intOf i).toNat)
  case atStart => exact ⟨0, Nat.zero_le _, rfl, fun j hj => absurd hj (Nat.not_lt_zero _), HW.out.keep (below_al (Below.refl _ _) _), n20 _ _ _ _, n21 _ _ _ _⟩
  case round =>
    obtain ⟨k, hk, rfl, hok, hR, r0, r1⟩ := hrel
    have HOK := Lib.hid hok
    clear hok
    by_cases hlt : k < nL
    · have hA' := HA.out (by omega)
      subst hA'
      obtain ⟨q, hq⟩ : ∃ q, Pc.qat l k = q := ⟨_, rfl⟩
      have hbw := World.ownsRow.lt HW.out.row b rfl
      have x0 : wr.cell? ⟨b, off + k * 2, none⟩ = some (.int .i64 q.num) := by
        obtain ⟨g, cap', hv, _, _⟩ := World.ownsRow.form hR.row (by omega)
        simp only [Value.slice.injEq, Option.some.injEq, Addr.mk.injEq, and_true] at hv
        obtain ⟨⟨rfl, rfl⟩, _, _⟩ := hv
        rw [Nat.zero_add, ← hq]
        exact (row_cell hR.row HNL.out.symm hlt).1
      have x1 : wr.cell? ⟨b, off + k * 2 + 1, none⟩ = some (.int .i64 (q.den : Int)) := by
        obtain ⟨g, cap', hv, _, _⟩ := World.ownsRow.form hR.row (by omega)
        simp only [Value.slice.injEq, Option.some.injEq, Addr.mk.injEq, and_true] at hv
        obtain ⟨⟨rfl, rfl⟩, _, _⟩ := hv
        rw [Nat.zero_add, ← hq]
        exact (row_cell hR.row HNL.out.symm hlt).2
      have i1 : (0 : Int) ≤ (k : Int) := by omega
      have i2 : (k : Int) < (nL : Int) := by omega
      by_cases hqr : q = r
      · have hm : r ∈ l := by rw [← hqr, ← hq, Pc.qat_lt (by rw [HNL.out]; exact hlt)]; exact List.getElem_mem _
        have EB := Lib.hid (show ∀ x, x ∈ l ↔ x ∈ l ∨ x = r from fun x => ⟨.inl, fun h => h.elim id (fun e => e ▸ hm)⟩)
        subst hqr
        clear hm hq hbw
        go_upto_region 4 with fail
        refine wp_region_noPanic ?_
        refine wp_region_held_drew (S := (Below wr.heap.size wr)) (by kernel_rfl) ((Below.refl _ _).drew) (fun hHeld => ?_)
        refine at_anyH (Below wr.heap.size wr) hHeld (fun wa0 hNew => ?_)
        clear hHeld
        have hHeld := hNew
        clear hNew
        refine wpAnyH_take (i := 0) (oi := _) (v := ?va1) rfl (by kernel_rfl) (by kernel_rfl) (by kernel_rfl) (fun _ _ _ h => h) (Or.inl ⟨by kernel_rfl, ?hya1⟩) hHeld ?resta1
        case hya1 => (intro w hSw; go_simp; first | done | (with_reducible rfl))
        try simp only [Act.put, List.getElem_toArray, List.getElem_cons_succ, List.getElem_cons_zero, List.setIfInBounds_toArray, List.set_cons_zero, List.set_cons_succ]
        refine wpAnyH_take (i := 1) (oi := _) (v := ?va2) rfl (by kernel_rfl) (by kernel_rfl) (by kernel_rfl) (fun _ _ _ h => h) (Or.inl ⟨by kernel_rfl, ?hya2⟩) hHeld ?resta2
        case hya2 => (intro w hSw; go_simp; first | done | (with_reducible rfl))
        try simp only [Act.put, List.getElem_toArray, List.getElem_cons_succ, List.getElem_cons_zero, List.setIfInBounds_toArray, List.set_cons_zero, List.set_cons_succ]
        refine wpAnyH_take (i := 2) (oi := _) (v := ?va3) rfl (by kernel_rfl) (by kernel_rfl) (by kernel_rfl) (fun _ _ _ h => h) (Or.inl ⟨by kernel_rfl, ?hya3⟩) hHeld ?resta3
        case hya3 => (intro w hSw; go_simp; first | done | (with_reducible rfl))
        try simp only [Act.put, List.getElem_toArray, List.getElem_cons_succ, List.getElem_cons_zero, List.setIfInBounds_toArray, List.set_cons_zero, List.set_cons_succ]
        refine wpAnyH_take (i := 3) (oi := _) (v := ?va4) rfl (by kernel_rfl) (by kernel_rfl) (by kernel_rfl) (fun _ _ _ h => h) (Or.inl ⟨by kernel_rfl, ?hya4⟩) hHeld ?resta4
        case hya4 => (intro w hSw; have kr0 := keepC hSw r0; have kr1 := keepC hSw r1; have kx0 := keepC hSw x0; have kx1 := keepC hSw x1; go_simp; first | done | (with_reducible rfl))
        try simp only [Act.put, List.getElem_toArray, List.getElem_cons_succ, List.getElem_cons_zero, List.setIfInBounds_toArray, List.set_cons_zero, List.set_cons_succ]
        refine wpAnyH_take (i := 4) (oi := _) (v := ?va5) rfl (by kernel_rfl) (by kernel_rfl) (by kernel_rfl) (fun _ _ _ h => h) (Or.inl ⟨by kernel_rfl, ?hya5⟩) hHeld ?resta5
        case hya5 => (intro w hSw; have kr0 := keepC hSw r0; have kr1 := keepC hSw r1; have kx0 := keepC hSw x0; have kx1 := keepC hSw x1; go_simp; first | done | (with_reducible rfl))
        try simp only [Act.put, List.getElem_toArray, List.getElem_cons_succ, List.getElem_cons_zero, List.setIfInBounds_toArray, List.set_cons_zero, List.set_cons_succ]
        refine wpAnyH_take (i := 5) (oi := _) (v := ?va6) rfl (by kernel_rfl) (by kernel_rfl) (by kernel_rfl) (fun _ _ _ h => h) (Or.inl ⟨by kernel_rfl, ?hya6⟩) hHeld ?resta6
        case hya6 => (intro w hSw; go_simp; first | done | (with_reducible rfl))
        try simp only [Act.put, List.getElem_toArray, List.getElem_cons_succ, List.getElem_cons_zero, List.setIfInBounds_toArray, List.set_cons_zero, List.set_cons_succ]
        refine wpAnyH_done (by kernel_rfl) ?_ _
        refine NoPanic.normal ?_
        replace hR := hR.keep hHeld
        clear hHeld
        go_wp2_with fail
        go_ret
        exact ⟨_, rfl, l, HIN.out, EB.out, by have := HNL.out; omega, by rw [HNL.out]; exact hR.row, hR.bb⟩
      · have EB := Lib.hid (show Pc.qat l k ≠ r by rw [hq]; exact hqr)
        have HNE := Lib.hid hqr
        clear hqr hq hbw
        go_upto_region 4 with fail
        refine wp_region_noPanic ?_
        refine wp_region_held_drew (S := (Below wr.heap.size wr)) (by kernel_rfl) ((Below.refl _ _).drew) (fun hHeld => ?_)
        refine at_anyH (Below wr.heap.size wr) hHeld (fun wb0 hNew => ?_)
        clear hHeld
        have hHeld := hNew
        clear hNew
        refine wpAnyH_take (i := 0) (oi := _) (v := ?vb1) rfl (by kernel_rfl) (by kernel_rfl) (by kernel_rfl) (fun _ _ _ h => h) (Or.inl ⟨by kernel_rfl, ?hyb1⟩) hHeld ?restb1
        case hyb1 => (intro w hSw; go_simp; first | done | (with_reducible rfl))
        try simp only [Act.put, List.getElem_toArray, List.getElem_cons_succ, List.getElem_cons_zero, List.setIfInBounds_toArray, List.set_cons_zero, List.set_cons_succ]
        refine wpAnyH_take (i := 1) (oi := _) (v := ?vb2) rfl (by kernel_rfl) (by kernel_rfl) (by kernel_rfl) (fun _ _ _ h => h) (Or.inl ⟨by kernel_rfl, ?hyb2⟩) hHeld ?restb2
        case hyb2 => (intro w hSw; go_simp; first | done | (with_reducible rfl))
        try simp only [Act.put, List.getElem_toArray, List.getElem_cons_succ, List.getElem_cons_zero, List.setIfInBounds_toArray, List.set_cons_zero, List.set_cons_succ]
        refine wpAnyH_take (i := 2) (oi := _) (v := ?vb3) rfl (by kernel_rfl) (by kernel_rfl) (by kernel_rfl) (fun _ _ _ h => h) (Or.inl ⟨by kernel_rfl, ?hyb3⟩) hHeld ?restb3
        case hyb3 => (intro w hSw; go_simp; first | done | (with_reducible rfl))
        try simp only [Act.put, List.getElem_toArray, List.getElem_cons_succ, List.getElem_cons_zero, List.setIfInBounds_toArray, List.set_cons_zero, List.set_cons_succ]
        refine wpAnyH_take (i := 3) (oi := _) (v := ?vb4) rfl (by kernel_rfl) (by kernel_rfl) (by kernel_rfl) (fun _ _ _ h => h) (Or.inl ⟨by kernel_rfl, ?hyb4⟩) hHeld ?restb4
        case hyb4 => (intro w hSw; have kr0 := keepC hSw r0; have kr1 := keepC hSw r1; have kx0 := keepC hSw x0; have kx1 := keepC hSw x1; go_simp; first | done | (with_reducible rfl))
        try simp only [Act.put, List.getElem_toArray, List.getElem_cons_succ, List.getElem_cons_zero, List.setIfInBounds_toArray, List.set_cons_zero, List.set_cons_succ]
        refine wpAnyH_take (i := 4) (oi := _) (v := ?vb5) rfl (by kernel_rfl) (by kernel_rfl) (by kernel_rfl) (fun _ _ _ h => h) (Or.inl ⟨by kernel_rfl, ?hyb5⟩) hHeld ?restb5
        case hyb5 => (intro w hSw; have kr0 := keepC hSw r0; have kr1 := keepC hSw r1; have kx0 := keepC hSw x0; have kx1 := keepC hSw x1; go_simp; first | done | (with_reducible rfl))
        try simp only [Act.put, List.getElem_toArray, List.getElem_cons_succ, List.getElem_cons_zero, List.setIfInBounds_toArray, List.set_cons_zero, List.set_cons_succ]
        refine wpAnyH_take (i := 5) (oi := _) (v := .bool false) rfl (by kernel_rfl) (by kernel_rfl) (by kernel_rfl) (fun _ _ _ h => h) (Or.inl ⟨by kernel_rfl, ?_⟩) hHeld ?_
        · intro w hSw
          have kr0 := keepC hSw r0
          have kr1 := keepC hSw r1
          have kx0 := keepC hSw x0
          have kx1 := keepC hSw x1
          go_simp
          exact fun h1 => Pc.den_ne HNE.out h1
        try simp only [Act.put, List.getElem_toArray, List.getElem_cons_succ, List.getElem_cons_zero, List.setIfInBounds_toArray, List.set_cons_zero, List.set_cons_succ]
        refine wpAnyH_done (by kernel_rfl) ?_ _
        refine NoPanic.normal ?_
        replace hR := hR.keep hHeld
        replace r0 := keepC hHeld r0
        replace r1 := keepC hHeld r1
        clear hHeld
        go_wp2_with fail
        go_roundw
        case rel => exact ⟨k + 1, by omega, by go_num, fun j hj => (Nat.lt_succ_iff_lt_or_eq.1 hj).elim (HOK.out j) (fun e => e ▸ EB.out), hR, r0, r1⟩
        case measure => simp [intOf]; omega
    · obtain rfl : k = nL := by omega
      have hnot : r ∉ l := by
        intro hm
        obtain ⟨j, hj, e⟩ := List.mem_iff_getElem.1 hm
        exact HOK.out j (by have := HNL.out; omega) (by rw [Pc.qat_lt hj]; exact e)
      have HNOT := Lib.hid hnot
      clear hnot HOK
      have hBV := hR.hB
      have hlr := lt_of_cell r0
      go_wp2_with (at_builtin; go_loud (refine wpList_append_lies _ rfl _ _ _ rfl B 30 i0 _ 2 16 Try.underlying138 HI.out HI2.out HI3.out HI4.out rfl (by omega) _ k (Pc.cells2 l) (by rfl) (World.ownsRow.alloc hR.row _) ⟨wr.heap.size, 0, none⟩ 1 1 [.int .i64 r.num, .int .i64 (r.den : Int)] (by rfl) (by rfl) (World.news_of_block (cs := #[.int .i64 r.num, .int .i64 (r.den : Int)]) (t := 30) (fr := (0, 0)) (heap_alloc_new wr _)) (by simp [Value.oneCell']) (by omega) (by unfold maxLen; omega) (by omega) (by simp; omega) (wr.heap.size + 1) (by simp) ?_); intro g cap2 w1 hown1 hgrow hat hlt4)
      have hA0 := HW.out.row
      have hnew := hR.app ((Below.refl _ wr).alloc (Nat.le_refl _) _) hown1 hgrow
      have hln := HNL.out
      have HSTART := Lib.hid (show Acc w B 30 2 (.slice (some ⟨g, 0, none⟩) (k + 1) cap2) (k + 1) (Pc.cells2 (Pc.lay l r k)) w1 from by
        unfold Pc.lay
        rw [List.take_of_length_le (by omega), List.drop_of_length_le (by omega), Pc.cells2_app]
        exact hnew)
      clear hnew hown1 hgrow hat hR r0 r1 hlr hA0 hln hBV hlt HA HC HW hk
      go_wp2_with fail
      go_loopw [6] (fun i W => ∃ j : Nat, j ≤ k ∧ i = .int .i64 j ∧ (∀ x ∈ l.drop j, r < x) ∧ Acc w B 30 2 (.slice (some ⟨g, 0, none⟩) (k + 1) cap2) (k + 1) (Pc.cells2 (Pc.lay l r j)) W) (fun i _ => (intOf i).toNat)
      case atStart => refine ⟨k, Nat.le_refl _, by go_num, fun x hx => ?_, HSTART.out⟩; rw [List.drop_of_length_le (by rw [HNL.out]; exact Nat.le_refl _)] at hx; cases hx
      case round =>
        clear HSTART
        obtain ⟨j, hj, rfl, hdr, hR⟩ := hrel
        have HDR := Lib.hid hdr
        clear hdr
        rcases j with _ | i
        · have g0 : decide ((0 : Int) < ((0 : Nat) : Int)) = false := rfl
          have EI := Lib.hid (Pc.inc_lay (k := 0) HIN.out (fun x hx => by simp at hx) HDR.out)
          go_upto_region 8 with fail
          refine wp_region_noPanic ?_
          refine wp_region_held_drew (S := (Below wr.heap.size wr)) (by kernel_rfl) ((Below.refl _ _).drew) (fun hHeld => ?_)
          refine at_anyH (Below wr.heap.size wr) hHeld (fun we0 hNew => ?_)
          clear hHeld
          have hHeld := hNew
          clear hNew
          refine wpAnyH_take (i := 0) (oi := _) (v := ?ve1) rfl (by kernel_rfl) (by kernel_rfl) (by kernel_rfl) (fun _ _ _ h => h) (Or.inl ⟨by kernel_rfl, ?hye1⟩) hHeld ?reste1
          case hye1 => (intro w hSw; go_simp; first | done | (with_reducible rfl))
          try simp only [Act.put, List.getElem_toArray, List.getElem_cons_succ, List.getElem_cons_zero, List.setIfInBounds_toArray, List.set_cons_zero, List.set_cons_succ]
          refine wpAnyH_take (i := 1) (oi := _) (v := ?ve2) rfl (by kernel_rfl) (by kernel_rfl) (by kernel_rfl) (fun _ _ _ h => h) (Or.inl ⟨by kernel_rfl, ?hye2⟩) hHeld ?reste2
          case hye2 => (intro w hSw; go_simp; first | done | (with_reducible rfl))
          try simp only [Act.put, List.getElem_toArray, List.getElem_cons_succ, List.getElem_cons_zero, List.setIfInBounds_toArray, List.set_cons_zero, List.set_cons_succ]
          refine wpAnyH_take (i := 2) (oi := _) (v := ?ve3) rfl (by kernel_rfl) (by kernel_rfl) (by kernel_rfl) (fun _ _ _ h => h) (Or.inl ⟨by kernel_rfl, ?hye3⟩) hHeld ?reste3
          case hye3 => (intro w hSw; go_simp; first | done | (with_reducible rfl))
          try simp only [Act.put, List.getElem_toArray, List.getElem_cons_succ, List.getElem_cons_zero, List.setIfInBounds_toArray, List.set_cons_zero, List.set_cons_succ]
          refine wpAnyH_take (i := 3) (oi := _) (v := undef) rfl (by kernel_rfl) (by kernel_rfl) (by kernel_rfl) (fun _ _ _ h => h) (Or.inr ⟨by kernel_rfl, rfl⟩) hHeld ?_
          try simp only [Act.put, List.getElem_toArray, List.getElem_cons_succ, List.getElem_cons_zero, List.setIfInBounds_toArray, List.set_cons_zero, List.set_cons_succ]
          refine wpAnyH_take (i := 4) (oi := _) (v := undef) rfl (by kernel_rfl) (by kernel_rfl) (by kernel_rfl) (fun _ _ _ h => h) (Or.inr ⟨by kernel_rfl, rfl⟩) hHeld ?_
          try simp only [Act.put, List.getElem_toArray, List.getElem_cons_succ, List.getElem_cons_zero, List.setIfInBounds_toArray, List.set_cons_zero, List.set_cons_succ]
          refine wpAnyH_take (i := 5) (oi := _) (v := undef) rfl (by kernel_rfl) (by kernel_rfl) (by kernel_rfl) (fun _ _ _ h => h) (Or.inr ⟨by kernel_rfl, rfl⟩) hHeld ?_
          try simp only [Act.put, List.getElem_toArray, List.getElem_cons_succ, List.getElem_cons_zero, List.setIfInBounds_toArray, List.set_cons_zero, List.set_cons_succ]
          refine wpAnyH_take (i := 6) (oi := _) (v := undef) rfl (by kernel_rfl) (by kernel_rfl) (by kernel_rfl) (fun _ _ _ h => h) (Or.inr ⟨by kernel_rfl, rfl⟩) hHeld ?_
          try simp only [Act.put, List.getElem_toArray, List.getElem_cons_succ, List.getElem_cons_zero, List.setIfInBounds_toArray, List.set_cons_zero, List.set_cons_succ]
          refine wpAnyH_take (i := 7) (oi := _) (v := undef) rfl (by kernel_rfl) (by kernel_rfl) (by kernel_rfl) (fun _ _ _ h => h) (Or.inr ⟨by kernel_rfl, rfl⟩) hHeld ?_
          try simp only [Act.put, List.getElem_toArray, List.getElem_cons_succ, List.getElem_cons_zero, List.setIfInBounds_toArray, List.set_cons_zero, List.set_cons_succ]
          refine wpAnyH_take (i := 8) (oi := _) (v := undef) rfl (by kernel_rfl) (by kernel_rfl) (by kernel_rfl) (fun _ _ _ h => h) (Or.inr ⟨by kernel_rfl, rfl⟩) hHeld ?_
          try simp only [Act.put, List.getElem_toArray, List.getElem_cons_succ, List.getElem_cons_zero, List.setIfInBounds_toArray, List.set_cons_zero, List.set_cons_succ]
          refine wpAnyH_take (i := 9) (oi := _) (v := undef) rfl (by kernel_rfl) (by kernel_rfl) (by kernel_rfl) (fun _ _ _ h => h) (Or.inr ⟨by kernel_rfl, rfl⟩) hHeld ?_
          try simp only [Act.put, List.getElem_toArray, List.getElem_cons_succ, List.getElem_cons_zero, List.setIfInBounds_toArray, List.set_cons_zero, List.set_cons_succ]
          refine wpAnyH_take (i := 10) (oi := _) (v := undef) rfl (by kernel_rfl) (by kernel_rfl) (by kernel_rfl) (fun _ _ _ h => h) (Or.inr ⟨by kernel_rfl, rfl⟩) hHeld ?_
          try simp only [Act.put, List.getElem_toArray, List.getElem_cons_succ, List.getElem_cons_zero, List.setIfInBounds_toArray, List.set_cons_zero, List.set_cons_succ]
          refine wpAnyH_take (i := 11) (oi := _) (v := undef) rfl (by kernel_rfl) (by kernel_rfl) (by kernel_rfl) (fun _ _ _ h => h) (Or.inr ⟨by kernel_rfl, rfl⟩) hHeld ?_
          try simp only [Act.put, List.getElem_toArray, List.getElem_cons_succ, List.getElem_cons_zero, List.setIfInBounds_toArray, List.set_cons_zero, List.set_cons_succ]
          refine wpAnyH_take (i := 12) (oi := _) (v := undef) rfl (by kernel_rfl) (by kernel_rfl) (by kernel_rfl) (fun _ _ _ h => h) (Or.inr ⟨by kernel_rfl, rfl⟩) hHeld ?_
          try simp only [Act.put, List.getElem_toArray, List.getElem_cons_succ, List.getElem_cons_zero, List.setIfInBounds_toArray, List.set_cons_zero, List.set_cons_succ]
          refine wpAnyH_take (i := 13) (oi := _) (v := ?ve14) rfl (by kernel_rfl) (by kernel_rfl) (by kernel_rfl) (fun _ _ _ h => h) (Or.inl ⟨by kernel_rfl, ?hye14⟩) hHeld ?reste14
          case hye14 => (intro w hSw; go_simp; first | done | (with_reducible rfl))
          try simp only [Act.put, List.getElem_toArray, List.getElem_cons_succ, List.getElem_cons_zero, List.setIfInBounds_toArray, List.set_cons_zero, List.set_cons_succ]
          refine wpAnyH_done (by kernel_rfl) ?_ _
          refine NoPanic.normal ?_
          replace hR := hR.keep hHeld
          clear hHeld
          go_wp2_with fail
          go_ret
          first
            | exact ⟨_, rfl, Pc.lay l r 0, EI.out, Pc.lay_mem l r 0, by rw [Pc.lay_len, HNL.out]; exact Nat.le_refl _, by rw [Pc.lay_len, HNL.out]; exact hR.row, hR.bb⟩
            | exact ⟨_, Pc.lay l r 0, rfl, EI.out, Pc.lay_mem l r 0, by rw [Pc.lay_len, HNL.out]; exact Nat.le_refl _, by rw [Pc.lay_len, HNL.out]; exact hR.row, hR.bb⟩
        · obtain ⟨q, hq⟩ : ∃ q, Pc.qat l i = q := ⟨_, rfl⟩
          have hln := HNL.out
          have hqm : q ∈ l := by rw [← hq, Pc.qat_lt (by omega)]; exact List.getElem_mem _
          have hfq := HF.out q hqm
          have cr := row_cell hR.row (by rw [Pc.lay_len]; omega) (show i + 1 < k + 1 by omega)
          have cq := row_cell hR.row (by rw [Pc.lay_len]; omega) (show i < k + 1 by omega)
          rw [Pc.lay_at (by omega)] at cr
          rw [Pc.lay_bef (by omega), hq] at cq
          obtain ⟨r0, r1⟩ := cr
          obtain ⟨q0, q1⟩ := cq
          have fr0 := World.ownsRow.frozenAt hR.row ((i + 1) * 2)
          have fr1 := World.ownsRow.frozenAt hR.row ((i + 1) * 2 + 1)
          have fq0 := World.ownsRow.frozenAt hR.row (i * 2)
          have fq1 := World.ownsRow.frozenAt hR.row (i * 2 + 1)
          have g0 : decide ((0 : Int) < (i : Int) + 1) = true := decide_eq_true (by omega)
          have a1 : IntKind.i64.wrap ((i : Int) + 1 - 1) = (i : Int) := by rw [show (i : Int) + 1 - 1 = i by omega]; exact IntWalk.i64_in _ (by omega)
          have a7 : IntKind.i64.wrap (i : Int) = (i : Int) := IntWalk.i64_in _ (by omega)
          have a2 : (0 : Int) ≤ (i : Int) := by omega
          have a3 : (0 : Int) ≤ (i : Int) + 1 := by omega
          have a4 : (i : Int) < (k : Int) + 1 := by omega
          have a5 : (i : Int) + 1 < (k : Int) + 1 := by omega
          have a6 : ((i : Int) + 1).toNat = i + 1 := by omega
          have ls := fun v => Less_fit hr hfq v
          by_cases hlt2 : r < q
          · rw [decide_eq_true hlt2] at ls
            have LS := Lib.hid ls
            have ED := Lib.hid (Pc.drop_lt (by omega) (by rw [hq]; exact hlt2) HDR.out)
            have HQ := Lib.hid hq
            clear hq hqm hfq ls hlt2 hln HDR
            go_upto_region 8 with fail
            refine wp_region_noPanic ?_
            refine wp_region_held_drew (S := (Below wr.heap.size wr)) (by kernel_rfl) ((Below.refl _ _).drew) (fun hHeld => ?_)
            refine at_anyH (Below wr.heap.size wr) hHeld (fun wf0 hNew => ?_)
            clear hHeld
            have hHeld := hNew
            clear hNew
            refine wpAnyH_take (i := 0) (oi := _) (v := ?vf1) rfl (by kernel_rfl) (by kernel_rfl) (by kernel_rfl) (fun _ _ _ h => h) (Or.inl ⟨by kernel_rfl, ?hyf1⟩) hHeld ?restf1
            case hyf1 => (intro w hSw; go_simp; first | done | (with_reducible rfl))
            try simp only [Act.put, List.getElem_toArray, List.getElem_cons_succ, List.getElem_cons_zero, List.setIfInBounds_toArray, List.set_cons_zero, List.set_cons_succ]
            refine wpAnyH_take (i := 1) (oi := _) (v := ?vf2) rfl (by kernel_rfl) (by kernel_rfl) (by kernel_rfl) (fun _ _ _ h => h) (Or.inl ⟨by kernel_rfl, ?hyf2⟩) hHeld ?restf2
            case hyf2 => (intro w hSw; go_simp; first | done | (with_reducible rfl))
            try simp only [Act.put, List.getElem_toArray, List.getElem_cons_succ, List.getElem_cons_zero, List.setIfInBounds_toArray, List.set_cons_zero, List.set_cons_succ]
            refine wpAnyH_take (i := 2) (oi := _) (v := ?vf3) rfl (by kernel_rfl) (by kernel_rfl) (by kernel_rfl) (fun _ _ _ h => h) (Or.inl ⟨by kernel_rfl, ?hyf3⟩) hHeld ?restf3
            case hyf3 => (intro w hSw; go_simp; first | done | (with_reducible rfl))
            try simp only [Act.put, List.getElem_toArray, List.getElem_cons_succ, List.getElem_cons_zero, List.setIfInBounds_toArray, List.set_cons_zero, List.set_cons_succ]
            refine wpAnyH_take (i := 3) (oi := _) (v := ?vf4) rfl (by kernel_rfl) (by kernel_rfl) (by kernel_rfl) (fun _ _ _ h => h) (Or.inl ⟨by kernel_rfl, ?hyf4⟩) hHeld ?restf4
            case hyf4 => (intro w hSw; go_simp; first | done | (with_reducible rfl))
            try simp only [Act.put, List.getElem_toArray, List.getElem_cons_succ, List.getElem_cons_zero, List.setIfInBounds_toArray, List.set_cons_zero, List.set_cons_succ]
            refine wpAnyH_take (i := 4) (oi := _) (v := ?vf5) rfl (by kernel_rfl) (by kernel_rfl) (by kernel_rfl) (fun _ _ _ h => h) (Or.inl ⟨by kernel_rfl, ?hyf5⟩) hHeld ?restf5
            case hyf5 => (intro w hSw; go_simp; first | done | (with_reducible rfl))
            try simp only [Act.put, List.getElem_toArray, List.getElem_cons_succ, List.getElem_cons_zero, List.setIfInBounds_toArray, List.set_cons_zero, List.set_cons_succ]
            refine wpAnyH_take (i := 5) (oi := _) (v := ?vf6) rfl (by kernel_rfl) (by kernel_rfl) (by kernel_rfl) (fun _ _ _ h => h) (Or.inl ⟨by kernel_rfl, ?hyf6⟩) hHeld ?restf6
            case hyf6 => (intro w hSw; go_simp; first | done | (with_reducible rfl))
            try simp only [Act.put, List.getElem_toArray, List.getElem_cons_succ, List.getElem_cons_zero, List.setIfInBounds_toArray, List.set_cons_zero, List.set_cons_succ]
            refine wpAnyH_take (i := 6) (oi := _) (v := ?vf7) rfl (by kernel_rfl) (by kernel_rfl) (by kernel_rfl) (fun _ _ _ h => h) (Or.inl ⟨by kernel_rfl, ?hyf7⟩) hHeld ?restf7
            case hyf7 => (intro w hSw; have kr0 := keepC hSw r0; have kr1 := keepC hSw r1; have kq0 := keepC hSw q0; have kq1 := keepC hSw q1; go_simp; first | done | (with_reducible rfl))
            try simp only [Act.put, List.getElem_toArray, List.getElem_cons_succ, List.getElem_cons_zero, List.setIfInBounds_toArray, List.set_cons_zero, List.set_cons_succ]
            refine wpAnyH_take (i := 7) (oi := _) (v := ?vf8) rfl (by kernel_rfl) (by kernel_rfl) (by kernel_rfl) (fun _ _ _ h => h) (Or.inl ⟨by kernel_rfl, ?hyf8⟩) hHeld ?restf8
            case hyf8 => (intro w hSw; go_simp; first | done | (with_reducible rfl))
            try simp only [Act.put, List.getElem_toArray, List.getElem_cons_succ, List.getElem_cons_zero, List.setIfInBounds_toArray, List.set_cons_zero, List.set_cons_succ]
            refine wpAnyH_take (i := 8) (oi := _) (v := ?vf9) rfl (by kernel_rfl) (by kernel_rfl) (by kernel_rfl) (fun _ _ _ h => h) (Or.inl ⟨by kernel_rfl, ?hyf9⟩) hHeld ?restf9
            case hyf9 => (intro w hSw; go_simp; first | done | (with_reducible rfl))
            try simp only [Act.put, List.getElem_toArray, List.getElem_cons_succ, List.getElem_cons_zero, List.setIfInBounds_toArray, List.set_cons_zero, List.set_cons_succ]
            refine wpAnyH_take (i := 9) (oi := _) (v := ?vf10) rfl (by kernel_rfl) (by kernel_rfl) (by kernel_rfl) (fun _ _ _ h => h) (Or.inl ⟨by kernel_rfl, ?hyf10⟩) hHeld ?restf10
            case hyf10 => (intro w hSw; go_simp; first | done | (with_reducible rfl))
            try simp only [Act.put, List.getElem_toArray, List.getElem_cons_succ, List.getElem_cons_zero, List.setIfInBounds_toArray, List.set_cons_zero, List.set_cons_succ]
            refine wpAnyH_take (i := 10) (oi := _) (v := ?vf11) rfl (by kernel_rfl) (by kernel_rfl) (by kernel_rfl) (fun _ _ _ h => h) (Or.inl ⟨by kernel_rfl, ?hyf11⟩) hHeld ?restf11
            case hyf11 => (intro w hSw; go_simp; first | done | (with_reducible rfl))
            try simp only [Act.put, List.getElem_toArray, List.getElem_cons_succ, List.getElem_cons_zero, List.setIfInBounds_toArray, List.set_cons_zero, List.set_cons_succ]
            refine wpAnyH_take (i := 11) (oi := _) (v := ?vf12) rfl (by kernel_rfl) (by kernel_rfl) (by kernel_rfl) (fun _ _ _ h => h) (Or.inl ⟨by kernel_rfl, ?hyf12⟩) hHeld ?restf12
            case hyf12 => (intro w hSw; have kr0 := keepC hSw r0; have kr1 := keepC hSw r1; have kq0 := keepC hSw q0; have kq1 := keepC hSw q1; go_simp; first | done | (with_reducible rfl))
            try simp only [Act.put, List.getElem_toArray, List.getElem_cons_succ, List.getElem_cons_zero, List.setIfInBounds_toArray, List.set_cons_zero, List.set_cons_succ]
            refine wpAnyH_ready (rs := [12]) (by kernel_rfl) (by simp) (AllReadyH.cons (o := _) rfl (fun K hK => ?_) AllReadyH.nil)
            go_simp
            refine (LS.out _).mono ?_
            rintro e wf13 ⟨rfl, hb3⟩
            go_wp2_with fail
            refine hK.out _ _ (keepB hHeld hb3) (fun hNew => ?_)
            clear hb3
            clear hHeld hK K
            have hHeld := hNew
            clear hNew
            try simp only [Act.put, List.getElem_toArray, List.getElem_cons_succ, List.getElem_cons_zero, List.setIfInBounds_toArray, List.set_cons_zero, List.set_cons_succ]
            refine wpAnyH_take (i := 13) (oi := _) (v := ?vf14) rfl (by kernel_rfl) (by kernel_rfl) (by kernel_rfl) (fun _ _ _ h => h) (Or.inl ⟨by kernel_rfl, ?hyf14⟩) hHeld ?restf14
            case hyf14 => (intro w hSw; go_simp; first | done | (with_reducible rfl))
            try simp only [Act.put, List.getElem_toArray, List.getElem_cons_succ, List.getElem_cons_zero, List.setIfInBounds_toArray, List.set_cons_zero, List.set_cons_succ]
            refine wpAnyH_done (by kernel_rfl) ?_ _
            refine NoPanic.normal ?_
            replace hR := hR.keep hHeld
            replace r0 := keepC hHeld r0
            replace r1 := keepC hHeld r1
            replace q0 := keepC hHeld q0
            replace q1 := keepC hHeld q1
            clear fr0 fr1 fq0 fq1
            have fr0 := World.ownsRow.frozenAt hR.row ((i + 1) * 2)
            have fr1 := World.ownsRow.frozenAt hR.row ((i + 1) * 2 + 1)
            have fq0 := World.ownsRow.frozenAt hR.row (i * 2)
            have fq1 := World.ownsRow.frozenAt hR.row (i * 2 + 1)
            clear hHeld
            go_upto_region 10 with fail
            go_region
            have hnew := ((hR.put2 i r).put2 (i + 1) q).drew
            rw [← HQ.out, Pc.lay_swap (by have := HNL.out; omega), HQ.out] at hnew
            clear fr0 fr1 fq0 fq1 r0 r1 q0 q1
            go_wp2_with fail
            go_roundw
            case rel => exact ⟨i, by omega, by go_num, ED.out, hnew⟩
            case measure => simp [intOf]
          · rw [decide_eq_false hlt2] at ls
            have LS := Lib.hid ls
            have EI := Lib.hid (Pc.inc_lay (k := i + 1) HIN.out (Pc.take_lt HIN.out (by omega) (by rw [hq]; have : q ≠ r := fun e => HNOT.out (e ▸ hqm); grind)) HDR.out)
            clear hq hqm hfq ls hlt2 hln
            go_upto_region 8 with fail
            refine wp_region_noPanic ?_
            refine wp_region_held_drew (S := (Below wr.heap.size wr)) (by kernel_rfl) ((Below.refl _ _).drew) (fun hHeld => ?_)
            refine at_anyH (Below wr.heap.size wr) hHeld (fun wh0 hNew => ?_)
            clear hHeld
            have hHeld := hNew
            clear hNew
            refine wpAnyH_take (i := 0) (oi := _) (v := ?vh1) rfl (by kernel_rfl) (by kernel_rfl) (by kernel_rfl) (fun _ _ _ h => h) (Or.inl ⟨by kernel_rfl, ?hyh1⟩) hHeld ?resth1
            case hyh1 => (intro w hSw; go_simp; first | done | (with_reducible rfl))
            try simp only [Act.put, List.getElem_toArray, List.getElem_cons_succ, List.getElem_cons_zero, List.setIfInBounds_toArray, List.set_cons_zero, List.set_cons_succ]
            refine wpAnyH_take (i := 1) (oi := _) (v := ?vh2) rfl (by kernel_rfl) (by kernel_rfl) (by kernel_rfl) (fun _ _ _ h => h) (Or.inl ⟨by kernel_rfl, ?hyh2⟩) hHeld ?resth2
            case hyh2 => (intro w hSw; go_simp; first | done | (with_reducible rfl))
            try simp only [Act.put, List.getElem_toArray, List.getElem_cons_succ, List.getElem_cons_zero, List.setIfInBounds_toArray, List.set_cons_zero, List.set_cons_succ]
            refine wpAnyH_take (i := 2) (oi := _) (v := ?vh3) rfl (by kernel_rfl) (by kernel_rfl) (by kernel_rfl) (fun _ _ _ h => h) (Or.inl ⟨by kernel_rfl, ?hyh3⟩) hHeld ?resth3
            case hyh3 => (intro w hSw; go_simp; first | done | (with_reducible rfl))
            try simp only [Act.put, List.getElem_toArray, List.getElem_cons_succ, List.getElem_cons_zero, List.setIfInBounds_toArray, List.set_cons_zero, List.set_cons_succ]
            refine wpAnyH_take (i := 3) (oi := _) (v := ?vh4) rfl (by kernel_rfl) (by kernel_rfl) (by kernel_rfl) (fun _ _ _ h => h) (Or.inl ⟨by kernel_rfl, ?hyh4⟩) hHeld ?resth4
            case hyh4 => (intro w hSw; go_simp; first | done | (with_reducible rfl))
            try simp only [Act.put, List.getElem_toArray, List.getElem_cons_succ, List.getElem_cons_zero, List.setIfInBounds_toArray, List.set_cons_zero, List.set_cons_succ]
            refine wpAnyH_take (i := 4) (oi := _) (v := ?vh5) rfl (by kernel_rfl) (by kernel_rfl) (by kernel_rfl) (fun _ _ _ h => h) (Or.inl ⟨by kernel_rfl, ?hyh5⟩) hHeld ?resth5
            case hyh5 => (intro w hSw; go_simp; first | done | (with_reducible rfl))
            try simp only [Act.put, List.getElem_toArray, List.getElem_cons_succ, List.getElem_cons_zero, List.setIfInBounds_toArray, List.set_cons_zero, List.set_cons_succ]
            refine wpAnyH_take (i := 5) (oi := _) (v := ?vh6) rfl (by kernel_rfl) (by kernel_rfl) (by kernel_rfl) (fun _ _ _ h => h) (Or.inl ⟨by kernel_rfl, ?hyh6⟩) hHeld ?resth6
            case hyh6 => (intro w hSw; go_simp; first | done | (with_reducible rfl))
            try simp only [Act.put, List.getElem_toArray, List.getElem_cons_succ, List.getElem_cons_zero, List.setIfInBounds_toArray, List.set_cons_zero, List.set_cons_succ]
            refine wpAnyH_take (i := 6) (oi := _) (v := ?vh7) rfl (by kernel_rfl) (by kernel_rfl) (by kernel_rfl) (fun _ _ _ h => h) (Or.inl ⟨by kernel_rfl, ?hyh7⟩) hHeld ?resth7
            case hyh7 => (intro w hSw; have kr0 := keepC hSw r0; have kr1 := keepC hSw r1; have kq0 := keepC hSw q0; have kq1 := keepC hSw q1; go_simp; first | done | (with_reducible rfl))
            try simp only [Act.put, List.getElem_toArray, List.getElem_cons_succ, List.getElem_cons_zero, List.setIfInBounds_toArray, List.set_cons_zero, List.set_cons_succ]
            refine wpAnyH_take (i := 7) (oi := _) (v := ?vh8) rfl (by kernel_rfl) (by kernel_rfl) (by kernel_rfl) (fun _ _ _ h => h) (Or.inl ⟨by kernel_rfl, ?hyh8⟩) hHeld ?resth8
            case hyh8 => (intro w hSw; go_simp; first | done | (with_reducible rfl))
            try simp only [Act.put, List.getElem_toArray, List.getElem_cons_succ, List.getElem_cons_zero, List.setIfInBounds_toArray, List.set_cons_zero, List.set_cons_succ]
            refine wpAnyH_take (i := 8) (oi := _) (v := ?vh9) rfl (by kernel_rfl) (by kernel_rfl) (by kernel_rfl) (fun _ _ _ h => h) (Or.inl ⟨by kernel_rfl, ?hyh9⟩) hHeld ?resth9
            case hyh9 => (intro w hSw; go_simp; first | done | (with_reducible rfl))
            try simp only [Act.put, List.getElem_toArray, List.getElem_cons_succ, List.getElem_cons_zero, List.setIfInBounds_toArray, List.set_cons_zero, List.set_cons_succ]
            refine wpAnyH_take (i := 9) (oi := _) (v := ?vh10) rfl (by kernel_rfl) (by kernel_rfl) (by kernel_rfl) (fun _ _ _ h => h) (Or.inl ⟨by kernel_rfl, ?hyh10⟩) hHeld ?resth10
            case hyh10 => (intro w hSw; go_simp; first | done | (with_reducible rfl))
            try simp only [Act.put, List.getElem_toArray, List.getElem_cons_succ, List.getElem_cons_zero, List.setIfInBounds_toArray, List.set_cons_zero, List.set_cons_succ]
            refine wpAnyH_take (i := 10) (oi := _) (v := ?vh11) rfl (by kernel_rfl) (by kernel_rfl) (by kernel_rfl) (fun _ _ _ h => h) (Or.inl ⟨by kernel_rfl, ?hyh11⟩) hHeld ?resth11
            case hyh11 => (intro w hSw; go_simp; first | done | (with_reducible rfl))
            try simp only [Act.put, List.getElem_toArray, List.getElem_cons_succ, List.getElem_cons_zero, List.setIfInBounds_toArray, List.set_cons_zero, List.set_cons_succ]
            refine wpAnyH_take (i := 11) (oi := _) (v := ?vh12) rfl (by kernel_rfl) (by kernel_rfl) (by kernel_rfl) (fun _ _ _ h => h) (Or.inl ⟨by kernel_rfl, ?hyh12⟩) hHeld ?resth12
            case hyh12 => (intro w hSw; have kr0 := keepC hSw r0; have kr1 := keepC hSw r1; have kq0 := keepC hSw q0; have kq1 := keepC hSw q1; go_simp; first | done | (with_reducible rfl))
            try simp only [Act.put, List.getElem_toArray, List.getElem_cons_succ, List.getElem_cons_zero, List.setIfInBounds_toArray, List.set_cons_zero, List.set_cons_succ]
            refine wpAnyH_ready (rs := [12]) (by kernel_rfl) (by simp) (AllReadyH.cons (o := _) rfl (fun K hK => ?_) AllReadyH.nil)
            go_simp
            refine (LS.out _).mono ?_
            rintro e wh13 ⟨rfl, hb3⟩
            go_wp2_with fail
            refine hK.out _ _ (keepB hHeld hb3) (fun hNew => ?_)
            clear hb3
            clear hHeld hK K
            have hHeld := hNew
            clear hNew
            try simp only [Act.put, List.getElem_toArray, List.getElem_cons_succ, List.getElem_cons_zero, List.setIfInBounds_toArray, List.set_cons_zero, List.set_cons_succ]
            refine wpAnyH_take (i := 13) (oi := _) (v := ?vh14) rfl (by kernel_rfl) (by kernel_rfl) (by kernel_rfl) (fun _ _ _ h => h) (Or.inl ⟨by kernel_rfl, ?hyh14⟩) hHeld ?resth14
            case hyh14 => (intro w hSw; go_simp; first | done | (with_reducible rfl))
            try simp only [Act.put, List.getElem_toArray, List.getElem_cons_succ, List.getElem_cons_zero, List.setIfInBounds_toArray, List.set_cons_zero, List.set_cons_succ]
            refine wpAnyH_done (by kernel_rfl) ?_ _
            refine NoPanic.normal ?_
            replace hR := hR.keep hHeld
            clear hHeld
            go_wp2_with fail
            go_ret
            first
              | exact ⟨_, rfl, Pc.lay l r (i + 1), EI.out, Pc.lay_mem l r (i + 1), by rw [Pc.lay_len, HNL.out]; exact Nat.le_refl _, by rw [Pc.lay_len, HNL.out]; exact hR.row, hR.bb⟩
              | exact ⟨_, Pc.lay l r (i + 1), rfl, EI.out, Pc.lay_mem l r (i + 1), by rw [Pc.lay_len, HNL.out]; exact Nat.le_refl _, by rw [Pc.lay_len, HNL.out]; exact hR.row, hR.bb⟩
end Go.Proofs.Ytomokdepndclpaa
