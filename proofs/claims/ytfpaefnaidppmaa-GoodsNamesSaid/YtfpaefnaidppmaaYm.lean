/- Slices of pairs of ints; package room: Envies. The reference of layer 14: Check, Valid. The reference's Envies. The reference of layer 14: Great, SamePairs and Same of equal arguments. -/
import Derived.Test.YtfpaefnaidppmaaYl
import Derived.Test.YtfpaefnaidppmaaYf
import Derived.Deep.RegionHeld3
import Derived.Test.YtfpaefnaidppmaaYg
import Derived.Deep.QuietTactic
import Derived.BigQuiet
import Derived.ChangeKeysEq
namespace Go.Proofs.Ytfpaefnaidppmaa
open Go.RowKit
/-- The cells of pairs. -/
def pcs (l : List (Nat × Nat)) : List Value := l.flatMap fun x => [.int .i64 (x.1 : Int), .int .i64 (x.2 : Int)]
theorem pcs_app (l m : List (Nat × Nat)) : pcs (l ++ m) = pcs l ++ pcs m := List.flatMap_append
theorem pcs_len : ∀ (l : List (Nat × Nat)), (pcs l).length = l.length * 2
  | [] => rfl
  | r :: l => by
    have := pcs_len l
    unfold pcs at this ⊢
    simp only [List.flatMap_cons, List.length_append, this, List.length_cons, List.length_nil]
    omega
theorem pcs_at : ∀ {l : List (Nat × Nat)} {k : Nat}, k < l.length → (pcs l)[k * 2]? = some (.int .i64 ((l.getD k (0, 0)).1 : Int)) ∧ (pcs l)[k * 2 + 1]? = some (.int .i64 ((l.getD k (0, 0)).2 : Int))
  | r :: l, 0, _ => ⟨rfl, rfl⟩
  | r :: l, k + 1, h => by
    have ih := pcs_at (l := l) (k := k) (by simpa using h)
    have e : pcs (r :: l) = .int .i64 (r.1 : Int) :: .int .i64 (r.2 : Int) :: pcs l := rfl
    rw [e, show (k + 1) * 2 = k * 2 + 1 + 1 by omega, show k * 2 + 1 + 1 + 1 = (k * 2 + 1) + 1 + 1 by omega]
    simp only [List.getElem?_cons_succ, List.getD_cons_succ]
    exact ih
/-- A slice of pairs. -/
def IsP (w : World) (A : Option Addr) (l : List (Nat × Nat)) : Prop :=
  0 < l.length → ∃ b off, A = some ⟨b, off, none⟩ ∧ ∀ i, i < l.length → w.cell? ⟨b, off + i * 2, none⟩ = some (.int .i64 ((l.getD i (0, 0)).1 : Int)) ∧ w.cell? ⟨b, off + i * 2 + 1, none⟩ = some (.int .i64 ((l.getD i (0, 0)).2 : Int))
theorem IsP.keep {w v : World} {A : Option Addr} {l : List (Nat × Nat)} (h : IsP w A l) (hb : Below w.heap.size w v) : IsP v A l := fun h0 => by
  obtain ⟨b, off, e, hc⟩ := h h0
  exact ⟨b, off, e, fun i hi => ⟨keepC hb (hc i hi).1, keepC hb (hc i hi).2⟩⟩
theorem isP_nil (w : World) (A : Option Addr) : IsP w A [] := fun h => absurd h (by simp)
theorem isP_row {w : World} {B : Nat} {e : TypeId} {A : Option Addr} {n cap : Nat} {l : List (Nat × Nat)} (h : w.ownsRow B e 2 (.slice A n cap) n (pcs l)) (hn : n = l.length) : IsP w A l := fun h0 => by
  obtain ⟨g, cap', hv, _, hlt⟩ := World.ownsRow.form h (by omega)
  simp only [Value.slice.injEq] at hv
  obtain ⟨rfl, _, rfl⟩ := hv
  refine ⟨g, 0, rfl, fun i hi => ?_⟩
  rw [Nat.zero_add, World.ownsRow.cellAt h (i * 2) (by omega), World.ownsRow.cellAt h (i * 2 + 1) (by omega)]
  exact pcs_at hi
theorem pairInfo : (Try.prog.info? 58).map (fun i => (i.zero, i.size, i.bytes)) = some (some (.agg #[.int .i64 0, .int .i64 0]), 2, 16) := by kernel_rfl
namespace As
/-- What Envies returns. -/
def enS (V : List (List Int)) (R : Int) (xs ps : List Int) (D : Int) : List (Nat × Nat) := if vld V R xs ps D = 0 then envl V (xs.map Int.toNat) ps D V.length else []
theorem enS_no {V : List (List Int)} {R : Int} {xs ps : List Int} {D : Int} (h : vld V R xs ps D ≠ 0) : enS V R xs ps D = [] := by unfold enS; rw [if_neg h]
theorem enS_yes {V : List (List Int)} {R : Int} {a : List Nat} {ps : List Int} {D : Int} (h : vld V R (al a) ps D = 0) : enS V R (al a) ps D = envl V a ps D V.length := by unfold enS; rw [if_pos h, toNat_al]
theorem env1_le (V : List (List Int)) (a : List Nat) (ps : List Int) (D : Int) (i m : Nat) : (env1 V a ps D i m).length ≤ m := by
  unfold env1
  rw [List.length_map]
  exact Nat.le_trans (List.length_filter_le _ _) (by simp)
theorem envl_le {V : List (List Int)} (n6 : V.length ≤ 6) (a : List Nat) (ps : List Int) (D : Int) : ∀ k, (envl V a ps D k).length ≤ 6 * k
  | 0 => by simp [envl]
  | k + 1 => by
    rw [envl_succ, List.length_append]
    have := envl_le n6 a ps D k
    have := env1_le V a ps D k V.length
    omega
end As
/-- What Envies gives. -/
def EnQ (w : World) (V : List (List Int)) (R : Int) (xs ps : List Int) (D : Int) (e : Ending) (w' : World) : Prop :=
  ∃ X c, e = .returned (.tuple #[.slice X (As.enS V R xs ps D).length c, .int .i64 (As.vld V R xs ps D)]) ∧ IsP w' X (As.enS V R xs ps D) ∧ Below w.heap.size w w'
/-- Pairs of the call's own. -/
def OwnP (w : World) (B : Nat) (v : Value) (l : List (Nat × Nat)) : Prop := w.ownsRow B 58 2 v l.length (pcs l)
theorem OwnP.form {w : World} {B : Nat} {v : Value} {l : List (Nat × Nat)} (h : OwnP w B v l) : ∃ A cap, v = .slice A l.length cap := by
  rcases h.2 with ⟨h1, h2⟩ | ⟨g, cap, cur, h1, _⟩
  · exact ⟨none, 0, by rw [h1, h2]⟩
  · exact ⟨_, _, h1⟩
end Go.Proofs.Ytfpaefnaidppmaa
namespace Go.Proofs.Ytfpaefnaidppmaa
open Go.RowKit
namespace As
theorem leB_no {n : Nat} {R : Int} {xs ps : List Int} {D : Int} {j : Nat} (hj : j < n) (h : prB D (el ps j) = false) : leB n R xs ps D = false := by
  unfold leB
  have : (List.range n).all (fun j => prB D (el ps j)) = false := by rw [List.all_eq_false]; exact ⟨j, by simpa using hj, by rw [h]; simp⟩
  rw [this]
  simp
theorem leB_end {n : Nat} {R : Int} {xs ps : List Int} {D : Int} (ha : isA xs n = true) (hp : ps.length = n) (d1 : 1 ≤ D) (d2 : D ≤ 60) (h : ∀ j, j < n → prB D (el ps j) = true) : leB n R xs ps D = decide (sm (el ps) (List.range n) = D * R) := by
  unfold leB
  have : (List.range n).all (fun j => prB D (el ps j)) = true := by rw [List.all_eq_true]; intro j hj; exact h j (by simpa using hj)
  rw [this, ha, decide_eq_true hp, decide_eq_true d1, decide_eq_true d2]
  simp
theorem prB_bd {D x : Int} (h : prB D x = true) (d1 : 1 ≤ D) (d2 : D ≤ 60) : -1000000000 ≤ x ∧ x ≤ 1000000000 := by
  unfold prB at h
  simp only [Bool.and_eq_true, decide_eq_true_eq] at h
  omega
theorem vld_leB {V : List (List Int)} {R : Int} {xs ps : List Int} {D : Int} (h0 : rchk V R = 0) : vld V R xs ps D = if leB V.length R xs ps D = true then 0 else 8 := by unfold vld; rw [if_pos h0]
end As
end Go.Proofs.Ytfpaefnaidppmaa
namespace Go.Proofs.Ytfpaefnaidppmaa
open Go.RowKit
end Go.Proofs.Ytfpaefnaidppmaa
namespace Go.Proofs.Ytfpaefnaidppmaa
open Go.RowKit
/-- What Great gives. -/
def Gr14 (w : World) (V : List (List Int)) (nx np : Nat) (e : Ending) (w' : World) : Prop :=
  ∃ z, e = .returned (.bool z) ∧ (z = false → (V.length ≠ 6 ∧ V.length ≤ 20 ∧ ∀ i, i < V.length → (V.getD i []).length ≤ 50) ∧ nx ≤ 50 ∧ np ≤ 50) ∧ Below w.heap.size w w'
theorem Gr14.yes {w w' : World} {V : List (List Int)} {nx np : Nat} (h : Below w.heap.size w w') : Gr14 w V nx np (.returned (.bool true)) w' := ⟨true, rfl, fun h => (by cases h), h⟩
theorem Gr14.no {w w' : World} {V : List (List Int)} {nx np : Nat} (h : Below w.heap.size w w') (hV : V.length ≠ 6 ∧ V.length ≤ 20 ∧ ∀ i, i < V.length → (V.getD i []).length ≤ 50) (h1 : nx ≤ 50) (h2 : np ≤ 50) : Gr14 w V nx np (.returned (.bool false)) w' := ⟨false, rfl, fun _ => ⟨hV, h1, h2⟩, h⟩
theorem eq_pair (p q : Int) (v : World) : (Op.equalIn 10000 58 (.agg #[.int .i64 p, .int .i64 q]) (.agg #[.int .i64 p, .int .i64 q])).run Try.prog v = .ok true v := by
  obtain ⟨i0, hi0, hz0, hz1, hz2⟩ := info_parts intInfo
  have h := run_equalIn_array v 9999 #[Value.int .i64 p, .int .i64 q] #[Value.int .i64 p, .int .i64 q] Try.underlying58 hi0
  rw [cellsInt] at h
  refine h.trans ?_
  have r2 : List.range 2 = [0, 1] := rfl
  rw [r2]
  simp only [Op.eqItems]
  go_simp
set_option maxRecDepth 100000 in
set_option maxHeartbeats 4000000 in
theorem samePairs_eq (A : Option Addr) (ca : Nat) (B : Option Addr) (cb : Nat) (l : List (Nat × Nat)) (w : World) (hl : l.length ≤ maxLen) (hA : IsP w A l) (hB : IsP w B l) :
    Calls Try.prog 22 #[.slice A l.length ca, .slice B l.length cb] w fun e w' => e = .returned (.bool true) ∧ Below w.heap.size w w' := by
  unfold maxLen at hl
  have HA := Lib.hid hA
  have HB := Lib.hid hB
  clear hA hB
  have e0 : ((l.length : Int) != l.length) = false := by simp
  go_enter Try.func22, Try.ntmps22
  go_wp2_with fail
  go_loopw [5] (fun i W => ∃ k : Nat, k ≤ l.length ∧ i = .int .i64 k ∧ Below w.heap.size w W) (fun i _ => l.length - (intOf i).toNat)
  case atStart => exact ⟨0, Nat.zero_le _, rfl, Below.refl _ _⟩
  case round =>
    obtain ⟨k, hk, rfl, hbb⟩ := hrel
    by_cases hlt : k < l.length
    · obtain ⟨b1, o1, rfl, h1⟩ := HA.out (by omega)
      obtain ⟨b2, o2, rfl, h2⟩ := HB.out (by omega)
      have x1 := keepC hbb (h1 k hlt).1
      have x2 := keepC hbb (h1 k hlt).2
      have y1 := keepC hbb (h2 k hlt).1
      have y2 := keepC hbb (h2 k hlt).2
      have HBB := Lib.hid hbb
      clear h1 h2
      generalize (((l.getD k (0, 0)).1 : Nat) : Int) = p at *
      generalize (((l.getD k (0, 0)).2 : Nat) : Int) = q at *
      have EQ := eq_pair p q
      go_upto_region 6 with fail
      go_region_held3 (fun v => v.cell? ⟨b1, o1 + k * 2, none⟩ = some (.int .i64 p) ∧ v.cell? ⟨b1, o1 + k * 2 + 1, none⟩ = some (.int .i64 q) ∧ v.cell? ⟨b2, o2 + k * 2, none⟩ = some (.int .i64 p) ∧ v.cell? ⟨b2, o2 + k * 2 + 1, none⟩ = some (.int .i64 q))
        (first | (exact ⟨x1, x2, y1, y2⟩))
        (fail)
      all_goals
        go_wp2_with fail
        go_roundw
        case rel => exact ⟨k + 1, by omega, by go_num, by first | exact HBB.out | exact HBB.out.drew⟩
        case measure => simp [intOf]; omega
    · obtain rfl : k = l.length := by omega
      go_wp2_with fail
      go_ret
      exact ⟨rfl, hbb⟩
end Go.Proofs.Ytfpaefnaidppmaa
