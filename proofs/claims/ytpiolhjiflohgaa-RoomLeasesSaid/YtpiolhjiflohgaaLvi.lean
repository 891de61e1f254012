/- The reference of layer 14: Great, SamePairs and Same of equal arguments. -/
import Derived.Test.YtpiolhjiflohgaaLvh
import Derived.Test.YtpiolhjiflohgaaAst
import Derived.Test.YtpiolhjiflohgaaAso
import Derived.ChangeKeysEq
namespace Go.Proofs.Ytpiolhjiflohgaa
open Go.RowKit
/-- What Great gives. -/
def Gr14 (w : World) (V : List (List Int)) (nx np : Nat) (e : Ending) (w' : World) : Prop :=
  ∃ z, e = .returned (.bool z) ∧ (z = false → (V.length ≠ 6 ∧ V.length ≤ 20 ∧ ∀ i, i < V.length → (V.getD i []).length ≤ 50) ∧ nx ≤ 50 ∧ np ≤ 50) ∧ Below w.heap.size w w'
theorem Gr14.yes {w w' : World} {V : List (List Int)} {nx np : Nat} (h : Below w.heap.size w w') : Gr14 w V nx np (.returned (.bool true)) w' := ⟨true, rfl, fun h => (by cases h), h⟩
theorem Gr14.no {w w' : World} {V : List (List Int)} {nx np : Nat} (h : Below w.heap.size w w') (hV : V.length ≠ 6 ∧ V.length ≤ 20 ∧ ∀ i, i < V.length → (V.getD i []).length ≤ 50) (h1 : nx ≤ 50) (h2 : np ≤ 50) : Gr14 w V nx np (.returned (.bool false)) w' := ⟨false, rfl, fun _ => ⟨hV, h1, h2⟩, h⟩
set_option maxHeartbeats 2000000 in
theorem r14Great_any (A : Option Addr) (cv : Nat) (V : List (List Int)) (R : Int) (B : Option Addr) (ca nx : Nat) (C : Option Addr) (cp np : Nat) (D : Int) (w : World) (hl : V.length ≤ maxLen) (h : IsM w A V) (hx : nx ≤ maxLen) (hp : np ≤ maxLen) :
    Calls Try.prog 9 #[.agg #[.slice A V.length cv, .int .i64 R], .agg #[.slice B nx ca, .slice C np cp, .int .i64 D]] w (Gr14 w V nx np) := by
  have CG := Lib.hid (fun v (hv : Below w.heap.size w v) => rGreat_any A cv V v hl (h.keep hv))
  clear h
  unfold maxLen at hl hx hp
  go_enter Try.func9, Try.ntmps9
  go_upto_region 1 with fail
  refine at_box2 (fun V0 hbb b0 b1 hsz => ?_)
  clear hsz
  have c0 := b0.c 0 rfl
  have k0 := b1.c 0 rfl
  have k1 := b1.c 1 rfl
  go_wp2_with fail
  refine (CG.out _ hbb).mono ?_
  rintro e w1 ⟨z, rfl, hz, hb1⟩
  replace c0 := keepC hb1 c0
  replace k0 := keepC hb1 k0
  replace k1 := keepC hb1 k1
  replace hbb := keepB hbb hb1
  have HBB := Lib.hid hbb
  have HZ := Lib.hid hz
  clear hb1 b0 b1 hz hbb
  cases z with
  | true =>
    go_wp2_with fail
    go_ret
    exact Gr14.yes HBB.out
  | false =>
    by_cases h1 : 50 < nx
    · have d1 : decide ((50 : Int) < (nx : Int)) = true := by rw [decide_eq_true_eq]; omega
      go_wp2_with fail
      go_ret
      exact Gr14.yes HBB.out
    · have d1 : decide ((50 : Int) < (nx : Int)) = false := by rw [decide_eq_false_iff_not]; omega
      by_cases h2 : 50 < np
      · have d2 : decide ((50 : Int) < (np : Int)) = true := by rw [decide_eq_true_eq]; omega
        go_wp2_with fail
        go_ret
        exact Gr14.yes HBB.out
      · have d2 : decide ((50 : Int) < (np : Int)) = false := by rw [decide_eq_false_iff_not]; omega
        have HF := Lib.hid (Gr14.no (nx := nx) (np := np) HBB.out (HZ.out rfl) (by omega) (by omega))
        go_wp2_with fail
        go_ret
        exact HF.out
theorem eq_pair (p q : Int) (v : World) : (Op.equalIn 10000 91 (.agg #[.int .i64 p, .int .i64 q]) (.agg #[.int .i64 p, .int .i64 q])).run Try.prog v = .ok true v := by
  obtain ⟨i0, hi0, hz0, hz1, hz2⟩ := info_parts intInfo
  have h := run_equalIn_array v 9999 #[Value.int .i64 p, .int .i64 q] #[Value.int .i64 p, .int .i64 q] Try.underlying91 hi0
  rw [cellsInt] at h
  refine h.trans ?_
  have r2 : List.range 2 = [0, 1] := rfl
  rw [r2]
  simp only [Op.eqItems]
  go_simp
set_option maxRecDepth 100000 in
set_option maxHeartbeats 4000000 in
theorem samePairs_eq (A : Option Addr) (ca : Nat) (B : Option Addr) (cb : Nat) (l : List (Nat × Nat)) (w : World) (hl : l.length ≤ maxLen) (hA : IsP w A l) (hB : IsP w B l) :
    Calls Try.prog 28 #[.slice A l.length ca, .slice B l.length cb] w fun e w' => e = .returned (.bool true) ∧ Below w.heap.size w w' := by
  unfold maxLen at hl
  have HA := Lib.hid hA
  have HB := Lib.hid hB
  clear hA hB
  have e0 : ((l.length : Int) != l.length) = false := by simp
  go_enter Try.func28, Try.ntmps28
  go_wp2_with fail
  go_loopw [5] (fun i W => ∃ k : Nat, k ≤ l.length ∧ i = .int .i64 k ∧ Below w.heap.size w W) (fun i _ => l.length - (intOf i).toNat)
  case atStart => exact ⟨0, Nat.zero_le _, rfl, Below.refl _ _⟩
  case round =>
    obtain ⟨k, hk, rfl, hbb⟩ := hrel
    by_cases hlt : k < l.length
    · obtain ⟨b1, o1, rfl, h1⟩ := HA.out (by omega)
      obtain ⟨b2, o2, rfl, h2⟩ := HB.out (by omega)
      have x1 := keepC hbb (h1 k hlt).1
      have x2 := keepC hbb (h1 k hlt).2
      have y1 := keepC hbb (h2 k hlt).1
      have y2 := keepC hbb (h2 k hlt).2
      have HBB := Lib.hid hbb
      clear h1 h2
      generalize (((l.getD k (0, 0)).1 : Nat) : Int) = p at *
      generalize (((l.getD k (0, 0)).2 : Nat) : Int) = q at *
      have EQ := eq_pair p q
      go_upto_region 6 with fail
      go_region_held3 (fun v => v.cell? ⟨b1, o1 + k * 2, none⟩ = some (.int .i64 p) ∧ v.cell? ⟨b1, o1 + k * 2 + 1, none⟩ = some (.int .i64 q) ∧ v.cell? ⟨b2, o2 + k * 2, none⟩ = some (.int .i64 p) ∧ v.cell? ⟨b2, o2 + k * 2 + 1, none⟩ = some (.int .i64 q))
        (first | (exact ⟨x1, x2, y1, y2⟩))
        (fail)
      all_goals
        go_wp2_with fail
        go_roundw
        case rel => exact ⟨k + 1, by omega, by go_num, by first | exact HBB.out | exact HBB.out.drew⟩
        case measure => simp [intOf]; omega
    · obtain rfl : k = l.length := by omega
      go_wp2_with fail
      go_ret
      exact ⟨rfl, hbb⟩
set_option maxRecDepth 100000 in
set_option maxHeartbeats 2000000 in
theorem lsame_eq (A : Option Addr) (ca : Nat) (A' : Option Addr) (ca' : Nat) (B : Option Addr) (cb : Nat) (B' : Option Addr) (cb' : Nat) (xs ps : List Int) (nx np : Nat) (D : Int) (w : World) (hx : xs.length ≤ maxLen) (hp : ps.length ≤ maxLen) (ex : nx = xs.length) (ep : np = ps.length) (hA : IsI w A xs) (hA' : IsI w A' xs) (hB : IsI w B ps) (hB' : IsI w B' ps) :
    Calls Try.prog 19 #[.agg #[.slice A nx ca, .slice B np cb, .int .i64 D], .agg #[.slice A' nx ca', .slice B' np cb', .int .i64 D]] w fun e w' => e = .returned (.bool true) ∧ Below w.heap.size w w' := by
  subst ex ep
  have C1 := Lib.hid (fun v (hv : Below w.heap.size w v) => same_eq A ca A' ca' xs v hx (hA.keep hv) (hA'.keep hv))
  have C2 := Lib.hid (fun v (hv : Below w.heap.size w v) => same_eq B cb B' cb' ps v hp (hB.keep hv) (hB'.keep hv))
  have e0 : (D == D) = true := by simp
  clear hA hA' hB hB' hx hp
  generalize xs.length = nx at *
  generalize ps.length = np at *
  go_enter Try.func19, Try.ntmps19
  go_upto_region 1 with fail
  refine at_box2 (fun V0 hbb b0 b1 hsz => ?_)
  clear hsz
  have c0 := b0.c 0 rfl
  have c1 := b0.c 1 rfl
  have c2 := b0.c 2 rfl
  have k0 := b1.c 0 rfl
  have k1 := b1.c 1 rfl
  have k2 := b1.c 2 rfl
  go_wp2_with fail
  refine (C1.out _ hbb).mono ?_
  rintro e w1 ⟨rfl, hb1⟩
  replace c1 := keepC hb1 c1
  replace k1 := keepC hb1 k1
  replace hbb := keepB hbb hb1
  clear hb1 b0 b1 c0 c2 k0 k2
  go_wp2_with fail
  refine (C2.out _ hbb).mono ?_
  rintro e w2 ⟨rfl, hb1⟩
  replace hbb := keepB hbb hb1
  clear hb1 c1 k1
  go_wp2_with fail
  go_ret
  exact ⟨rfl, hbb⟩
end Go.Proofs.Ytpiolhjiflohgaa
