/- The reference's Gains. Slices of pairs of ints; package room: Envies. The reference of layer 14: Check, Valid. The reference's Envies. The reference of layer 14: Great, SamePairs and Same of equal arguments. -/
import Derived.Test.YtncmffhoodfhjaaGreatYl
import Derived.Test.YtncmffhoodfhjaaGreatYf
import Derived.Deep.RegionHeld3
import Derived.Test.YtncmffhoodfhjaaGreatYg
import Derived.Deep.QuietTactic
import Derived.BigQuiet
import Derived.ChangeKeysEq
namespace Go.Proofs.YtncmffhoodfhjaaGreat
open Go.RowKit
set_option maxRecDepth 100000 in
set_option maxHeartbeats 4000000 in
theorem rGains_any (A : Option Addr) (cv : Nat) (V : List (List Int)) (R : Int) (B : Option Addr) (ca : Nat) (xs : List Int) (C : Option Addr) (cp : Nat) (ps : List Int) (D : Int) (w : World) (h : IsM w A V) (hB : IsI w B xs) (hC : IsI w C ps)
    (hRV : ∀ v, Below w.heap.size w v → Calls Tryz.prog 49 #[.agg #[.slice A V.length cv, .int .i64 R], .agg #[.slice B xs.length ca, .slice C ps.length cp, .int .i64 D]] v fun e w' => e = .returned (.int .i64 (As.vld V R xs ps D)) ∧ Below v.heap.size v w') :
    Calls Tryz.prog 30 #[.agg #[.slice A V.length cv, .int .i64 R], .agg #[.slice B xs.length ca, .slice C ps.length cp, .int .i64 D]] w (GnQ w V R xs ps D) := by
  rcases As.vld_cases V R xs ps D with h0 | ⟨h1, h2⟩
  · rw [h0] at hRV
    obtain ⟨a, rfl, hL⟩ := ls_of h0 h hB hC
    have la := hL.la
    have lp := hL.le.len
    have n6 := hL.ok.n6
    have HF := Lib.hid (show ∀ (X : Option Addr) (c Bs : Nat) (w' : World), Own w' Bs (.slice X V.length c) (As.gnl V a ps D V.length) → Below w.heap.size w w' → GnQ w V R (As.al a) ps D (.returned (.tuple #[.slice X V.length c, .int .i64 0])) w' from fun X c Bs w' hO hb => ⟨X, c, by rw [As.gnS_yes h0, As.gnl_len, h0], by
      rw [As.gnS_yes h0]
      exact hO.isI (gn_i64 hL), hb⟩)
    rw [As.al_len, la, lp] at hRV ⊢
    have CV' := Lib.hid hRV
    have HL := Lib.hid hL
    obtain ⟨i0, hi0, hz0, hz1, hz2⟩ := info_parts intInfo
    have HI := Lib.hid hi0
    have HI2 := Lib.hid hz0
    have HI3 := Lib.hid hz1
    have HI4 := Lib.hid hz2
    clear hRV h0 h hB hC hL la lp hi0 hz0 hz1 hz2
    go_enter Tryz.func30, Tryz.ntmps30
    go_upto_region 1 with fail
    refine at_box2 (fun V0 hbb b0 b1 hsz => ?_)
    clear hsz
    have c0 := b0.c 0 rfl
    have c1 := b0.c 1 rfl
    have k0 := b1.c 0 rfl
    have k1 := b1.c 1 rfl
    have k2 := b1.c 2 rfl
    go_wp2_with fail
    refine (CV'.out _ hbb).mono ?_
    rintro e w2 ⟨rfl, hb1⟩
    have HX := Lib.hid (Bx.of (b0.keep hb1) (b1.keep hb1))
    have HBB := Lib.hid (keepB hbb hb1)
    have HLS := Lib.hid (HL.out.keep (keepB hbb hb1))
    clear hb1 b0 b1 hbb c0 c1 k0 k1 k2
    have HVQ := Lib.hid (show w.heap.size = w.heap.size from rfl)
    go_wp2_with fail
    go_loopw [6, 7] (fun v i W => ∃ k : Nat, k ≤ V.length ∧ i = .int .i64 k ∧ Hid (Below w2.heap.size w2 W) ∧ Hid (Own W w2.heap.size v (As.gnl V a ps D k))) (fun _ i _ => V.length - (intOf i).toNat)
    case atStart => exact ⟨0, Nat.zero_le _, rfl, Lib.hid (Below.refl _ _), Lib.hid (Own.nil_ _ _)⟩
    case round =>
      obtain ⟨k, hk, rfl, HW, HO⟩ := hrel
      have c0 := keepC HW.out HX.out.p0
      by_cases hlt : k < V.length
      · obtain ⟨bb, bo, rfl, hcs⟩ := list_at HLS.out.hB (j := k) (by rw [As.al_len, HLS.out.la]; exact hlt)
        have x0 := hcs k (by rw [As.al_len, HLS.out.la]; exact hlt)
        rw [As.el_al] at x0
        have hj := HLS.out.lt hlt
        have HG := Lib.hid (fun v (hv : Below w2.heap.size w2 v) => rGain_any A cv V R (some ⟨bb, bo, none⟩) ca a C cp ps D k (a.getD k 0) v (HLS.out.keep hv) hlt hj)
        have HS := Lib.hid (As.gnl_succ V a ps D k)
        have HLEN := Lib.hid (As.gnl_len V a ps D k)
        clear hcs
        generalize As.gnF V ps D k (a.getD k 0) = x at *
        generalize a.getD k 0 = j at *
        have HK := Lib.hid (fun v (hv : Below w2.heap.size w2 v) => (show v.cell? ⟨w.heap.size, 0, none⟩ = some (.slice A V.length cv) ∧ v.cell? ⟨w.heap.size, 1, none⟩ = some (.int .i64 R) ∧ v.cell? ⟨w.heap.size + 1, 0, none⟩ = some (.slice (some ⟨bb, bo, none⟩) V.length ca) ∧ v.cell? ⟨w.heap.size + 1, 1, none⟩ = some (.slice C V.length cp) ∧ v.cell? ⟨w.heap.size + 1, 2, none⟩ = some (.int .i64 D) ∧ v.cell? ⟨bb, bo + k, none⟩ = some (.int .i64 j) from ⟨keepC hv HX.out.p0, keepC hv HX.out.p1, keepC hv HX.out.q0, keepC hv HX.out.q1, keepC hv HX.out.q2, keepC hv x0⟩))
        have HWH := HW.out
        clear x0
        go_upto_region 7 with fail
        go_region_held3 (fun v => v.cell? ⟨w.heap.size, 0, none⟩ = some (.slice A V.length cv) ∧ v.cell? ⟨w.heap.size, 1, none⟩ = some (.int .i64 R) ∧ v.cell? ⟨w.heap.size + 1, 0, none⟩ = some (.slice (some ⟨bb, bo, none⟩) V.length ca) ∧ v.cell? ⟨w.heap.size + 1, 1, none⟩ = some (.slice C V.length cp) ∧ v.cell? ⟨w.heap.size + 1, 2, none⟩ = some (.int .i64 D) ∧ v.cell? ⟨bb, bo + k, none⟩ = some (.int .i64 j))
          (first | (exact HK.out _ (by assumption)) | (exact HK.out _ (Below.drew (by assumption))) | (exact HK.out _ (below_al (by assumption) _)) | (exact HK.out _ (below_al (Below.drew (by assumption)) _)))
          (first
            | (refine step_append_lies _ (by rfl) _ _ _ (by rfl) w2.heap.size 3 i0 _ 1 8 Tryz.underlying25 HI.out HI2.out HI3.out HI4.out rfl (by omega) _ k ((As.gnl V a ps D k).map (Value.int .i64)) (by rfl) (World.ownsRow.alloc hO3 _) ⟨w3.heap.size, 0, none⟩ 1 1 [.int .i64 x] (by rfl) (by rfl) (World.news_of_block (cs := #[.int .i64 x]) (t := 3) (fr := (0, 0)) (heap_alloc_new w3 _)) (by simp [Value.oneCell']) (by omega) (by unfold maxLen; omega) (by omega) (by simp; omega) (w3.heap.size + 1) (by simp) ?_; intro g cap w6 hown1 hgrow hat hglt; have hw6 := own_app rfl hw3 (fun b hb => (World.ownsRow.lt hO3 b hb).1) hgrow)
            | (go_at_call 50; refine (HG.out _ (by first | assumption | exact Below.drew (by assumption))).mono ?_; rintro e w3 ⟨rfl, hb3⟩; have hw3 : Below w2.heap.size w2 w3 := (by first | exact keepB HW.out hb3 | exact keepB HW.out.drew hb3); have hO3 : w3.ownsRow w2.heap.size 3 1 _ k ((As.gnl V a ps D k).map (Value.int .i64)) := (by have h9 := HO.out; unfold Own at h9; rw [HLEN.out] at h9; first | exact ownG_keepB h9 hb3 | exact ownG_keepB (World.ownsRow.drew h9) hb3); have hsz3 := hw3.size))
        all_goals
          go_wp2_with fail
          go_roundw
          case rel => exact ⟨k + 1, by omega, by go_num, Lib.hid hw6, Lib.hid (by
            unfold Own
            rw [HS.out, List.length_append, HLEN.out, List.map_append]
            exact hown1)⟩
          case measure => simp [intOf]; omega
      · obtain rfl : k = V.length := by omega
        obtain ⟨X, cc, rfl⟩ := HO.out.form
        have hO := HO.out
        rw [As.gnl_len] at hO ⊢
        have HFF := Lib.hid (HF.out X cc _ wr hO (keepB HBB.out HW.out))
        clear hO
        go_wp2_with fail
        go_ret2
        exact HFF.out
  · have HQ := Lib.hid (show ∀ (w' : World), Below w.heap.size w w' → GnQ w V R xs ps D (.returned (.tuple #[.slice none 0 0, .int .i64 (As.vld V R xs ps D)])) w' from fun w' hb => ⟨none, 0, by rw [As.gnS_no h2]; rfl, by rw [As.gnS_no h2]; exact isI_nil _ _, hb⟩)
    generalize As.vld V R xs ps D = c at *
    have CV' := Lib.hid hRV
    clear hRV h2 h hB hC
    go_enter Tryz.func30, Tryz.ntmps30
    go_upto_region 1 with fail
    refine at_box2 (fun V0 hbb b0 b1 hsz => ?_)
    clear hsz
    have c0 := b0.c 0 rfl
    have c1 := b0.c 1 rfl
    have k0 := b1.c 0 rfl
    have k1 := b1.c 1 rfl
    have k2 := b1.c 2 rfl
    go_wp2_with fail
    refine (CV'.out _ hbb).mono ?_
    rintro e w1 ⟨rfl, hb1⟩
    replace c0 := keepC hb1 c0
    replace c1 := keepC hb1 c1
    replace k0 := keepC hb1 k0
    replace k1 := keepC hb1 k1
    replace k2 := keepC hb1 k2
    replace hbb := keepB hbb hb1
    clear hb1 b0 b1
    go_wp2_with fail
    refine (CV'.out _ hbb).mono ?_
    rintro e w3 ⟨rfl, hb1⟩
    replace hbb := keepB hbb hb1
    clear hb1 c0 c1 k0 k1 k2
    go_wp2_with fail
    go_ret2
    exact HQ.out _ hbb
end Go.Proofs.YtncmffhoodfhjaaGreat
namespace Go.Proofs.YtncmffhoodfhjaaGreat
open Go.RowKit
/-- The cells of pairs. -/
def pcs (l : List (Nat × Nat)) : List Value := l.flatMap fun x => [.int .i64 (x.1 : Int), .int .i64 (x.2 : Int)]
theorem pcs_app (l m : List (Nat × Nat)) : pcs (l ++ m) = pcs l ++ pcs m := List.flatMap_append
theorem pcs_len : ∀ (l : List (Nat × Nat)), (pcs l).length = l.length * 2
  | [] => rfl
  | r :: l => by
    have := pcs_len l
    unfold pcs at this ⊢
    simp only [List.flatMap_cons, List.length_append, this, List.length_cons, List.length_nil]
    omega
theorem pcs_at : ∀ {l : List (Nat × Nat)} {k : Nat}, k < l.length → (pcs l)[k * 2]? = some (.int .i64 ((l.getD k (0, 0)).1 : Int)) ∧ (pcs l)[k * 2 + 1]? = some (.int .i64 ((l.getD k (0, 0)).2 : Int))
  | r :: l, 0, _ => ⟨rfl, rfl⟩
  | r :: l, k + 1, h => by
    have ih := pcs_at (l := l) (k := k) (by simpa using h)
    have e : pcs (r :: l) = .int .i64 (r.1 : Int) :: .int .i64 (r.2 : Int) :: pcs l := rfl
    rw [e, show (k + 1) * 2 = k * 2 + 1 + 1 by omega, show k * 2 + 1 + 1 + 1 = (k * 2 + 1) + 1 + 1 by omega]
    simp only [List.getElem?_cons_succ, List.getD_cons_succ]
    exact ih
/-- A slice of pairs. -/
def IsP (w : World) (A : Option Addr) (l : List (Nat × Nat)) : Prop :=
  0 < l.length → ∃ b off, A = some ⟨b, off, none⟩ ∧ ∀ i, i < l.length → w.cell? ⟨b, off + i * 2, none⟩ = some (.int .i64 ((l.getD i (0, 0)).1 : Int)) ∧ w.cell? ⟨b, off + i * 2 + 1, none⟩ = some (.int .i64 ((l.getD i (0, 0)).2 : Int))
theorem IsP.keep {w v : World} {A : Option Addr} {l : List (Nat × Nat)} (h : IsP w A l) (hb : Below w.heap.size w v) : IsP v A l := fun h0 => by
  obtain ⟨b, off, e, hc⟩ := h h0
  exact ⟨b, off, e, fun i hi => ⟨keepC hb (hc i hi).1, keepC hb (hc i hi).2⟩⟩
theorem isP_nil (w : World) (A : Option Addr) : IsP w A [] := fun h => absurd h (by simp)
theorem isP_row {w : World} {B : Nat} {e : TypeId} {A : Option Addr} {n cap : Nat} {l : List (Nat × Nat)} (h : w.ownsRow B e 2 (.slice A n cap) n (pcs l)) (hn : n = l.length) : IsP w A l := fun h0 => by
  obtain ⟨g, cap', hv, _, hlt⟩ := World.ownsRow.form h (by omega)
  simp only [Value.slice.injEq] at hv
  obtain ⟨rfl, _, rfl⟩ := hv
  refine ⟨g, 0, rfl, fun i hi => ?_⟩
  rw [Nat.zero_add, World.ownsRow.cellAt h (i * 2) (by omega), World.ownsRow.cellAt h (i * 2 + 1) (by omega)]
  exact pcs_at hi
namespace As
/-- What Envies returns. -/
def enS (V : List (List Int)) (R : Int) (xs ps : List Int) (D : Int) : List (Nat × Nat) := if vld V R xs ps D = 0 then envl V (xs.map Int.toNat) ps D V.length else []
theorem enS_no {V : List (List Int)} {R : Int} {xs ps : List Int} {D : Int} (h : vld V R xs ps D ≠ 0) : enS V R xs ps D = [] := by unfold enS; rw [if_neg h]
theorem enS_yes {V : List (List Int)} {R : Int} {a : List Nat} {ps : List Int} {D : Int} (h : vld V R (al a) ps D = 0) : enS V R (al a) ps D = envl V a ps D V.length := by unfold enS; rw [if_pos h, toNat_al]
theorem env1_le (V : List (List Int)) (a : List Nat) (ps : List Int) (D : Int) (i m : Nat) : (env1 V a ps D i m).length ≤ m := by
  unfold env1
  rw [List.length_map]
  exact Nat.le_trans (List.length_filter_le _ _) (by simp)
theorem envl_le {V : List (List Int)} (n6 : V.length ≤ 6) (a : List Nat) (ps : List Int) (D : Int) : ∀ k, (envl V a ps D k).length ≤ 6 * k
  | 0 => by simp [envl]
  | k + 1 => by
    rw [envl_succ, List.length_append]
    have := envl_le n6 a ps D k
    have := env1_le V a ps D k V.length
    omega
end As
/-- What Envies gives. -/
def EnQ (w : World) (V : List (List Int)) (R : Int) (xs ps : List Int) (D : Int) (e : Ending) (w' : World) : Prop :=
  ∃ X c, e = .returned (.tuple #[.slice X (As.enS V R xs ps D).length c, .int .i64 (As.vld V R xs ps D)]) ∧ IsP w' X (As.enS V R xs ps D) ∧ Below w.heap.size w w'
end Go.Proofs.YtncmffhoodfhjaaGreat
namespace Go.Proofs.YtncmffhoodfhjaaGreat
open Go.RowKit
set_option maxHeartbeats 2000000 in
theorem r14Check_any (A : Option Addr) (cv : Nat) (V : List (List Int)) (R : Int) (w : World) (hl : V.length ≤ maxLen) (h : IsM w A V) :
    Calls Tryz.prog 21 #[.agg #[.slice A V.length cv, .int .i64 R]] w fun e w' => e = .returned (.int .i64 (As.rchk V R)) ∧ Below w.heap.size w w' := by
  have CK := fun v (hv : Below w.heap.size w v) => rCheck_any A cv V v hl (h.keep hv)
  rcases As.rchk_cases V R with ⟨h1, h2, h3, h4⟩ | ⟨h1, h2, h3⟩ | ⟨h1, h2, h3⟩
  · rw [h1]
    simp only [h2] at CK
    have CK' := Lib.hid CK
    have d1 : decide (R < 0) = false := by rw [decide_eq_false_iff_not]; omega
    have d2 : decide (10000000 < R) = false := by rw [decide_eq_false_iff_not]; omega
    clear CK h1 h2 h3 h4 h
    go_enter Tryz.func21, Tryz.ntmps21
    go_upto_region 1 with fail
    refine at_box1 (fun V0 hbb b0 hsz => ?_)
    clear hsz
    have c0 := b0.c 0 rfl
    have c1 := b0.c 1 rfl
    go_wp2_with fail
    refine (CK'.out _ hbb).mono ?_
    rintro e w1 ⟨rfl, hb1⟩
    replace c0 := keepC hb1 c0
    replace c1 := keepC hb1 c1
    replace b0 := b0.keep hb1
    replace hbb := keepB hbb hb1
    clear hb1
    go_wp2_with fail
    go_ret
    exact ⟨rfl, hbb⟩
  · rw [h1]
    simp only [h2] at CK
    have CK' := Lib.hid CK
    clear CK h1 h2 h
    by_cases hR : R < 0
    · have d1 : decide (R < 0) = true := by rw [decide_eq_true_eq]; exact hR
      clear h3 hR
      go_enter Tryz.func21, Tryz.ntmps21
      go_upto_region 1 with fail
      refine at_box1 (fun V0 hbb b0 hsz => ?_)
      clear hsz
      have c0 := b0.c 0 rfl
      have c1 := b0.c 1 rfl
      go_wp2_with fail
      refine (CK'.out _ hbb).mono ?_
      rintro e w1 ⟨rfl, hb1⟩
      replace c0 := keepC hb1 c0
      replace c1 := keepC hb1 c1
      replace b0 := b0.keep hb1
      replace hbb := keepB hbb hb1
      clear hb1
      go_wp2_with fail
      go_ret
      exact ⟨rfl, hbb⟩
    · have d1 : decide (R < 0) = false := by rw [decide_eq_false_iff_not]; exact hR
      have d2 : decide (10000000 < R) = true := by rw [decide_eq_true_eq]; omega
      clear h3 hR
      go_enter Tryz.func21, Tryz.ntmps21
      go_upto_region 1 with fail
      refine at_box1 (fun V0 hbb b0 hsz => ?_)
      clear hsz
      have c0 := b0.c 0 rfl
      have c1 := b0.c 1 rfl
      go_wp2_with fail
      refine (CK'.out _ hbb).mono ?_
      rintro e w1 ⟨rfl, hb1⟩
      replace c0 := keepC hb1 c0
      replace c1 := keepC hb1 c1
      replace b0 := b0.keep hb1
      replace hbb := keepB hbb hb1
      clear hb1
      go_wp2_with fail
      go_ret
      exact ⟨rfl, hbb⟩
  · rw [h1]
    generalize As.chk V = c at *
    have CK' := Lib.hid CK
    clear CK h1 h3 h
    go_enter Tryz.func21, Tryz.ntmps21
    go_upto_region 1 with fail
    refine at_box1 (fun V0 hbb b0 hsz => ?_)
    clear hsz
    have c0 := b0.c 0 rfl
    have c1 := b0.c 1 rfl
    go_wp2_with fail
    refine (CK'.out _ hbb).mono ?_
    rintro e w1 ⟨rfl, hb1⟩
    replace c0 := keepC hb1 c0
    replace c1 := keepC hb1 c1
    replace b0 := b0.keep hb1
    replace hbb := keepB hbb hb1
    clear hb1
    go_wp2_with fail
    refine (CK'.out _ hbb).mono ?_
    rintro e w1 ⟨rfl, hb1⟩
    replace c0 := keepC hb1 c0
    replace c1 := keepC hb1 c1
    replace b0 := b0.keep hb1
    replace hbb := keepB hbb hb1
    clear hb1
    go_wp2_with fail
    go_ret
    exact ⟨rfl, hbb⟩
namespace As
theorem leB_no {n : Nat} {R : Int} {xs ps : List Int} {D : Int} {j : Nat} (hj : j < n) (h : prB D (el ps j) = false) : leB n R xs ps D = false := by
  unfold leB
  have : (List.range n).all (fun j => prB D (el ps j)) = false := by rw [List.all_eq_false]; exact ⟨j, by simpa using hj, by rw [h]; simp⟩
  rw [this]
  simp
theorem leB_end {n : Nat} {R : Int} {xs ps : List Int} {D : Int} (ha : isA xs n = true) (hp : ps.length = n) (d1 : 1 ≤ D) (d2 : D ≤ 60) (h : ∀ j, j < n → prB D (el ps j) = true) : leB n R xs ps D = decide (sm (el ps) (List.range n) = D * R) := by
  unfold leB
  have : (List.range n).all (fun j => prB D (el ps j)) = true := by rw [List.all_eq_true]; intro j hj; exact h j (by simpa using hj)
  rw [this, ha, decide_eq_true hp, decide_eq_true d1, decide_eq_true d2]
  simp
theorem prB_bd {D x : Int} (h : prB D x = true) (d1 : 1 ≤ D) (d2 : D ≤ 60) : -1000000000 ≤ x ∧ x ≤ 1000000000 := by
  unfold prB at h
  simp only [Bool.and_eq_true, decide_eq_true_eq] at h
  omega
theorem vld_leB {V : List (List Int)} {R : Int} {xs ps : List Int} {D : Int} (h0 : rchk V R = 0) : vld V R xs ps D = if leB V.length R xs ps D = true then 0 else 8 := by unfold vld; rw [if_pos h0]
end As
set_option maxRecDepth 100000 in
set_option maxHeartbeats 4000000 in
theorem r14Valid_any (A : Option Addr) (cv : Nat) (V : List (List Int)) (R : Int) (B : Option Addr) (ca : Nat) (xs : List Int) (C : Option Addr) (cp : Nat) (ps : List Int) (D : Int) (w : World) (hl : V.length ≤ maxLen) (h : IsM w A V) (hx : xs.length ≤ maxLen) (hB : IsI w B xs) (hC : IsI w C ps) :
    Calls Tryz.prog 49 #[.agg #[.slice A V.length cv, .int .i64 R], .agg #[.slice B xs.length ca, .slice C ps.length cp, .int .i64 D]] w fun e w' => e = .returned (.int .i64 (As.vld V R xs ps D)) ∧ Below w.heap.size w w' := by
  have CK := fun v (hv : Below w.heap.size w v) => r14Check_any A cv V R v hl (h.keep hv)
  have CV := fun v (hv : Below w.heap.size w v) => rAssigned_any B ca xs V.length v hx (hB.keep hv)
  rcases As.rchk_two V R with ⟨h0, hc, r0, r1⟩ | ⟨h1, h2⟩
  · rw [h0] at CK
    have CK' := Lib.hid CK
    have n6 := (As.chk_ok hc).n6
    by_cases ha : As.isA xs V.length = true
    · rw [ha] at CV
      have CV' := Lib.hid CV
      by_cases hpl : ps.length = V.length
      · have dl : ((ps.length : Int) != V.length) = false := by rw [bne_eq_false_iff_eq]; omega
        by_cases e1 : 1 ≤ D
        · by_cases e2 : D ≤ 60
          · have d1 : decide (D < 1) = false := by rw [decide_eq_false_iff_not]; omega
            have d2 : decide (60 < D) = false := by rw [decide_eq_false_iff_not]; omega
            have m1 : D * R ≤ 60 * 10000000 := Int.mul_le_mul e2 r1 (by omega) (by omega)
            have m0 : 0 ≤ D * R := Int.mul_nonneg (by omega) r0
            obtain ⟨y, hy⟩ : ∃ y, D * R = y := ⟨_, rfl⟩
            have hw : IntKind.i64.wrap (D * R) = y := by rw [IntWalk.i64_in _ (by omega)]; exact hy
            have HV := Lib.hid (As.vld_leB (xs := xs) (ps := ps) (D := D) h0)
            have HNo := Lib.hid (fun j hj hh => @As.leB_no V.length R xs ps D j hj hh)
            have HEnd := Lib.hid (fun hh => @As.leB_end V.length R xs ps D ha hpl e1 e2 hh)
            have HPB := Lib.hid (fun x hh => @As.prB_bd D x hh e1 e2)
            have HY := Lib.hid hy
            have HC := Lib.hid hC
            have HPL := Lib.hid hpl
            rw [hpl] at dl
            clear CK CV h0 hc ha h hB hC m0 m1 hy
            rw [hpl]
            go_enter Tryz.func49, Tryz.ntmps49
            go_upto_region 1 with fail
            refine at_box2 (fun V0 hbb b0 b1 hsz => ?_)
            clear hsz
            have c0 := b0.c 0 rfl
            have c1 := b0.c 1 rfl
            have k0 := b1.c 0 rfl
            have k1 := b1.c 1 rfl
            have k2 := b1.c 2 rfl
            go_wp2_with fail
            refine (CK'.out _ hbb).mono ?_
            rintro e w1 ⟨rfl, hb1⟩
            replace c0 := keepC hb1 c0
            replace c1 := keepC hb1 c1
            replace k0 := keepC hb1 k0
            replace k1 := keepC hb1 k1
            replace k2 := keepC hb1 k2
            replace b0 := b0.keep hb1
            replace b1 := b1.keep hb1
            replace hbb := keepB hbb hb1
            clear hb1
            go_wp2_with fail
            refine (CV'.out _ hbb).mono ?_
            rintro e w1 ⟨rfl, hb1⟩
            replace c0 := keepC hb1 c0
            replace c1 := keepC hb1 c1
            replace k0 := keepC hb1 k0
            replace k1 := keepC hb1 k1
            replace k2 := keepC hb1 k2
            replace b0 := b0.keep hb1
            replace b1 := b1.keep hb1
            replace hbb := keepB hbb hb1
            clear hb1
            go_wp2_with fail
            clear dl
            go_loopw [5, 6] (fun s i W => ∃ k : Nat, k ≤ V.length ∧ i = .int .i64 k ∧ s = .int .i64 (As.sm (As.el ps) (List.range k)) ∧ Hid (∀ j, j < k → As.prB D (As.el ps j) = true) ∧ Hid (Below w1.heap.size w1 W)) (fun _ i _ => V.length - (intOf i).toNat)
            case atStart => exact ⟨0, Nat.zero_le _, rfl, rfl, Lib.hid (fun j hj => absurd hj (Nat.not_lt_zero _)), Lib.hid (Below.refl _ _)⟩
            case round =>
              obtain ⟨k, hk, rfl, rfl, HOK, HW⟩ := hrel
              have z1 := keepC HW.out k1
              have z2 := keepC HW.out k2
              have y1 := keepC HW.out c1
              have HBB := Lib.hid (keepB hbb HW.out)
              have HSB := Lib.hid (As.sm_el_bd (ps := ps) (M := 1000000000) (n := k) (fun j hj => HPB.out _ (HOK.out j hj)) k (Nat.le_refl _))
              by_cases hlt : k < V.length
              · obtain ⟨bb, bo, hCe, hcs⟩ := list_at HC.out (j := k) (by rw [HPL.out]; exact hlt)
                subst hCe
                have x0 := keepC HBB.out (hcs k (by rw [HPL.out]; exact hlt))
                have HN := Lib.hid (HNo.out k hlt)
                have HP := Lib.hid (show As.prB D (As.el ps k) = (decide (-10000000 * D ≤ As.el ps k) && decide (As.el ps k ≤ 10000000 * D)) from rfl)
                have ET := Lib.hid (As.sm_range_succ (As.el ps) k)
                obtain ⟨q1, q2⟩ := HC.out.bd k
                obtain ⟨s1, s2⟩ := HSB.out
                have s3 : -6000000000 ≤ As.sm (As.el ps) (List.range k) := by omega
                have s4 : As.sm (As.el ps) (List.range k) ≤ 6000000000 := by omega
                have w1' : IntKind.i64.wrap (-10000000 * D) = -10000000 * D := IntWalk.i64_in _ (by omega)
                have w2' : IntKind.i64.wrap (10000000 * D) = 10000000 * D := IntWalk.i64_in _ (by omega)
                clear hcs s1 s2 HNo
                generalize hxx : As.el ps k = x at *
                have HX := Lib.hid hxx
                generalize As.sm (As.el ps) (List.range k) = s at *
                clear hxx hbb k0 k1 k2 c0 c1 b0 b1
                by_cases h1 : x < -10000000 * D
                · have t1 : decide (x < -10000000 * D) = true := decide_eq_true h1
                  have EB := Lib.hid (HN.out (by rw [HP.out, decide_eq_false (by omega), Bool.false_and]))
                  clear h1 HN HP
                  go_wp2_with fail
                  go_quiet (fail)
                  go_wp2_with fail
                  go_ret
                  exact ⟨by rw [HV.out, EB.out]; rfl, by first | exact HBB.out | exact HBB.out.drew | exact below_drewN HBB.out _⟩
                · have t1 : decide (x < -10000000 * D) = false := decide_eq_false h1
                  by_cases h2 : 10000000 * D < x
                  · have t2 : decide (10000000 * D < x) = true := decide_eq_true h2
                    have EB := Lib.hid (HN.out (by rw [HP.out, decide_eq_false (p := x ≤ 10000000 * D) (by omega), Bool.and_false]))
                    clear h1 h2 HN HP
                    go_wp2_with fail
                    go_quiet (fail)
                    go_wp2_with fail
                    go_ret
                    exact ⟨by rw [HV.out, EB.out]; rfl, by first | exact HBB.out | exact HBB.out.drew | exact below_drewN HBB.out _⟩
                  · have t2 : decide (10000000 * D < x) = false := decide_eq_false h2
                    have EB := Lib.hid (show As.prB D x = true by rw [HP.out, decide_eq_true (show -10000000 * D ≤ x by omega), decide_eq_true (show x ≤ 10000000 * D by omega)]; rfl)
                    obtain ⟨q3, q4⟩ := HPB.out x EB.out
                    clear h1 h2 HN HP q1 q2
                    go_wp2_with fail
                    go_quiet (fail)
                    go_wp2_with fail
                    go_roundw
                    case rel => exact ⟨k + 1, by omega, by go_num, by rw [ET.out], Lib.hid (fun j hj => (Nat.lt_succ_iff_lt_or_eq.1 hj).elim (HOK.out j) (fun e => by rw [e, HX.out]; exact EB.out)), Lib.hid (by first | exact HW.out | exact HW.out.drew | exact below_drewN HW.out _)⟩
                    case measure => simp [intOf]; omega
              · obtain rfl : k = V.length := by omega
                have HE := Lib.hid (HEnd.out HOK.out)
                obtain ⟨s1, s2⟩ := HSB.out
                clear hbb k0 k1 k2 c0 c1 b0 b1 HNo HEnd HC HPL
                generalize As.sm (As.el ps) (List.range V.length) = s at *
                by_cases hs : s = y
                · have t1 : (s != y) = false := by rw [bne_eq_false_iff_eq]; exact hs
                  have HS := Lib.hid hs
                  clear hs s1 s2
                  go_wp2_with fail
                  go_ret
                  exact ⟨by rw [HV.out, HE.out, HS.out, HY.out, decide_eq_true rfl]; rfl, HBB.out⟩
                · have t1 : (s != y) = true := by rw [bne_iff_ne]; exact hs
                  have HS := Lib.hid hs
                  clear hs s1 s2
                  go_wp2_with fail
                  go_ret
                  exact ⟨by rw [HV.out, HE.out, HY.out, decide_eq_false HS.out]; rfl, HBB.out⟩
          · rw [As.vld_no h0 (by rw [As.leB_eq, decide_eq_false e2]; simp)]
            have d1 : decide (D < 1) = false := by rw [decide_eq_false_iff_not]; omega
            have d2 : decide (60 < D) = true := by rw [decide_eq_true_eq]; omega
            clear CK CV h0 hc ha h hB hC hpl
            go_enter Tryz.func49, Tryz.ntmps49
            go_upto_region 1 with fail
            refine at_box2 (fun V0 hbb b0 b1 hsz => ?_)
            clear hsz
            have c0 := b0.c 0 rfl
            have c1 := b0.c 1 rfl
            have k0 := b1.c 0 rfl
            have k1 := b1.c 1 rfl
            have k2 := b1.c 2 rfl
            go_wp2_with fail
            refine (CK'.out _ hbb).mono ?_
            rintro e w1 ⟨rfl, hb1⟩
            replace c0 := keepC hb1 c0
            replace c1 := keepC hb1 c1
            replace k0 := keepC hb1 k0
            replace k1 := keepC hb1 k1
            replace k2 := keepC hb1 k2
            replace b0 := b0.keep hb1
            replace b1 := b1.keep hb1
            replace hbb := keepB hbb hb1
            clear hb1
            go_wp2_with fail
            refine (CV'.out _ hbb).mono ?_
            rintro e w1 ⟨rfl, hb1⟩
            replace c0 := keepC hb1 c0
            replace c1 := keepC hb1 c1
            replace k0 := keepC hb1 k0
            replace k1 := keepC hb1 k1
            replace k2 := keepC hb1 k2
            replace b0 := b0.keep hb1
            replace b1 := b1.keep hb1
            replace hbb := keepB hbb hb1
            clear hb1
            go_wp2_with fail
            go_ret
            exact ⟨rfl, hbb⟩
        · rw [As.vld_no h0 (by rw [As.leB_eq, decide_eq_false e1]; simp)]
          have d1 : decide (D < 1) = true := by rw [decide_eq_true_eq]; omega
          clear CK CV h0 hc ha h hB hC hpl
          go_enter Tryz.func49, Tryz.ntmps49
          go_upto_region 1 with fail
          refine at_box2 (fun V0 hbb b0 b1 hsz => ?_)
          clear hsz
          have c0 := b0.c 0 rfl
          have c1 := b0.c 1 rfl
          have k0 := b1.c 0 rfl
          have k1 := b1.c 1 rfl
          have k2 := b1.c 2 rfl
          go_wp2_with fail
          refine (CK'.out _ hbb).mono ?_
          rintro e w1 ⟨rfl, hb1⟩
          replace c0 := keepC hb1 c0
          replace c1 := keepC hb1 c1
          replace k0 := keepC hb1 k0
          replace k1 := keepC hb1 k1
          replace k2 := keepC hb1 k2
          replace b0 := b0.keep hb1
          replace b1 := b1.keep hb1
          replace hbb := keepB hbb hb1
          clear hb1
          go_wp2_with fail
          refine (CV'.out _ hbb).mono ?_
          rintro e w1 ⟨rfl, hb1⟩
          replace c0 := keepC hb1 c0
          replace c1 := keepC hb1 c1
          replace k0 := keepC hb1 k0
          replace k1 := keepC hb1 k1
          replace k2 := keepC hb1 k2
          replace b0 := b0.keep hb1
          replace b1 := b1.keep hb1
          replace hbb := keepB hbb hb1
          clear hb1
          go_wp2_with fail
          go_ret
          exact ⟨rfl, hbb⟩
      · rw [As.vld_no h0 (by rw [As.leB_eq, As.apB_len hpl]; simp)]
        have dl : ((ps.length : Int) != V.length) = true := by rw [bne_iff_ne]; omega
        clear CK CV h0 hc ha h hB hC hpl
        go_enter Tryz.func49, Tryz.ntmps49
        go_upto_region 1 with fail
        refine at_box2 (fun V0 hbb b0 b1 hsz => ?_)
        clear hsz
        have c0 := b0.c 0 rfl
        have c1 := b0.c 1 rfl
        have k0 := b1.c 0 rfl
        have k1 := b1.c 1 rfl
        have k2 := b1.c 2 rfl
        go_wp2_with fail
        refine (CK'.out _ hbb).mono ?_
        rintro e w1 ⟨rfl, hb1⟩
        replace c0 := keepC hb1 c0
        replace c1 := keepC hb1 c1
        replace k0 := keepC hb1 k0
        replace k1 := keepC hb1 k1
        replace k2 := keepC hb1 k2
        replace b0 := b0.keep hb1
        replace b1 := b1.keep hb1
        replace hbb := keepB hbb hb1
        clear hb1
        go_wp2_with fail
        refine (CV'.out _ hbb).mono ?_
        rintro e w1 ⟨rfl, hb1⟩
        replace c0 := keepC hb1 c0
        replace c1 := keepC hb1 c1
        replace k0 := keepC hb1 k0
        replace k1 := keepC hb1 k1
        replace k2 := keepC hb1 k2
        replace b0 := b0.keep hb1
        replace b1 := b1.keep hb1
        replace hbb := keepB hbb hb1
        clear hb1
        go_wp2_with fail
        go_ret
        exact ⟨rfl, hbb⟩
    · have ha : As.isA xs V.length = false := by simpa using ha
      rw [As.vld_no h0 (by rw [As.leB_eq, ha]; rfl)]
      rw [ha] at CV
      have CV' := Lib.hid CV
      clear CK CV h0 hc ha h hB hC
      go_enter Tryz.func49, Tryz.ntmps49
      go_upto_region 1 with fail
      refine at_box2 (fun V0 hbb b0 b1 hsz => ?_)
      clear hsz
      have c0 := b0.c 0 rfl
      have c1 := b0.c 1 rfl
      have k0 := b1.c 0 rfl
      have k1 := b1.c 1 rfl
      have k2 := b1.c 2 rfl
      go_wp2_with fail
      refine (CK'.out _ hbb).mono ?_
      rintro e w1 ⟨rfl, hb1⟩
      replace c0 := keepC hb1 c0
      replace c1 := keepC hb1 c1
      replace k0 := keepC hb1 k0
      replace k1 := keepC hb1 k1
      replace k2 := keepC hb1 k2
      replace b0 := b0.keep hb1
      replace b1 := b1.keep hb1
      replace hbb := keepB hbb hb1
      clear hb1
      go_wp2_with fail
      refine (CV'.out _ hbb).mono ?_
      rintro e w1 ⟨rfl, hb1⟩
      replace c0 := keepC hb1 c0
      replace c1 := keepC hb1 c1
      replace k0 := keepC hb1 k0
      replace k1 := keepC hb1 k1
      replace k2 := keepC hb1 k2
      replace b0 := b0.keep hb1
      replace b1 := b1.keep hb1
      replace hbb := keepB hbb hb1
      clear hb1
      go_wp2_with fail
      go_ret
      exact ⟨rfl, hbb⟩
  · rw [As.vld_err h2]
    generalize As.rchk V R = c at *
    have CK' := Lib.hid CK
    clear CK CV h2 h hB hC
    go_enter Tryz.func49, Tryz.ntmps49
    go_upto_region 1 with fail
    refine at_box2 (fun V0 hbb b0 b1 hsz => ?_)
    clear hsz
    have c0 := b0.c 0 rfl
    have c1 := b0.c 1 rfl
    have k0 := b1.c 0 rfl
    have k1 := b1.c 1 rfl
    have k2 := b1.c 2 rfl
    go_wp2_with fail
    refine (CK'.out _ hbb).mono ?_
    rintro e w1 ⟨rfl, hb1⟩
    replace c0 := keepC hb1 c0
    replace c1 := keepC hb1 c1
    replace k0 := keepC hb1 k0
    replace k1 := keepC hb1 k1
    replace k2 := keepC hb1 k2
    replace b0 := b0.keep hb1
    replace b1 := b1.keep hb1
    replace hbb := keepB hbb hb1
    clear hb1
    go_wp2_with fail
    refine (CK'.out _ hbb).mono ?_
    rintro e w1 ⟨rfl, hb1⟩
    replace c0 := keepC hb1 c0
    replace c1 := keepC hb1 c1
    replace k0 := keepC hb1 k0
    replace k1 := keepC hb1 k1
    replace k2 := keepC hb1 k2
    replace b0 := b0.keep hb1
    replace b1 := b1.keep hb1
    replace hbb := keepB hbb hb1
    clear hb1
    go_wp2_with fail
    go_ret
    exact ⟨rfl, hbb⟩
end Go.Proofs.YtncmffhoodfhjaaGreat
namespace Go.Proofs.YtncmffhoodfhjaaGreat
open Go.RowKit
end Go.Proofs.YtncmffhoodfhjaaGreat
namespace Go.Proofs.YtncmffhoodfhjaaGreat
open Go.RowKit
/-- What Great gives. -/
def Gr14 (w : World) (V : List (List Int)) (nx np : Nat) (e : Ending) (w' : World) : Prop :=
  ∃ z, e = .returned (.bool z) ∧ (z = false → (V.length ≠ 6 ∧ V.length ≤ 20 ∧ ∀ i, i < V.length → (V.getD i []).length ≤ 50) ∧ nx ≤ 50 ∧ np ≤ 50) ∧ Below w.heap.size w w'
theorem Gr14.yes {w w' : World} {V : List (List Int)} {nx np : Nat} (h : Below w.heap.size w w') : Gr14 w V nx np (.returned (.bool true)) w' := ⟨true, rfl, fun h => (by cases h), h⟩
theorem Gr14.no {w w' : World} {V : List (List Int)} {nx np : Nat} (h : Below w.heap.size w w') (hV : V.length ≠ 6 ∧ V.length ≤ 20 ∧ ∀ i, i < V.length → (V.getD i []).length ≤ 50) (h1 : nx ≤ 50) (h2 : np ≤ 50) : Gr14 w V nx np (.returned (.bool false)) w' := ⟨false, rfl, fun _ => ⟨hV, h1, h2⟩, h⟩
set_option maxHeartbeats 2000000 in
theorem r14Great_any (A : Option Addr) (cv : Nat) (V : List (List Int)) (R : Int) (B : Option Addr) (ca nx : Nat) (C : Option Addr) (cp np : Nat) (D : Int) (w : World) (hl : V.length ≤ maxLen) (h : IsM w A V) (hx : nx ≤ maxLen) (hp : np ≤ maxLen) :
    Calls Tryz.prog 4 #[.agg #[.slice A V.length cv, .int .i64 R], .agg #[.slice B nx ca, .slice C np cp, .int .i64 D]] w (Gr14 w V nx np) := by
  have CG := Lib.hid (fun v (hv : Below w.heap.size w v) => rGreat_any A cv V v hl (h.keep hv))
  clear h
  unfold maxLen at hl hx hp
  go_enter Tryz.func4, Tryz.ntmps4
  go_upto_region 1 with fail
  refine at_box2 (fun V0 hbb b0 b1 hsz => ?_)
  clear hsz
  have c0 := b0.c 0 rfl
  have k0 := b1.c 0 rfl
  have k1 := b1.c 1 rfl
  go_wp2_with fail
  refine (CG.out _ hbb).mono ?_
  rintro e w1 ⟨z, rfl, hz, hb1⟩
  replace c0 := keepC hb1 c0
  replace k0 := keepC hb1 k0
  replace k1 := keepC hb1 k1
  replace hbb := keepB hbb hb1
  have HBB := Lib.hid hbb
  have HZ := Lib.hid hz
  clear hb1 b0 b1 hz hbb
  cases z with
  | true =>
    go_wp2_with fail
    go_ret
    exact Gr14.yes HBB.out
  | false =>
    by_cases h1 : 50 < nx
    · have d1 : decide ((50 : Int) < (nx : Int)) = true := by rw [decide_eq_true_eq]; omega
      go_wp2_with fail
      go_ret
      exact Gr14.yes HBB.out
    · have d1 : decide ((50 : Int) < (nx : Int)) = false := by rw [decide_eq_false_iff_not]; omega
      by_cases h2 : 50 < np
      · have d2 : decide ((50 : Int) < (np : Int)) = true := by rw [decide_eq_true_eq]; omega
        go_wp2_with fail
        go_ret
        exact Gr14.yes HBB.out
      · have d2 : decide ((50 : Int) < (np : Int)) = false := by rw [decide_eq_false_iff_not]; omega
        have HF := Lib.hid (Gr14.no (nx := nx) (np := np) HBB.out (HZ.out rfl) (by omega) (by omega))
        go_wp2_with fail
        go_ret
        exact HF.out
set_option maxRecDepth 100000 in
set_option maxHeartbeats 2000000 in
theorem lsame_eq (A : Option Addr) (ca : Nat) (A' : Option Addr) (ca' : Nat) (B : Option Addr) (cb : Nat) (B' : Option Addr) (cb' : Nat) (xs ps : List Int) (nx np : Nat) (D : Int) (w : World) (hx : xs.length ≤ maxLen) (hp : ps.length ≤ maxLen) (ex : nx = xs.length) (ep : np = ps.length) (hA : IsI w A xs) (hA' : IsI w A' xs) (hB : IsI w B ps) (hB' : IsI w B' ps) :
    Calls Tryz.prog 10 #[.agg #[.slice A nx ca, .slice B np cb, .int .i64 D], .agg #[.slice A' nx ca', .slice B' np cb', .int .i64 D]] w fun e w' => e = .returned (.bool true) ∧ Below w.heap.size w w' := by
  subst ex ep
  have C1 := Lib.hid (fun v (hv : Below w.heap.size w v) => same_eq A ca A' ca' xs v hx (hA.keep hv) (hA'.keep hv))
  have C2 := Lib.hid (fun v (hv : Below w.heap.size w v) => same_eq B cb B' cb' ps v hp (hB.keep hv) (hB'.keep hv))
  have e0 : (D == D) = true := by simp
  clear hA hA' hB hB' hx hp
  generalize xs.length = nx at *
  generalize ps.length = np at *
  go_enter Tryz.func10, Tryz.ntmps10
  go_upto_region 1 with fail
  refine at_box2 (fun V0 hbb b0 b1 hsz => ?_)
  clear hsz
  have c0 := b0.c 0 rfl
  have c1 := b0.c 1 rfl
  have c2 := b0.c 2 rfl
  have k0 := b1.c 0 rfl
  have k1 := b1.c 1 rfl
  have k2 := b1.c 2 rfl
  go_wp2_with fail
  refine (C1.out _ hbb).mono ?_
  rintro e w1 ⟨rfl, hb1⟩
  replace c1 := keepC hb1 c1
  replace k1 := keepC hb1 k1
  replace hbb := keepB hbb hb1
  clear hb1 b0 b1 c0 c2 k0 k2
  go_wp2_with fail
  refine (C2.out _ hbb).mono ?_
  rintro e w2 ⟨rfl, hb1⟩
  replace hbb := keepB hbb hb1
  clear hb1 c1 k1
  go_wp2_with fail
  go_ret
  exact ⟨rfl, hbb⟩
end Go.Proofs.YtncmffhoodfhjaaGreat
