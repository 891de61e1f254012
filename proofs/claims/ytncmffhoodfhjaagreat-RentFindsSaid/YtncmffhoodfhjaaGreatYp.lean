/- Package room: Links, Range. The reference of layer 14: Links. The reference of layer 14: Range. -/
import Derived.Test.YtncmffhoodfhjaaGreatLwk
import Derived.Test.YtncmffhoodfhjaaGreatYl
import Derived.Test.YtncmffhoodfhjaaGreatYm
import Derived.Test.YtncmffhoodfhjaaGreatAfq
namespace Go.Proofs.YtncmffhoodfhjaaGreat
open Go.RowKit
/-- A table's cells. -/
theorem mm_at {w : World} {X : Option Addr} {n : Nat} {F : Nat → Nat → Int} (h : IsM w X (mm n n F)) {i : Nat} (hi : i < n) :
    ∃ b off rb ro c, X = some ⟨b, off, none⟩ ∧ w.cell? ⟨b, off + i, none⟩ = some (.slice (some ⟨rb, ro, none⟩) n c) ∧ ∀ j, j < n → w.cell? ⟨rb, ro + j, none⟩ = some (.int .i64 (F i j)) := by
  obtain ⟨b, off, e, hrows⟩ := h (by rw [mm_len]; omega)
  obtain ⟨Q, c, hc, _, hI⟩ := hrows i (by rw [mm_len]; exact hi)
  rw [mm_get hi, ml_len] at hc
  rw [mm_get hi] at hI
  obtain ⟨rb, ro, rfl, hcs⟩ := hI.1 (by rw [ml_len]; omega)
  refine ⟨b, off, rb, ro, c, e, hc, fun j hj => ?_⟩
  have := hcs j (by rw [ml_len]; exact hj)
  rwa [el_ml hj] at this
namespace As
/-- What Links returns. -/
def lnS (V : List (List Int)) (R : Int) : List (List Int) := if rchk V R = 0 then lkt V else []
/-- What Range returns. -/
def rgS (V : List (List Int)) (R : Int) (j : Int) : (Int × Int) × (Int × Int) × Int :=
  if rchk V R = 0 then
    if 0 ≤ j ∧ j < V.length then (((Rp.q (lowN V (bst V) R j.toNat) V.length).num, ((Rp.q (lowN V (bst V) R j.toNat) V.length).den : Int)), ((Rp.q (highN V (bst V) R j.toNat) V.length).num, ((Rp.q (highN V (bst V) R j.toNat) V.length).den : Int)), 0)
    else ((0, 0), (0, 0), 2)
  else ((0, 0), (0, 0), rchk V R)
theorem sm_bd2 {f : Nat → Int} {M : Int} : ∀ k : Nat, (∀ j, j < k → -M ≤ f j ∧ f j ≤ M) → -(k * M) ≤ sm f (List.range k) ∧ sm f (List.range k) ≤ k * M
  | 0, _ => by simp [sm]
  | k + 1, h => by
    have ih := sm_bd2 k fun j hj => h j (by omega)
    have h1 := h k (by omega)
    rw [List.range_succ, sm_append]
    simp only [sm]
    rw [show ((k + 1 : Nat) : Int) = k + 1 from rfl, Int.add_mul]
    omega
theorem lkm_b6 {V : List (List Int)} (ok : Ok V) (b : List Nat) (x y : Nat) : -6000000 ≤ lkm V b x y ∧ lkm V b x y ≤ 6000000 := by
  have h := lkm_bd ok.bd (b := b) x y
  have n6 := ok.n6
  have : (V.length : Int) * 1000000 ≤ 6 * 1000000 := Int.mul_le_mul_of_nonneg_right (by omega) (by omega)
  omega
theorem sum6 {f : Nat → Int} (h : ∀ j, -6000000 ≤ f j ∧ f j ≤ 6000000) {k : Nat} (hk : k ≤ 6) : -36000000 ≤ sm f (List.range k) ∧ sm f (List.range k) ≤ 36000000 := by
  have h1 := sm_bd2 (f := f) (M := 6000000) k fun j _ => h j
  have : (k : Int) * 6000000 ≤ 6 * 6000000 := Int.mul_le_mul_of_nonneg_right (by omega) (by omega)
  omega
end As
/-- What Links gives. -/
def LnQ (V : List (List Int)) (R : Int) (w : World) (e : Ending) (w' : World) : Prop := ∃ X c, e = .returned (.tuple #[.slice X (As.lnS V R).length c, .int .i64 (As.rchk V R)]) ∧ IsM w' X (As.lnS V R) ∧ Below w.heap.size w w'
theorem isM_nil (w : World) (A : Option Addr) : IsM w A [] := fun h => absurd h (by simp)
theorem lkt_len (V : List (List Int)) : (As.lkt V).length = V.length := mm_len _ _ _
set_option maxHeartbeats 2000000 in
theorem rmLinks_any (A : Option Addr) (cv : Nat) (V : List (List Int)) (R : Int) (w : World) (hl : V.length ≤ maxLen) (h : IsM w A V) :
    Calls Tryz.prog 39 #[.agg #[.slice A V.length cv, .int .i64 R]] w (LnQ V R w) := by
  have CK := fun v (hv : Below w.heap.size w v) => rmCheck_any A cv V R v hl (h.keep hv)
  rcases As.rchk_two V R with ⟨h0, hc, r0, r1⟩ | ⟨h1, h2⟩
  · rw [h0] at CK
    have CL := Lib.hid (fun v (hv : Below w.heap.size w v) => linksOf_any A cv V v hc hl (h.keep hv))
    have HQ := Lib.hid (show ∀ X c w', IsM w' X (As.lkt V) → Below w.heap.size w w' → LnQ V R w (.returned (.tuple #[.slice X V.length c, .int .i64 0])) w' from fun X c w' hM hb => ⟨X, c, by unfold As.lnS; rw [if_pos h0, lkt_len, h0], by unfold As.lnS; rw [if_pos h0]; exact hM, hb⟩)
    have CK' := Lib.hid CK
    clear CK h0 hc r0 r1 h hl
    go_enter Tryz.func39, Tryz.ntmps39
    go_upto_region 1 with fail
    refine at_box1 (fun V0 hbb b0 hsz => ?_)
    clear hsz
    have c0 := b0.c 0 rfl
    have c1 := b0.c 1 rfl
    go_wp2_with fail
    refine (CK'.out _ hbb).mono ?_
    rintro e w1 ⟨rfl, hb1⟩
    replace c0 := keepC hb1 c0
    replace hbb := keepB hbb hb1
    clear hb1 b0 c1
    go_wp2_with fail
    refine (CL.out _ hbb).mono ?_
    rintro e w2 ⟨G, c, rfl, hM, hb1⟩
    have HF := Lib.hid (HQ.out _ c w2 hM (keepB hbb hb1))
    clear hb1 hM hbb c0
    go_wp2_with fail
    go_ret2
    exact HF.out
  · have HQ := Lib.hid (show ∀ w', Below w.heap.size w w' → LnQ V R w (.returned (.tuple #[.slice none 0 0, .int .i64 (As.rchk V R)])) w' from fun w' hb => ⟨none, 0, by unfold As.lnS; rw [if_neg h2]; rfl, by unfold As.lnS; rw [if_neg h2]; exact isM_nil _ _, hb⟩)
    generalize As.rchk V R = c at *
    have CK' := Lib.hid CK
    clear CK h2 h hl
    go_enter Tryz.func39, Tryz.ntmps39
    go_upto_region 1 with fail
    refine at_box1 (fun V0 hbb b0 hsz => ?_)
    clear hsz
    have c0 := b0.c 0 rfl
    have c1 := b0.c 1 rfl
    go_wp2_with fail
    refine (CK'.out _ hbb).mono ?_
    rintro e w1 ⟨rfl, hb1⟩
    replace hbb := keepB hbb hb1
    clear hb1 b0 c0 c1
    go_wp2_with fail
    go_ret2
    exact HQ.out _ hbb
/-- Range's answer as a value. -/
def rgV (V : List (List Int)) (R : Int) (j : Int) : Value := .tuple #[.agg #[.int .i64 (As.rgS V R j).1.1, .int .i64 (As.rgS V R j).1.2], .agg #[.int .i64 (As.rgS V R j).2.1.1, .int .i64 (As.rgS V R j).2.1.2], .int .i64 (As.rgS V R j).2.2]
set_option maxRecDepth 100000 in
set_option maxHeartbeats 4000000 in
theorem rmRange_any (A : Option Addr) (cv : Nat) (V : List (List Int)) (R j : Int) (w : World) (hl : V.length ≤ maxLen) (h : IsM w A V) :
    Calls Tryz.prog 32 #[.agg #[.slice A V.length cv, .int .i64 R], .int .i64 j] w fun e w' => e = .returned (rgV V R j) ∧ Below w.heap.size w w' := by
  have CK := fun v (hv : Below w.heap.size w v) => rmCheck_any A cv V R v hl (h.keep hv)
  rcases As.rchk_two V R with ⟨h0, hc, r0, r1⟩ | ⟨h1, h2⟩
  · rw [h0] at CK
    have CK' := Lib.hid CK
    by_cases hj : 0 ≤ j ∧ j < V.length
    · obtain ⟨J, rfl⟩ : ∃ J : Nat, j = J := ⟨j.toNat, by omega⟩
      have hJ : J < V.length := by omega
      have ok := As.chk_ok hc
      have n1 := ok.n1
      have n6 := ok.n6
      have e1 : rgV V R J = .tuple #[.agg #[.int .i64 (Rp.q (As.lowN V (As.bst V) R J) V.length).num, .int .i64 ((Rp.q (As.lowN V (As.bst V) R J) V.length).den : Int)], .agg #[.int .i64 (Rp.q (As.highN V (As.bst V) R J) V.length).num, .int .i64 ((Rp.q (As.highN V (As.bst V) R J) V.length).den : Int)], .int .i64 0] := by
        unfold rgV As.rgS
        rw [if_pos h0, if_pos hj]
        rfl
      rw [e1]
      have CL := Lib.hid (fun v (hv : Below w.heap.size w v) => linksOf_any A cv V v hc hl (h.keep hv))
      have HB1 := Lib.hid (fun k (hk : k ≤ 6) => As.sum6 (f := fun i => As.lkm V (As.bst V) i J) (fun i => As.lkm_b6 ok _ _ _) hk)
      have HB2 := Lib.hid (fun k (hk : k ≤ 6) => As.sum6 (f := fun i => As.lkm V (As.bst V) J i) (fun i => As.lkm_b6 ok _ _ _) hk)
      have HB3 := Lib.hid (As.lkm_b6 ok (As.bst V))
      have HS1 := Lib.hid (fun k => As.sm_range_succ (fun i => As.lkm V (As.bst V) i J) k)
      have HS2 := Lib.hid (fun k => As.sm_range_succ (fun i => As.lkm V (As.bst V) J i) k)
      have h61 := HB1.out V.length n6
      have h62 := HB2.out V.length n6
      have hlo : As.lowN V (As.bst V) R J = R + As.sm (fun i => As.lkm V (As.bst V) i J) (List.range V.length) := rfl
      have hhi : As.highN V (As.bst V) R J = R - As.sm (fun i => As.lkm V (As.bst V) J i) (List.range V.length) := rfl
      have P1 := Lib.hid (fun v => rmPart_any (As.lowN V (As.bst V) R J) V.length (by omega) (by omega) (by omega) (by omega) v)
      have P2 := Lib.hid (fun v => rmPart_any (As.highN V (As.bst V) R J) V.length (by omega) (by omega) (by omega) (by omega) v)
      have HLO := Lib.hid hlo
      have HHI := Lib.hid hhi
      generalize (Rp.q (As.lowN V (As.bst V) R J) V.length).num = x1 at *
      generalize ((Rp.q (As.lowN V (As.bst V) R J) V.length).den : Int) = x2 at *
      generalize (Rp.q (As.highN V (As.bst V) R J) V.length).num = y1 at *
      generalize ((Rp.q (As.highN V (As.bst V) R J) V.length).den : Int) = y2 at *
      generalize As.lowN V (As.bst V) R J = LO at *
      generalize As.highN V (As.bst V) R J = HI at *
      have d1 : decide ((J : Int) < 0) = false := by rw [decide_eq_false_iff_not]; omega
      have d2 : decide ((V.length : Int) ≤ (J : Int)) = false := by rw [decide_eq_false_iff_not]; omega
      clear CK h0 hc hj ok h e1 h61 h62 hlo hhi
      go_enter Tryz.func32, Tryz.ntmps32
      go_upto_region 1 with fail
      refine at_box3 (fun V0 hbb b0 b1 b2 hsz => ?_)
      clear hsz
      have c0 := b0.c 0 rfl
      have c1 := b0.c 1 rfl
      go_wp2_with fail
      refine (CK'.out _ hbb).mono ?_
      rintro e w1 ⟨rfl, hb1⟩
      replace c0 := keepC hb1 c0
      replace c1 := keepC hb1 c1
      replace b1 := b1.keep hb1
      replace b2 := b2.keep hb1
      replace hbb := keepB hbb hb1
      clear hb1 b0
      go_wp2_with fail
      refine (CL.out _ hbb).mono ?_
      rintro e w2 ⟨G, cG, rfl, hM, hb1⟩
      replace c1 := keepC hb1 c1
      have B1 := Lib.hid (b1.keep hb1)
      have B2 := Lib.hid (b2.keep hb1)
      have HBB := Lib.hid (keepB hbb hb1)
      have HM := Lib.hid hM
      have hb2 := Below.refl w2.heap.size w2
      clear hb1 hM hbb c0 b1 b2 CL CK'
      go_upto_region 8 with fail
      go_region_held3 (fun v => v.cell? ⟨w.heap.size, 1, none⟩ = some (.int .i64 R))
        (exact c1)
        (fail)
      go_wp2_with fail
      have HMD := Lib.hid (HM.out.keep (Below.refl _ _).drew)
      have HBD := Lib.hid HBB.out.drew
      have B1D := Lib.hid (B1.out.keep (Below.refl _ _).drew)
      have B2D := Lib.hid (B2.out.keep (Below.refl _ _).drew)
      clear c1 HM HBB B1 B2 hb2
      refine at_worldQ (fun v => Hid (IsM v (some ⟨G, 0, none⟩) (As.lkt V)) ∧ Hid (Below w.heap.size w v) ∧ Hid (BK v (w.heap.size + 1) [.int .i64 0, .int .i64 0]) ∧ Hid (BK v (w.heap.size + 1 + 1) [.int .i64 0, .int .i64 0])) ⟨HMD, HBD, B1D, B2D⟩ (fun W3 hS => ?_)
      clear HMD HBD B1D B2D
      obtain ⟨HM, HBB, B1, B2⟩ := hS
      go_loop [10, 11, 40] (fun lo hi i => ∃ k : Nat, k ≤ V.length ∧ i = .int .i64 k ∧ lo = .int .i64 (R + As.sm (fun i => As.lkm V (As.bst V) i J) (List.range k)) ∧ hi = .int .i64 (R - As.sm (fun i => As.lkm V (As.bst V) J i) (List.range k))) (fun _ _ i => V.length - (intOf i).toNat)
      case atStart => exact ⟨0, Nat.zero_le _, rfl, by simp [As.sm], by simp [As.sm]⟩
      case round =>
        obtain ⟨k, hk, rfl, rfl, rfl⟩ := hrel
        by_cases hlt : k < V.length
        · obtain ⟨b, off, rb, ro, cc, hG, hc1, hcs⟩ := mm_at HM.out hlt
          obtain ⟨b', off', rb', ro', cc', hG', hc1', hcs'⟩ := mm_at HM.out hJ
          simp only [Option.some.injEq, Addr.mk.injEq, and_true] at hG hG'
          obtain ⟨rfl, rfl⟩ := hG
          obtain ⟨rfl, rfl⟩ := hG'
          rw [Nat.zero_add] at hc1 hc1'
          have x0 := hcs J hJ
          have x9 := hcs' k hlt
          obtain ⟨p1, p2⟩ := HB3.out k J
          obtain ⟨p3, p4⟩ := HB3.out J k
          obtain ⟨s1, s2⟩ := HB1.out k (by omega)
          obtain ⟨s3, s4⟩ := HB2.out k (by omega)
          have E1 := Lib.hid (HS1.out k)
          have E2 := Lib.hid (HS2.out k)
          clear hcs hcs'
          generalize As.lkm V (As.bst V) k J = x at *
          generalize As.lkm V (As.bst V) J k = y at *
          generalize As.sm (fun i => As.lkm V (As.bst V) i J) (List.range k) = s at *
          generalize As.sm (fun i => As.lkm V (As.bst V) J i) (List.range k) = t at *
          have i1 : (k : Int) < (V.length : Int) := by omega
          have i2 : (J : Int) < (V.length : Int) := by omega
          go_wp2_with fail
          go_round
          case rel => exact ⟨k + 1, by omega, by go_num, by rw [E1.out, Int.add_assoc], by rw [E2.out, Int.sub_sub]⟩
          case measure => simp [intOf]; omega
        · obtain rfl : k = V.length := by omega
          rw [← HLO.out, ← HHI.out]
          go_wp2_with fail
          refine (P1.out _).mono ?_
          rintro e w4 ⟨rfl, hb4⟩
          have HB4 := Lib.hid hb4
          clear hb4
          go_wp2_with fail
          refine (P2.out _).mono ?_
          rintro e w5 ⟨rfl, hb5⟩
          have hb45 := keepB HB4.out hb5
          have b1 := B1.out.keep hb45
          have b2 := B2.out.keep hb45
          have HBE := Lib.hid (keepB HBB.out hb45)
          have bb1 := (((b1.set 0 (.int .i64 x1)).set 1 (.int .i64 x2)).far (q := w.heap.size + 1 + 1) (by omega) 0 (.int .i64 y1)).far (q := w.heap.size + 1 + 1) (by omega) 1 (.int .i64 y2)
          have bb2 := (((b2.far (q := w.heap.size + 1) (by omega) 0 (.int .i64 x1)).far (q := w.heap.size + 1) (by omega) 1 (.int .i64 x2)).set 0 (.int .i64 y1)).set 1 (.int .i64 y2)
          have z0 := b1.c 0 rfl
          have z1 := b1.c 1 rfl
          have z2 := b2.c 0 rfl
          have z3 := b2.c 1 rfl
          have f0 := b1.f 0 rfl
          have f1 := b1.f 1 rfl
          have f2 := b2.f 0 rfl
          have f3 := b2.f 1 rfl
          have r0 := bb1.c 0 rfl
          have r1 := bb1.c 1 rfl
          have r2 := bb2.c 0 rfl
          have r3 := bb2.c 1 rfl
          clear b1 b2 bb1 bb2 hb5 hb45
          go_wp2_with fail
          exact bodyPost_ret (v := .tuple #[.agg #[.int .i64 x1, .int .i64 x2], .agg #[.int .i64 y1, .int .i64 y2], .int .i64 0]) (by simp [results, Tryz.results32, go_sem, r0, r1, r2, r3]) rfl ⟨rfl, (((HBE.out.setCell (Nat.le_succ _) _).setCell (Nat.le_succ _) _).setCell (Nat.le_trans (Nat.le_succ _) (Nat.le_succ _)) _).setCell (Nat.le_trans (Nat.le_succ _) (Nat.le_succ _)) _⟩
    · have e1 : rgV V R j = .tuple #[.agg #[.int .i64 0, .int .i64 0], .agg #[.int .i64 0, .int .i64 0], .int .i64 2] := by
        unfold rgV As.rgS
        rw [if_pos h0, if_neg hj]
      rw [e1]
      clear CK h0 hc h e1
      by_cases hn : j < 0
      · have d1 : decide (j < 0) = true := by rw [decide_eq_true_eq]; exact hn
        clear hn hj
        go_enter Tryz.func32, Tryz.ntmps32
        go_upto_region 1 with fail
        refine at_box3 (fun V0 hbb b0 b1 b2 hsz => ?_)
        clear hsz
        have c0 := b0.c 0 rfl
        have c1 := b0.c 1 rfl
        go_wp2_with fail
        refine (CK'.out _ hbb).mono ?_
        rintro e w1 ⟨rfl, hb1⟩
        replace c0 := keepC hb1 c0
        replace b1 := b1.keep hb1
        replace b2 := b2.keep hb1
        have HBE := Lib.hid (keepB hbb hb1)
        have bb1 := (((b1.set 0 (.int .i64 0)).set 1 (.int .i64 0)).far (q := w.heap.size + 1 + 1) (by omega) 0 (.int .i64 0)).far (q := w.heap.size + 1 + 1) (by omega) 1 (.int .i64 0)
        have bb2 := (((b2.far (q := w.heap.size + 1) (by omega) 0 (.int .i64 0)).far (q := w.heap.size + 1) (by omega) 1 (.int .i64 0)).set 0 (.int .i64 0)).set 1 (.int .i64 0)
        have z0 := b1.c 0 rfl
        have z1 := b1.c 1 rfl
        have z2 := b2.c 0 rfl
        have z3 := b2.c 1 rfl
        have f0 := b1.f 0 rfl
        have f1 := b1.f 1 rfl
        have f2 := b2.f 0 rfl
        have f3 := b2.f 1 rfl
        have r0 := bb1.c 0 rfl
        have r1 := bb1.c 1 rfl
        have r2 := bb2.c 0 rfl
        have r3 := bb2.c 1 rfl
        clear b0 b1 b2 bb1 bb2 hb1 hbb c1
        go_wp2_with fail
        exact bodyPost_ret (v := .tuple #[.agg #[.int .i64 0, .int .i64 0], .agg #[.int .i64 0, .int .i64 0], .int .i64 2]) (by simp [results, Tryz.results32, go_sem, r0, r1, r2, r3]) rfl ⟨rfl, (((HBE.out.setCell (Nat.le_succ _) _).setCell (Nat.le_succ _) _).setCell (Nat.le_trans (Nat.le_succ _) (Nat.le_succ _)) _).setCell (Nat.le_trans (Nat.le_succ _) (Nat.le_succ _)) _⟩
      · have d1 : decide (j < 0) = false := by rw [decide_eq_false_iff_not]; exact hn
        have d2 : decide ((V.length : Int) ≤ j) = true := by rw [decide_eq_true_eq]; omega
        clear hn hj
        go_enter Tryz.func32, Tryz.ntmps32
        go_upto_region 1 with fail
        refine at_box3 (fun V0 hbb b0 b1 b2 hsz => ?_)
        clear hsz
        have c0 := b0.c 0 rfl
        have c1 := b0.c 1 rfl
        go_wp2_with fail
        refine (CK'.out _ hbb).mono ?_
        rintro e w1 ⟨rfl, hb1⟩
        replace c0 := keepC hb1 c0
        replace b1 := b1.keep hb1
        replace b2 := b2.keep hb1
        have HBE := Lib.hid (keepB hbb hb1)
        have bb1 := (((b1.set 0 (.int .i64 0)).set 1 (.int .i64 0)).far (q := w.heap.size + 1 + 1) (by omega) 0 (.int .i64 0)).far (q := w.heap.size + 1 + 1) (by omega) 1 (.int .i64 0)
        have bb2 := (((b2.far (q := w.heap.size + 1) (by omega) 0 (.int .i64 0)).far (q := w.heap.size + 1) (by omega) 1 (.int .i64 0)).set 0 (.int .i64 0)).set 1 (.int .i64 0)
        have z0 := b1.c 0 rfl
        have z1 := b1.c 1 rfl
        have z2 := b2.c 0 rfl
        have z3 := b2.c 1 rfl
        have f0 := b1.f 0 rfl
        have f1 := b1.f 1 rfl
        have f2 := b2.f 0 rfl
        have f3 := b2.f 1 rfl
        have r0 := bb1.c 0 rfl
        have r1 := bb1.c 1 rfl
        have r2 := bb2.c 0 rfl
        have r3 := bb2.c 1 rfl
        clear b0 b1 b2 bb1 bb2 hb1 hbb c1
        go_wp2_with fail
        exact bodyPost_ret (v := .tuple #[.agg #[.int .i64 0, .int .i64 0], .agg #[.int .i64 0, .int .i64 0], .int .i64 2]) (by simp [results, Tryz.results32, go_sem, r0, r1, r2, r3]) rfl ⟨rfl, (((HBE.out.setCell (Nat.le_succ _) _).setCell (Nat.le_succ _) _).setCell (Nat.le_trans (Nat.le_succ _) (Nat.le_succ _)) _).setCell (Nat.le_trans (Nat.le_succ _) (Nat.le_succ _)) _⟩
  · have e1 : rgV V R j = .tuple #[.agg #[.int .i64 0, .int .i64 0], .agg #[.int .i64 0, .int .i64 0], .int .i64 (As.rchk V R)] := by
      unfold rgV As.rgS
      rw [if_neg h2]
    rw [e1]
    generalize As.rchk V R = c at *
    have CK' := Lib.hid CK
    clear CK h2 h e1
    go_enter Tryz.func32, Tryz.ntmps32
    go_upto_region 1 with fail
    refine at_box3 (fun V0 hbb b0 b1 b2 hsz => ?_)
    clear hsz
    have c0 := b0.c 0 rfl
    have c1 := b0.c 1 rfl
    go_wp2_with fail
    refine (CK'.out _ hbb).mono ?_
    rintro e w1 ⟨rfl, hb1⟩
    replace c0 := keepC hb1 c0
    replace b1 := b1.keep hb1
    replace b2 := b2.keep hb1
    have HBE := Lib.hid (keepB hbb hb1)
    have bb1 := (((b1.set 0 (.int .i64 0)).set 1 (.int .i64 0)).far (q := w.heap.size + 1 + 1) (by omega) 0 (.int .i64 0)).far (q := w.heap.size + 1 + 1) (by omega) 1 (.int .i64 0)
    have bb2 := (((b2.far (q := w.heap.size + 1) (by omega) 0 (.int .i64 0)).far (q := w.heap.size + 1) (by omega) 1 (.int .i64 0)).set 0 (.int .i64 0)).set 1 (.int .i64 0)
    have z0 := b1.c 0 rfl
    have z1 := b1.c 1 rfl
    have z2 := b2.c 0 rfl
    have z3 := b2.c 1 rfl
    have f0 := b1.f 0 rfl
    have f1 := b1.f 1 rfl
    have f2 := b2.f 0 rfl
    have f3 := b2.f 1 rfl
    have r0 := bb1.c 0 rfl
    have r1 := bb1.c 1 rfl
    have r2 := bb2.c 0 rfl
    have r3 := bb2.c 1 rfl
    clear b0 b1 b2 bb1 bb2 hb1 hbb c1
    go_wp2_with fail
    exact bodyPost_ret (v := .tuple #[.agg #[.int .i64 0, .int .i64 0], .agg #[.int .i64 0, .int .i64 0], .int .i64 c]) (by simp [results, Tryz.results32, go_sem, r0, r1, r2, r3]) rfl ⟨rfl, (((HBE.out.setCell (Nat.le_succ _) _).setCell (Nat.le_succ _) _).setCell (Nat.le_trans (Nat.le_succ _) (Nat.le_succ _)) _).setCell (Nat.le_trans (Nat.le_succ _) (Nat.le_succ _)) _⟩
end Go.Proofs.YtncmffhoodfhjaaGreat
namespace Go.Proofs.YtncmffhoodfhjaaGreat
open Go.RowKit
namespace As
theorem rng_map (f : Nat → Int) (k : Nat) : (List.range (k + 1)).map f = (List.range k).map f ++ [f k] := by rw [List.range_succ, List.map_append]; rfl
end As
set_option maxRecDepth 100000 in
set_option maxHeartbeats 8000000 in
theorem r14Links_any (A : Option Addr) (cv : Nat) (V : List (List Int)) (R : Int) (w : World) (hl : V.length ≤ maxLen) (h : IsM w A V) :
    Calls Tryz.prog 59 #[.agg #[.slice A V.length cv, .int .i64 R]] w (LnQ V R w) := by
  have CK := fun v (hv : Below w.heap.size w v) => r14Check_any A cv V R v hl (h.keep hv)
  rcases As.rchk_two V R with ⟨h0, hc, r0, r1⟩ | ⟨h1, h2⟩
  · rw [h0] at CK
    have ok := As.chk_ok hc
    have ht := As.bst_top ok
    have n1 := ok.n1
    have n6 := ok.n6
    have HQ := Lib.hid (show ∀ X c w', IsM w' X (As.lkt V) → Below w.heap.size w w' → LnQ V R w (.returned (.tuple #[.slice X V.length c, .int .i64 0])) w' from fun X c w' hM hb => ⟨X, c, by unfold As.lnS; rw [if_pos h0, lkt_len, h0], by unfold As.lnS; rw [if_pos h0]; exact hM, hb⟩)
    have CM := Lib.hid (fun v (hv : Below w.heap.size w v) => rMost_any A cv V v ok (h.keep hv))
    have HB6 := Lib.hid (fun i j => As.lkm_b6 ok (As.bst V) i j)
    have HMB := Lib.hid (bools_make V.length (by omega))
    have HOKV := Lib.hid ok
    have HTOP := Lib.hid ht
    have HM0 := Lib.hid h
    have CK' := Lib.hid CK
    obtain ⟨i0, hi0, hz0, hz1, hz2⟩ := info_parts intInfo
    have HI := Lib.hid hi0
    have HI2 := Lib.hid hz0
    have HI3 := Lib.hid hz1
    have HI4 := Lib.hid hz2
    obtain ⟨j0, kj0, kz0, kz1, kz2⟩ := info_parts rowInfo
    have HJ := Lib.hid kj0
    have HJ2 := Lib.hid kz0
    have HJ3 := Lib.hid kz1
    have HJ4 := Lib.hid kz2
    clear CK h0 hc r0 r1 h ok ht hi0 hz0 hz1 hz2 kj0 kz0 kz1 kz2
    go_enter Tryz.func59, Tryz.ntmps59
    go_upto_region 1 with fail
    refine at_box1 (fun V0 hbb b0 hsz => ?_)
    clear hsz
    have c0 := b0.c 0 rfl
    have c1 := b0.c 1 rfl
    go_wp2_with fail
    refine (CK'.out _ hbb).mono ?_
    rintro e w1 ⟨rfl, hb1⟩
    replace c0 := keepC hb1 c0
    replace hbb := keepB hbb hb1
    clear hb1 b0 c1
    go_wp2_with fail
    refine (CM.out _ hbb).mono ?_
    rintro e w3 ⟨X, cX, rfl, hI, hb1⟩
    have HC0 := Lib.hid (keepC hb1 c0)
    have HBB := Lib.hid (keepB hbb hb1)
    have HM3 := Lib.hid (HM0.out.keep (keepB hbb hb1))
    have HI3X := Lib.hid hI
    clear hb1 hI hbb c0 CK' CM HM0
    go_wp2_with fail
    go_loopw [5, 6] (fun v i W => ∃ k : Nat, k ≤ V.length ∧ i = .int .i64 k ∧ ∃ H C, Hid (Tw w3 W w3.heap.size V.length k (As.lkm V (As.bst V)) v H C)) (fun _ i _ => V.length - (intOf i).toNat)
    case atStart => exact ⟨0, Nat.zero_le _, rfl, (fun _ => 0), (fun _ => 0), Lib.hid (Tw.nil _ _ _ _ _ _ _ (Below.refl _ _) ⟨Nat.le_refl _, Nat.le_refl _⟩)⟩
    case round =>
      obtain ⟨k, hk, rfl, H, C, HT⟩ := hrel
      have c0 := keepC HT.out.bb HC0.out
      by_cases hlt : k < V.length
      · obtain ⟨wj, hwj⟩ : ∃ wj, wr = wj := ⟨_, rfl⟩
        have HWJ := Lib.hid hwj
        rw [hwj] at HT
        have HW0 := Lib.hid (show Below wj.heap.size wj wr by rw [hwj]; exact Below.refl _ _)
        clear hwj
        go_wp2_with fail
        go_loopw [7, 8] (fun v i W => ∃ m : Nat, m ≤ V.length ∧ i = .int .i64 m ∧ Hid (Below wj.heap.size wj W) ∧ Hid (Own W wj.heap.size v ((List.range m).map (As.lkm V (As.bst V) k)))) (fun _ i _ => V.length - (intOf i).toNat)
        case atStart => exact ⟨0, Nat.zero_le _, rfl, HW0, Lib.hid (Own.nil_ _ _)⟩
        case round =>
          clear c0 HW0
          obtain ⟨m, hm, rfl, HW, HO⟩ := hrel
          have c0 := keepC (keepB HT.out.bb HW.out) HC0.out
          by_cases hltm : m < V.length
          · have HCL := Lib.hid (fun v (hv : Below w3.heap.size w3 v) g (hg : w3.heap.size ≤ g) (hs : BB v g V.length (fun _ => false)) => rLink_any w3 A cv V X cX (As.bst V) g V.length m HOKV.out HTOP.out HM3.out HI3X.out hg V.length n6 (fun _ => false) k v hv hs hlt rfl (by rw [As.cnt_none]; exact Nat.le_refl _))
            have HE := Lib.hid (As.rng_map (As.lkm V (As.bst V) k) m)
            have HLEN := Lib.hid (show ((List.range m).map (As.lkm V (As.bst V) k)).length = m by simp)
            have HLK := Lib.hid (show As.lk V (As.bst V) m V.length (fun _ => false) k = As.lkm V (As.bst V) k m from rfl)
            simp only [HLK.out] at HCL
            generalize As.lkm V (As.bst V) k m = L at *
            have hO := HO.out
            unfold Own at hO
            rw [HLEN.out] at hO
            have HOO := Lib.hid hO
            have hW3 := keepB HT.out.bb HW.out
            have hs3 := hW3.size
            have HK := Lib.hid (fun v (hv : Below w3.heap.size w3 v) => keepC hv HC0.out)
            have MB := HMB.out
            go_upto_region 12 with fail
            go_region_held3 (fun v => v.cell? ⟨w.heap.size, 0, none⟩ = some (.slice A V.length cv))
              (first | (exact HK.out _ (by assumption)) | (exact HK.out _ (Below.drew (by assumption))) | (exact HK.out _ (below_al (by assumption) _)) | (exact HK.out _ (below_al (Below.drew (by assumption)) _)))
              (first
                | (refine step_append_lies _ (by rfl) _ _ _ (by rfl) wj.heap.size 3 i0 _ 1 8 Tryz.underlying25 HI.out HI2.out HI3.out HI4.out rfl (by omega) _ m (((List.range m).map (As.lkm V (As.bst V) k)).map (Value.int .i64)) (by rfl) (World.ownsRow.alloc ho5 _) ⟨w5.heap.size, 0, none⟩ 1 1 [.int .i64 L] (by rfl) (by rfl) (World.news_of_block (cs := #[.int .i64 L]) (t := 3) (fr := (0, 0)) (heap_alloc_new w5 _)) (by simp [Value.oneCell']) (by omega) (by unfold maxLen; omega) (by omega) (by simp; omega) (w5.heap.size + 1) (by simp) ?_; intro g cap w6 hown1 hgrow hat hglt; have hw6 := own_app rfl hj5 (fun b hb => (World.ownsRow.lt ho5 b hb).1) hgrow; have hw63 := keepB HT.out.bb hw6)
                | (go_at_call 79; refine (HCL.out _ (by first | exact below_al hW3 _ | exact below_al hW3.drew _ | exact (below_al hW3 _).drew) _ (by first | omega | (simp; omega)) (by first | exact BB.new _ _ _ | exact (BB.new wr _ _).keep (Below.refl _ _).drew)).mono ?_; intro e w5 hq; obtain ⟨rfl, hg5, -⟩ := hq; have hj5 : Below wj.heap.size wj w5 := (by first | exact below_gby (below_al HW.out _) hg5 HW.out.size | exact below_gby (below_al HW.out.drew _) hg5 HW.out.size); have hw5 : Below w3.heap.size w3 w5 := keepB HT.out.bb hj5; have ho5 : w5.ownsRow wj.heap.size 3 1 _ m (((List.range m).map (As.lkm V (As.bst V) k)).map (Value.int .i64)) := (by first | exact ownG_grown (World.ownsRow.alloc HOO.out _) hg5 (fun b hb e => by have := (World.ownsRow.lt HOO.out b hb).2; injection e with e; omega) | exact ownG_grown (World.ownsRow.alloc (World.ownsRow.drew HOO.out) _) hg5 (fun b hb e => by have := (World.ownsRow.lt HOO.out b hb).2; simp at e; omega)); have hsz5 := hj5.size))
            all_goals
              go_wp2_with fail
              go_roundw
              case rel => exact ⟨m + 1, by omega, by go_num, Lib.hid hw6, Lib.hid (by
                unfold Own
                rw [HE.out, List.length_append, HLEN.out, List.map_append]
                exact hown1)⟩
              case measure => simp [intOf]; omega
          · obtain rfl : m = V.length := by omega
            have hO := HO.out
            unfold Own at hO
            rw [show ((List.range V.length).map (As.lkm V (As.bst V) k)).length = V.length by simp] at hO
            obtain ⟨h, cap, rfl, hge, -, hbk⟩ := own_block hO (by omega)
            have HBF := Lib.hid (show BF wr h V.length (As.lkm V (As.bst V) k) by rw [List.map_map] at hbk; exact hbk)
            have HT1 := Lib.hid (HT.out.keep HW.out)
            have hs3 := HT.out.bb.size
            have hsj := HW.out.size
            have HNE := Lib.hid (show ∀ i, i < k → H i ≠ h from fun i hi e => by have := (HT.out.rows i hi).2.lt; omega)
            have HVB := Lib.hid (show u5.ownBlock ≠ some h from fun e => by have := (World.ownsRow.lt HT.out.own h e).2; omega)
            clear hO hbk HO
            go_wp2_with (at_builtin; go_loud (refine wpList_append_lies _ rfl _ _ _ rfl w3.heap.size 25 j0 _ 1 24 Tryz.underlying22 HJ.out HJ2.out HJ3.out HJ4.out rfl (by omega) _ k (rvs V.length H C k) (by rfl) (HT1.out.keep (below_al (Below.refl _ _) _)).own ⟨wr.heap.size, 0, none⟩ 1 1 [.slice (some ⟨h, 0, none⟩) V.length cap] (by rfl) (by rfl) (World.news_of_block (cs := #[.slice (some ⟨h, 0, none⟩) V.length cap]) (t := 25) (fr := (0, 0)) (heap_alloc_new wr _)) (by simp [Value.oneCell']) (by omega) (by unfold maxLen; omega) (by omega) (by simp; omega) (wr.heap.size + 1) (by simp) ?_; intro g cap2 w4 hown2 hgrow2 hat2 hlt2))
            all_goals exact ⟨⟨k + 1, by omega, by go_num, _, _, Lib.hid ((HT1.out.keep (below_al (Below.refl _ _) _)).app (by omega) (HBF.out.al _) HNE.out HVB.out hgrow2 hown2 (by simpa using hat2))⟩, by simp [intOf]; omega⟩
      · obtain rfl : k = V.length := by omega
        obtain ⟨g, cap, rfl, -⟩ := HT.out.form (by omega)
        have HF := Lib.hid (HQ.out (some ⟨g, 0, none⟩) cap wr (HT.out.isM (by unfold maxLen; omega) (fun i j _ _ => by have := HB6.out i j; unfold I64; omega)) (keepB HBB.out HT.out.bb))
        clear HT
        go_wp2_with fail
        go_ret2
        exact HF.out
  · have HQ := Lib.hid (show ∀ w', Below w.heap.size w w' → LnQ V R w (.returned (.tuple #[.slice none 0 0, .int .i64 (As.rchk V R)])) w' from fun w' hb => ⟨none, 0, by unfold As.lnS; rw [if_neg h2]; rfl, by unfold As.lnS; rw [if_neg h2]; exact isM_nil _ _, hb⟩)
    generalize As.rchk V R = c at *
    have CK' := Lib.hid CK
    clear CK h2 h hl
    go_enter Tryz.func59, Tryz.ntmps59
    go_upto_region 1 with fail
    refine at_box1 (fun V0 hbb b0 hsz => ?_)
    clear hsz
    have c0 := b0.c 0 rfl
    have c1 := b0.c 1 rfl
    go_wp2_with fail
    refine (CK'.out _ hbb).mono ?_
    rintro e w1 ⟨rfl, hb1⟩
    replace c0 := keepC hb1 c0
    replace c1 := keepC hb1 c1
    replace hbb := keepB hbb hb1
    clear hb1 b0
    go_wp2_with fail
    refine (CK'.out _ hbb).mono ?_
    rintro e w2 ⟨rfl, hb1⟩
    replace hbb := keepB hbb hb1
    clear hb1 c0 c1
    go_wp2_with fail
    go_ret2
    exact HQ.out _ hbb
end Go.Proofs.YtncmffhoodfhjaaGreat
namespace Go.Proofs.YtncmffhoodfhjaaGreat
open Go.RowKit
set_option maxRecDepth 100000 in
set_option maxHeartbeats 4000000 in
theorem r14Range_any (A : Option Addr) (cv : Nat) (V : List (List Int)) (R j : Int) (w : World) (hl : V.length ≤ maxLen) (h : IsM w A V) :
    Calls Tryz.prog 34 #[.agg #[.slice A V.length cv, .int .i64 R], .int .i64 j] w fun e w' => e = .returned (rgV V R j) ∧ Below w.heap.size w w' := by
  have CL := Lib.hid (fun v (hv : Below w.heap.size w v) => r14Links_any A cv V R v hl (h.keep hv))
  rcases As.rchk_two V R with ⟨h0, hc, r0, r1⟩ | ⟨h1, h2⟩
  · have hln : As.lnS V R = As.lkt V := by unfold As.lnS; rw [if_pos h0]
    have HLN := Lib.hid hln
    have HZ0 := Lib.hid h0
    by_cases hj : 0 ≤ j ∧ j < V.length
    · obtain ⟨J, rfl⟩ : ∃ J : Nat, j = J := ⟨j.toNat, by omega⟩
      have hJ : J < V.length := by omega
      have ok := As.chk_ok hc
      have n1 := ok.n1
      have n6 := ok.n6
      have e1 : rgV V R J = .tuple #[.agg #[.int .i64 (Rp.q (As.lowN V (As.bst V) R J) V.length).num, .int .i64 ((Rp.q (As.lowN V (As.bst V) R J) V.length).den : Int)], .agg #[.int .i64 (Rp.q (As.highN V (As.bst V) R J) V.length).num, .int .i64 ((Rp.q (As.highN V (As.bst V) R J) V.length).den : Int)], .int .i64 0] := by
        unfold rgV As.rgS
        rw [if_pos h0, if_pos hj]
        rfl
      rw [e1]
      have HB1 := Lib.hid (fun k (hk : k ≤ 6) => As.sum6 (f := fun i => As.lkm V (As.bst V) i J) (fun i => As.lkm_b6 ok _ _ _) hk)
      have HB2 := Lib.hid (fun k (hk : k ≤ 6) => As.sum6 (f := fun i => As.lkm V (As.bst V) J i) (fun i => As.lkm_b6 ok _ _ _) hk)
      have HB3 := Lib.hid (As.lkm_b6 ok (As.bst V))
      have HS1 := Lib.hid (fun k => As.sm_range_succ (fun i => As.lkm V (As.bst V) i J) k)
      have HS2 := Lib.hid (fun k => As.sm_range_succ (fun i => As.lkm V (As.bst V) J i) k)
      have h61 := HB1.out V.length n6
      have h62 := HB2.out V.length n6
      have hlo : As.lowN V (As.bst V) R J = R + As.sm (fun i => As.lkm V (As.bst V) i J) (List.range V.length) := rfl
      have hhi : As.highN V (As.bst V) R J = R - As.sm (fun i => As.lkm V (As.bst V) J i) (List.range V.length) := rfl
      have p1 := fun v => rMake_any (As.lowN V (As.bst V) R J) V.length (by omega) (by omega) (by omega) (by omega) v
      have p2 := fun v => rMake_any (As.highN V (As.bst V) R J) V.length (by omega) (by omega) (by omega) (by omega) v
      rw [Rp.makeS_q (by omega) (by omega) (by omega) (by omega)] at p1 p2
      have P1 := Lib.hid p1
      have P2 := Lib.hid p2
      have HLO := Lib.hid hlo
      have HHI := Lib.hid hhi
      generalize (Rp.q (As.lowN V (As.bst V) R J) V.length).num = x1 at *
      generalize ((Rp.q (As.lowN V (As.bst V) R J) V.length).den : Int) = x2 at *
      generalize (Rp.q (As.highN V (As.bst V) R J) V.length).num = y1 at *
      generalize ((Rp.q (As.highN V (As.bst V) R J) V.length).den : Int) = y2 at *
      generalize As.lowN V (As.bst V) R J = LO at *
      generalize As.highN V (As.bst V) R J = HI at *
      have d1 : decide ((J : Int) < 0) = false := by rw [decide_eq_false_iff_not]; omega
      have d2 : decide ((V.length : Int) ≤ (J : Int)) = false := by rw [decide_eq_false_iff_not]; omega
      clear h0 hc hj ok h e1 p1 p2 hln
      have HLOB := Lib.hid (show -100000000 ≤ LO ∧ LO ≤ 100000000 from by omega)
      have HHIB := Lib.hid (show -100000000 ≤ HI ∧ HI ≤ 100000000 from by omega)
      clear h61 h62 hlo hhi
      go_enter Tryz.func34, Tryz.ntmps34
      go_upto_region 1 with fail
      refine at_box3 (fun V0 hbb b0 b1 b2 hsz => ?_)
      clear hsz
      have c0 := b0.c 0 rfl
      have c1 := b0.c 1 rfl
      go_wp2_with fail
      refine (CL.out _ hbb).mono ?_
      rintro e w2 ⟨X, cX, rfl, hM, hb1⟩
      rw [HLN.out, HZ0.out, lkt_len]
      rw [HLN.out] at hM
      have HC1 := Lib.hid (keepC hb1 c1)
      have B1 := Lib.hid (b1.keep hb1)
      have B2 := Lib.hid (b2.keep hb1)
      have HBB := Lib.hid (keepB hbb hb1)
      have HM := Lib.hid hM
      clear hb1 hM hbb c0 c1 b0 b1 b2 CL
      go_wp2_with fail
      go_loop [9, 10, 11] (fun lo hi i => ∃ k : Nat, k ≤ V.length ∧ i = .int .i64 k ∧ lo = .int .i64 (-As.sm (fun i => As.lkm V (As.bst V) i J) (List.range k)) ∧ hi = .int .i64 (As.sm (fun i => As.lkm V (As.bst V) J i) (List.range k))) (fun _ _ i => V.length - (intOf i).toNat)
      case atStart => exact ⟨0, Nat.zero_le _, rfl, by simp [As.sm], by simp [As.sm]⟩
      case round =>
        obtain ⟨k, hk, rfl, rfl, rfl⟩ := hrel
        by_cases hlt : k < V.length
        · obtain ⟨b, off, rb, ro, cc, hG, hc1, hcs⟩ := mm_at HM.out hlt
          obtain ⟨b', off', rb', ro', cc', hG', hc1', hcs'⟩ := mm_at HM.out hJ
          subst hG
          simp only [Option.some.injEq, Addr.mk.injEq, and_true] at hG'
          obtain ⟨rfl, rfl⟩ := hG'
          have x0 := hcs J hJ
          have x9 := hcs' k hlt
          obtain ⟨p1, p2⟩ := HB3.out k J
          obtain ⟨p3, p4⟩ := HB3.out J k
          obtain ⟨s1, s2⟩ := HB1.out k (by omega)
          obtain ⟨s3, s4⟩ := HB2.out k (by omega)
          have E1 := Lib.hid (HS1.out k)
          have E2 := Lib.hid (HS2.out k)
          clear hcs hcs'
          generalize As.lkm V (As.bst V) k J = x at *
          generalize As.lkm V (As.bst V) J k = y at *
          generalize As.sm (fun i => As.lkm V (As.bst V) i J) (List.range k) = s at *
          generalize As.sm (fun i => As.lkm V (As.bst V) J i) (List.range k) = t at *
          have i1 : (k : Int) < (V.length : Int) := by omega
          have i2 : (J : Int) < (V.length : Int) := by omega
          go_wp2_with fail
          go_round
          case rel => exact ⟨k + 1, by omega, by go_num, by rw [E1.out]; congr 1; omega, by rw [E2.out]⟩
          case measure => simp [intOf]; omega
        · obtain rfl : k = V.length := by omega
          have c1 := HC1.out
          have e1 : R + As.sm (fun i => As.lkm V (As.bst V) i J) (List.range V.length) = LO := HLO.out.symm
          have e2 : R - As.sm (fun i => As.lkm V (As.bst V) J i) (List.range V.length) = HI := HHI.out.symm
          obtain ⟨q1, q2⟩ := HLOB.out
          obtain ⟨q3, q4⟩ := HHIB.out
          generalize As.sm (fun i => As.lkm V (As.bst V) i J) (List.range V.length) = s at *
          generalize As.sm (fun i => As.lkm V (As.bst V) J i) (List.range V.length) = t at *
          have s1 : -200000000 ≤ s := by omega
          have s2 : s ≤ 200000000 := by omega
          go_wp2_with fail
          refine (P1.out _).mono ?_
          rintro e w4 ⟨rfl, hb4⟩
          have HB4 := Lib.hid (below_al hb4 (.cells #[.int .i64 x1, .int .i64 x2] 37))
          have HN4 := Lib.hid (BK.new w4 [.int .i64 x1, .int .i64 x2] 37)
          replace c1 := keepC hb4 c1
          have hs4 := hb4.size
          have c1a := cell_alloc c1 (.cells #[.int .i64 x1, .int .i64 x2] 37)
          have hq4 := lt_of_cell c1
          clear hb4
          go_wp2_with fail
          refine (P2.out _).mono ?_
          rintro e w5 ⟨rfl, hb5⟩
          have hb45 := keepB HB4.out hb5
          have HB5 := Lib.hid hb45
          have HN5 := Lib.hid (HN4.out.keep hb5)
          clear hb5 hb45 c1 c1a
          go_upto_region 15 with fail
          refine at_worldQ (fun v => Below w.heap.size w v ∧ BK v (w.heap.size + 1) [.int .i64 0, .int .i64 0] ∧ BK v (w.heap.size + 1 + 1) [.int .i64 0, .int .i64 0] ∧ BK v w4.heap.size [.int .i64 x1, .int .i64 x2] ∧ BK v w5.heap.size [.int .i64 y1, .int .i64 y2]) ⟨below_al (keepB HBB.out HB5.out) _, (B1.out.keep HB5.out).al _, (B2.out.keep HB5.out).al _, HN5.out.al _, BK.new _ _ _⟩ (fun V9 hS => ?_)
          obtain ⟨hb9, b1, b2, b3, b4⟩ := hS
          have z0 := b1.c 0 rfl
          have z1 := b1.c 1 rfl
          have z2 := b2.c 0 rfl
          have z3 := b2.c 1 rfl
          have f0 := b1.f 0 rfl
          have f1 := b1.f 1 rfl
          have f2 := b2.f 0 rfl
          have f3 := b2.f 1 rfl
          have k0 := b3.c 0 rfl
          have k1 := b3.c 1 rfl
          have k2 := b4.c 0 rfl
          have k3 := b4.c 1 rfl
          have hl2 := B2.out.lt
          have hl5 := HN5.out.lt
          have HB9 := Lib.hid hb9
          have na4 : w.heap.size + 1 ≠ w4.heap.size := by omega
          have nb4 : w.heap.size + 1 + 1 ≠ w4.heap.size := by omega
          have na5 : w.heap.size + 1 ≠ w5.heap.size := by omega
          have nb5 : w.heap.size + 1 + 1 ≠ w5.heap.size := by omega
          clear s1 s2 q1 q2 q3 q4 e1 e2 d1 d2 hq4
          have BB1 := Lib.hid ((((b1.set 0 (.int .i64 x1)).set 1 (.int .i64 x2)).far (q := w.heap.size + 1 + 1) (by omega) 0 (.int .i64 y1)).far (q := w.heap.size + 1 + 1) (by omega) 1 (.int .i64 y2))
          have BB2 := Lib.hid ((((b2.far (q := w.heap.size + 1) (by omega) 0 (.int .i64 x1)).far (q := w.heap.size + 1) (by omega) 1 (.int .i64 x2)).set 0 (.int .i64 y1)).set 1 (.int .i64 y2))
          clear b1 b2 b3 b4 hb9
          go_region_held3 (fun v => v.cell? ⟨w4.heap.size, 0, none⟩ = some (.int .i64 x1) ∧ v.cell? ⟨w4.heap.size, 1, none⟩ = some (.int .i64 x2) ∧ v.cell? ⟨w5.heap.size, 0, none⟩ = some (.int .i64 y1) ∧ v.cell? ⟨w5.heap.size, 1, none⟩ = some (.int .i64 y2))
            (exact ⟨by go_simp, by go_simp, by go_simp, by go_simp⟩)
            (fail)
          have r0 := BB1.out.c 0 rfl
          have r1 := BB1.out.c 1 rfl
          have r2 := BB2.out.c 0 rfl
          have r3 := BB2.out.c 1 rfl
          go_wp2_with fail
          exact bodyPost_ret (v := .tuple #[.agg #[.int .i64 x1, .int .i64 x2], .agg #[.int .i64 y1, .int .i64 y2], .int .i64 0]) (by simp [results, Tryz.results34, go_sem, r0, r1, r2, r3]) rfl ⟨rfl, ((((HB9.out.setCell (Nat.le_succ _) _).setCell (Nat.le_succ _) _).setCell (Nat.le_trans (Nat.le_succ _) (Nat.le_succ _)) _).setCell (Nat.le_trans (Nat.le_succ _) (Nat.le_succ _)) _).drew⟩
    · have e1 : rgV V R j = .tuple #[.agg #[.int .i64 0, .int .i64 0], .agg #[.int .i64 0, .int .i64 0], .int .i64 2] := by
        unfold rgV As.rgS
        rw [if_pos h0, if_neg hj]
      rw [e1]
      clear h0 hc h e1 hln
      by_cases hn : j < 0
      · have d1 : decide (j < 0) = true := by rw [decide_eq_true_eq]; exact hn
        clear hn hj
        go_enter Tryz.func34, Tryz.ntmps34
        go_upto_region 1 with fail
        refine at_box3 (fun V0 hbb b0 b1 b2 hsz => ?_)
        clear hsz
        have c0 := b0.c 0 rfl
        have c1 := b0.c 1 rfl
        go_wp2_with fail
        refine (CL.out _ hbb).mono ?_
        rintro e w1 ⟨X, cX, rfl, hM, hb1⟩
        rw [HLN.out, HZ0.out, lkt_len]
        replace c0 := keepC hb1 c0
        replace b1 := b1.keep hb1
        replace b2 := b2.keep hb1
        have HBE := Lib.hid (keepB hbb hb1)
        have bb1 := (((b1.set 0 (.int .i64 0)).set 1 (.int .i64 0)).far (q := w.heap.size + 1 + 1) (by omega) 0 (.int .i64 0)).far (q := w.heap.size + 1 + 1) (by omega) 1 (.int .i64 0)
        have bb2 := (((b2.far (q := w.heap.size + 1) (by omega) 0 (.int .i64 0)).far (q := w.heap.size + 1) (by omega) 1 (.int .i64 0)).set 0 (.int .i64 0)).set 1 (.int .i64 0)
        have z0 := b1.c 0 rfl
        have z1 := b1.c 1 rfl
        have z2 := b2.c 0 rfl
        have z3 := b2.c 1 rfl
        have f0 := b1.f 0 rfl
        have f1 := b1.f 1 rfl
        have f2 := b2.f 0 rfl
        have f3 := b2.f 1 rfl
        have r0 := bb1.c 0 rfl
        have r1 := bb1.c 1 rfl
        have r2 := bb2.c 0 rfl
        have r3 := bb2.c 1 rfl
        clear b0 b1 b2 bb1 bb2 hb1 hbb c1 c0 hM
        go_wp2_with fail
        exact bodyPost_ret (v := .tuple #[.agg #[.int .i64 0, .int .i64 0], .agg #[.int .i64 0, .int .i64 0], .int .i64 2]) (by simp [results, Tryz.results34, go_sem, r0, r1, r2, r3]) rfl ⟨rfl, (((HBE.out.setCell (Nat.le_succ _) _).setCell (Nat.le_succ _) _).setCell (Nat.le_trans (Nat.le_succ _) (Nat.le_succ _)) _).setCell (Nat.le_trans (Nat.le_succ _) (Nat.le_succ _)) _⟩
      · have d1 : decide (j < 0) = false := by rw [decide_eq_false_iff_not]; exact hn
        have d2 : decide ((V.length : Int) ≤ j) = true := by rw [decide_eq_true_eq]; omega
        clear hn hj
        go_enter Tryz.func34, Tryz.ntmps34
        go_upto_region 1 with fail
        refine at_box3 (fun V0 hbb b0 b1 b2 hsz => ?_)
        clear hsz
        have c0 := b0.c 0 rfl
        have c1 := b0.c 1 rfl
        go_wp2_with fail
        refine (CL.out _ hbb).mono ?_
        rintro e w1 ⟨X, cX, rfl, hM, hb1⟩
        rw [HLN.out, HZ0.out, lkt_len]
        replace c0 := keepC hb1 c0
        replace b1 := b1.keep hb1
        replace b2 := b2.keep hb1
        have HBE := Lib.hid (keepB hbb hb1)
        have bb1 := (((b1.set 0 (.int .i64 0)).set 1 (.int .i64 0)).far (q := w.heap.size + 1 + 1) (by omega) 0 (.int .i64 0)).far (q := w.heap.size + 1 + 1) (by omega) 1 (.int .i64 0)
        have bb2 := (((b2.far (q := w.heap.size + 1) (by omega) 0 (.int .i64 0)).far (q := w.heap.size + 1) (by omega) 1 (.int .i64 0)).set 0 (.int .i64 0)).set 1 (.int .i64 0)
        have z0 := b1.c 0 rfl
        have z1 := b1.c 1 rfl
        have z2 := b2.c 0 rfl
        have z3 := b2.c 1 rfl
        have f0 := b1.f 0 rfl
        have f1 := b1.f 1 rfl
        have f2 := b2.f 0 rfl
        have f3 := b2.f 1 rfl
        have r0 := bb1.c 0 rfl
        have r1 := bb1.c 1 rfl
        have r2 := bb2.c 0 rfl
        have r3 := bb2.c 1 rfl
        clear b0 b1 b2 bb1 bb2 hb1 hbb c1 c0 hM
        go_wp2_with fail
        exact bodyPost_ret (v := .tuple #[.agg #[.int .i64 0, .int .i64 0], .agg #[.int .i64 0, .int .i64 0], .int .i64 2]) (by simp [results, Tryz.results34, go_sem, r0, r1, r2, r3]) rfl ⟨rfl, (((HBE.out.setCell (Nat.le_succ _) _).setCell (Nat.le_succ _) _).setCell (Nat.le_trans (Nat.le_succ _) (Nat.le_succ _)) _).setCell (Nat.le_trans (Nat.le_succ _) (Nat.le_succ _)) _⟩
  · have e1 : rgV V R j = .tuple #[.agg #[.int .i64 0, .int .i64 0], .agg #[.int .i64 0, .int .i64 0], .int .i64 (As.rchk V R)] := by
      unfold rgV As.rgS
      rw [if_neg h2]
    rw [e1]
    have hln : As.lnS V R = [] := by unfold As.lnS; rw [if_neg h2]
    have HLN := Lib.hid hln
    generalize hcc : As.rchk V R = c at *
    have HCC := Lib.hid hcc
    clear h2 h e1 hcc hln
    go_enter Tryz.func34, Tryz.ntmps34
    go_upto_region 1 with fail
    refine at_box3 (fun V0 hbb b0 b1 b2 hsz => ?_)
    clear hsz
    have c0 := b0.c 0 rfl
    have c1 := b0.c 1 rfl
    go_wp2_with fail
    refine (CL.out _ hbb).mono ?_
    rintro e w1 ⟨X, cX, rfl, hM, hb1⟩
    rw [HLN.out, HCC.out]
    replace c0 := keepC hb1 c0
    replace b1 := b1.keep hb1
    replace b2 := b2.keep hb1
    have HBE := Lib.hid (keepB hbb hb1)
    have bb1 := (((b1.set 0 (.int .i64 0)).set 1 (.int .i64 0)).far (q := w.heap.size + 1 + 1) (by omega) 0 (.int .i64 0)).far (q := w.heap.size + 1 + 1) (by omega) 1 (.int .i64 0)
    have bb2 := (((b2.far (q := w.heap.size + 1) (by omega) 0 (.int .i64 0)).far (q := w.heap.size + 1) (by omega) 1 (.int .i64 0)).set 0 (.int .i64 0)).set 1 (.int .i64 0)
    have z0 := b1.c 0 rfl
    have z1 := b1.c 1 rfl
    have z2 := b2.c 0 rfl
    have z3 := b2.c 1 rfl
    have f0 := b1.f 0 rfl
    have f1 := b1.f 1 rfl
    have f2 := b2.f 0 rfl
    have f3 := b2.f 1 rfl
    have r0 := bb1.c 0 rfl
    have r1 := bb1.c 1 rfl
    have r2 := bb2.c 0 rfl
    have r3 := bb2.c 1 rfl
    clear b0 b1 b2 bb1 bb2 hb1 hbb c1 c0 hM
    go_wp2_with fail
    exact bodyPost_ret (v := .tuple #[.agg #[.int .i64 0, .int .i64 0], .agg #[.int .i64 0, .int .i64 0], .int .i64 c]) (by simp [results, Tryz.results34, go_sem, r0, r1, r2, r3]) rfl ⟨rfl, (((HBE.out.setCell (Nat.le_succ _) _).setCell (Nat.le_succ _) _).setCell (Nat.le_trans (Nat.le_succ _) (Nat.le_succ _)) _).setCell (Nat.le_trans (Nat.le_succ _) (Nat.le_succ _)) _⟩
end Go.Proofs.YtncmffhoodfhjaaGreat
