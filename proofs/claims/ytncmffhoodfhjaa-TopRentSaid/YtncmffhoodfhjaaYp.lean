/- Package room: Links, Range. -/
import Derived.Test.YtncmffhoodfhjaaLwk
import Derived.Test.YtncmffhoodfhjaaYl
namespace Go.Proofs.Ytncmffhoodfhjaa
open Go.RowKit
/-- A table's cells. -/
theorem mm_at {w : World} {X : Option Addr} {n : Nat} {F : Nat → Nat → Int} (h : IsM w X (mm n n F)) {i : Nat} (hi : i < n) :
    ∃ b off rb ro c, X = some ⟨b, off, none⟩ ∧ w.cell? ⟨b, off + i, none⟩ = some (.slice (some ⟨rb, ro, none⟩) n c) ∧ ∀ j, j < n → w.cell? ⟨rb, ro + j, none⟩ = some (.int .i64 (F i j)) := by
  obtain ⟨b, off, e, hrows⟩ := h (by rw [mm_len]; omega)
  obtain ⟨Q, c, hc, _, hI⟩ := hrows i (by rw [mm_len]; exact hi)
  rw [mm_get hi, ml_len] at hc
  rw [mm_get hi] at hI
  obtain ⟨rb, ro, rfl, hcs⟩ := hI.1 (by rw [ml_len]; omega)
  refine ⟨b, off, rb, ro, c, e, hc, fun j hj => ?_⟩
  have := hcs j (by rw [ml_len]; exact hj)
  rwa [el_ml hj] at this
namespace As
/-- What Links returns. -/
def lnS (V : List (List Int)) (R : Int) : List (List Int) := if rchk V R = 0 then lkt V else []
/-- What Range returns. -/
def rgS (V : List (List Int)) (R : Int) (j : Int) : (Int × Int) × (Int × Int) × Int :=
  if rchk V R = 0 then
    if 0 ≤ j ∧ j < V.length then (((Rp.q (lowN V (bst V) R j.toNat) V.length).num, ((Rp.q (lowN V (bst V) R j.toNat) V.length).den : Int)), ((Rp.q (highN V (bst V) R j.toNat) V.length).num, ((Rp.q (highN V (bst V) R j.toNat) V.length).den : Int)), 0)
    else ((0, 0), (0, 0), 2)
  else ((0, 0), (0, 0), rchk V R)
theorem sm_bd2 {f : Nat → Int} {M : Int} : ∀ k : Nat, (∀ j, j < k → -M ≤ f j ∧ f j ≤ M) → -(k * M) ≤ sm f (List.range k) ∧ sm f (List.range k) ≤ k * M
  | 0, _ => by simp [sm]
  | k + 1, h => by
    have ih := sm_bd2 k fun j hj => h j (by omega)
    have h1 := h k (by omega)
    rw [List.range_succ, sm_append]
    simp only [sm]
    rw [show ((k + 1 : Nat) : Int) = k + 1 from rfl, Int.add_mul]
    omega
theorem lkm_b6 {V : List (List Int)} (ok : Ok V) (b : List Nat) (x y : Nat) : -6000000 ≤ lkm V b x y ∧ lkm V b x y ≤ 6000000 := by
  have h := lkm_bd ok.bd (b := b) x y
  have n6 := ok.n6
  have : (V.length : Int) * 1000000 ≤ 6 * 1000000 := Int.mul_le_mul_of_nonneg_right (by omega) (by omega)
  omega
theorem sum6 {f : Nat → Int} (h : ∀ j, -6000000 ≤ f j ∧ f j ≤ 6000000) {k : Nat} (hk : k ≤ 6) : -36000000 ≤ sm f (List.range k) ∧ sm f (List.range k) ≤ 36000000 := by
  have h1 := sm_bd2 (f := f) (M := 6000000) k fun j _ => h j
  have : (k : Int) * 6000000 ≤ 6 * 6000000 := Int.mul_le_mul_of_nonneg_right (by omega) (by omega)
  omega
end As
/-- What Links gives. -/
def LnQ (V : List (List Int)) (R : Int) (w : World) (e : Ending) (w' : World) : Prop := ∃ X c, e = .returned (.tuple #[.slice X (As.lnS V R).length c, .int .i64 (As.rchk V R)]) ∧ IsM w' X (As.lnS V R) ∧ Below w.heap.size w w'
theorem isM_nil (w : World) (A : Option Addr) : IsM w A [] := fun h => absurd h (by simp)
theorem lkt_len (V : List (List Int)) : (As.lkt V).length = V.length := mm_len _ _ _
set_option maxHeartbeats 2000000 in
theorem rmLinks_any (A : Option Addr) (cv : Nat) (V : List (List Int)) (R : Int) (w : World) (hl : V.length ≤ maxLen) (h : IsM w A V) :
    Calls Try.prog 14 #[.agg #[.slice A V.length cv, .int .i64 R]] w (LnQ V R w) := by
  have CK := fun v (hv : Below w.heap.size w v) => rmCheck_any A cv V R v hl (h.keep hv)
  rcases As.rchk_two V R with ⟨h0, hc, r0, r1⟩ | ⟨h1, h2⟩
  · rw [h0] at CK
    have CL := Lib.hid (fun v (hv : Below w.heap.size w v) => linksOf_any A cv V v hc hl (h.keep hv))
    have HQ := Lib.hid (show ∀ X c w', IsM w' X (As.lkt V) → Below w.heap.size w w' → LnQ V R w (.returned (.tuple #[.slice X V.length c, .int .i64 0])) w' from fun X c w' hM hb => ⟨X, c, by unfold As.lnS; rw [if_pos h0, lkt_len, h0], by unfold As.lnS; rw [if_pos h0]; exact hM, hb⟩)
    have CK' := Lib.hid CK
    clear CK h0 hc r0 r1 h hl
    go_enter Try.func14, Try.ntmps14
    go_upto_region 1 with fail
    refine at_box1 (fun V0 hbb b0 hsz => ?_)
    clear hsz
    have c0 := b0.c 0 rfl
    have c1 := b0.c 1 rfl
    go_wp2_with fail
    refine (CK'.out _ hbb).mono ?_
    rintro e w1 ⟨rfl, hb1⟩
    replace c0 := keepC hb1 c0
    replace hbb := keepB hbb hb1
    clear hb1 b0 c1
    go_wp2_with fail
    refine (CL.out _ hbb).mono ?_
    rintro e w2 ⟨G, c, rfl, hM, hb1⟩
    have HF := Lib.hid (HQ.out _ c w2 hM (keepB hbb hb1))
    clear hb1 hM hbb c0
    go_wp2_with fail
    go_ret2
    exact HF.out
  · have HQ := Lib.hid (show ∀ w', Below w.heap.size w w' → LnQ V R w (.returned (.tuple #[.slice none 0 0, .int .i64 (As.rchk V R)])) w' from fun w' hb => ⟨none, 0, by unfold As.lnS; rw [if_neg h2]; rfl, by unfold As.lnS; rw [if_neg h2]; exact isM_nil _ _, hb⟩)
    generalize As.rchk V R = c at *
    have CK' := Lib.hid CK
    clear CK h2 h hl
    go_enter Try.func14, Try.ntmps14
    go_upto_region 1 with fail
    refine at_box1 (fun V0 hbb b0 hsz => ?_)
    clear hsz
    have c0 := b0.c 0 rfl
    have c1 := b0.c 1 rfl
    go_wp2_with fail
    refine (CK'.out _ hbb).mono ?_
    rintro e w1 ⟨rfl, hb1⟩
    replace hbb := keepB hbb hb1
    clear hb1 b0 c0 c1
    go_wp2_with fail
    go_ret2
    exact HQ.out _ hbb
/-- Range's answer as a value. -/
def rgV (V : List (List Int)) (R : Int) (j : Int) : Value := .tuple #[.agg #[.int .i64 (As.rgS V R j).1.1, .int .i64 (As.rgS V R j).1.2], .agg #[.int .i64 (As.rgS V R j).2.1.1, .int .i64 (As.rgS V R j).2.1.2], .int .i64 (As.rgS V R j).2.2]
set_option maxRecDepth 100000 in
set_option maxHeartbeats 4000000 in
theorem rmRange_any (A : Option Addr) (cv : Nat) (V : List (List Int)) (R j : Int) (w : World) (hl : V.length ≤ maxLen) (h : IsM w A V) :
    Calls Try.prog 13 #[.agg #[.slice A V.length cv, .int .i64 R], .int .i64 j] w fun e w' => e = .returned (rgV V R j) ∧ Below w.heap.size w w' := by
  have CK := fun v (hv : Below w.heap.size w v) => rmCheck_any A cv V R v hl (h.keep hv)
  rcases As.rchk_two V R with ⟨h0, hc, r0, r1⟩ | ⟨h1, h2⟩
  · rw [h0] at CK
    have CK' := Lib.hid CK
    by_cases hj : 0 ≤ j ∧ j < V.length
    · obtain ⟨J, rfl⟩ : ∃ J : Nat, j = J := ⟨j.toNat, by omega⟩
      have hJ : J < V.length := by omega
      have ok := As.chk_ok hc
      have n1 := ok.n1
      have n6 := ok.n6
      have e1 : rgV V R J = .tuple #[.agg #[.int .i64 (Rp.q (As.lowN V (As.bst V) R J) V.length).num, .int .i64 ((Rp.q (As.lowN V (As.bst V) R J) V.length).den : Int)], .agg #[.int .i64 (Rp.q (As.highN V (As.bst V) R J) V.length).num, .int .i64 ((Rp.q (As.highN V (As.bst V) R J) V.length).den : Int)], .int .i64 0] := by
        unfold rgV As.rgS
        rw [if_pos h0, if_pos hj]
        rfl
      rw [e1]
      have CL := Lib.hid (fun v (hv : Below w.heap.size w v) => linksOf_any A cv V v hc hl (h.keep hv))
      have HB1 := Lib.hid (fun k (hk : k ≤ 6) => As.sum6 (f := fun i => As.lkm V (As.bst V) i J) (fun i => As.lkm_b6 ok _ _ _) hk)
      have HB2 := Lib.hid (fun k (hk : k ≤ 6) => As.sum6 (f := fun i => As.lkm V (As.bst V) J i) (fun i => As.lkm_b6 ok _ _ _) hk)
      have HB3 := Lib.hid (As.lkm_b6 ok (As.bst V))
      have HS1 := Lib.hid (fun k => As.sm_range_succ (fun i => As.lkm V (As.bst V) i J) k)
      have HS2 := Lib.hid (fun k => As.sm_range_succ (fun i => As.lkm V (As.bst V) J i) k)
      have h61 := HB1.out V.length n6
      have h62 := HB2.out V.length n6
      have hlo : As.lowN V (As.bst V) R J = R + As.sm (fun i => As.lkm V (As.bst V) i J) (List.range V.length) := rfl
      have hhi : As.highN V (As.bst V) R J = R - As.sm (fun i => As.lkm V (As.bst V) J i) (List.range V.length) := rfl
      have P1 := Lib.hid (fun v => rmPart_any (As.lowN V (As.bst V) R J) V.length (by omega) (by omega) (by omega) (by omega) v)
      have P2 := Lib.hid (fun v => rmPart_any (As.highN V (As.bst V) R J) V.length (by omega) (by omega) (by omega) (by omega) v)
      have HLO := Lib.hid hlo
      have HHI := Lib.hid hhi
      generalize (Rp.q (As.lowN V (As.bst V) R J) V.length).num = x1 at *
      generalize ((Rp.q (As.lowN V (As.bst V) R J) V.length).den : Int) = x2 at *
      generalize (Rp.q (As.highN V (As.bst V) R J) V.length).num = y1 at *
      generalize ((Rp.q (As.highN V (As.bst V) R J) V.length).den : Int) = y2 at *
      generalize As.lowN V (As.bst V) R J = LO at *
      generalize As.highN V (As.bst V) R J = HI at *
      have d1 : decide ((J : Int) < 0) = false := by rw [decide_eq_false_iff_not]; omega
      have d2 : decide ((V.length : Int) ≤ (J : Int)) = false := by rw [decide_eq_false_iff_not]; omega
      clear CK h0 hc hj ok h e1 h61 h62 hlo hhi
      go_enter Try.func13, Try.ntmps13
      go_upto_region 1 with fail
      refine at_box3 (fun V0 hbb b0 b1 b2 hsz => ?_)
      clear hsz
      have c0 := b0.c 0 rfl
      have c1 := b0.c 1 rfl
      go_wp2_with fail
      refine (CK'.out _ hbb).mono ?_
      rintro e w1 ⟨rfl, hb1⟩
      replace c0 := keepC hb1 c0
      replace c1 := keepC hb1 c1
      replace b1 := b1.keep hb1
      replace b2 := b2.keep hb1
      replace hbb := keepB hbb hb1
      clear hb1 b0
      go_wp2_with fail
      refine (CL.out _ hbb).mono ?_
      rintro e w2 ⟨G, cG, rfl, hM, hb1⟩
      replace c1 := keepC hb1 c1
      have B1 := Lib.hid (b1.keep hb1)
      have B2 := Lib.hid (b2.keep hb1)
      have HBB := Lib.hid (keepB hbb hb1)
      have HM := Lib.hid hM
      have hb2 := Below.refl w2.heap.size w2
      clear hb1 hM hbb c0 b1 b2 CL CK'
      go_upto_region 8 with fail
      go_region_held3 (fun v => v.cell? ⟨w.heap.size, 1, none⟩ = some (.int .i64 R))
        (exact c1)
        (fail)
      go_wp2_with fail
      have HMD := Lib.hid (HM.out.keep (Below.refl _ _).drew)
      have HBD := Lib.hid HBB.out.drew
      have B1D := Lib.hid (B1.out.keep (Below.refl _ _).drew)
      have B2D := Lib.hid (B2.out.keep (Below.refl _ _).drew)
      clear c1 HM HBB B1 B2 hb2
      refine at_worldQ (fun v => Hid (IsM v (some ⟨G, 0, none⟩) (As.lkt V)) ∧ Hid (Below w.heap.size w v) ∧ Hid (BK v (w.heap.size + 1) [.int .i64 0, .int .i64 0]) ∧ Hid (BK v (w.heap.size + 1 + 1) [.int .i64 0, .int .i64 0])) ⟨HMD, HBD, B1D, B2D⟩ (fun W3 hS => ?_)
      clear HMD HBD B1D B2D
      obtain ⟨HM, HBB, B1, B2⟩ := hS
      go_loop [10, 11, 40] (fun lo hi i => ∃ k : Nat, k ≤ V.length ∧ i = .int .i64 k ∧ lo = .int .i64 (R + As.sm (fun i => As.lkm V (As.bst V) i J) (List.range k)) ∧ hi = .int .i64 (R - As.sm (fun i => As.lkm V (As.bst V) J i) (List.range k))) (fun _ _ i => V.length - (intOf i).toNat)
      case atStart => exact ⟨0, Nat.zero_le _, rfl, by simp [As.sm], by simp [As.sm]⟩
      case round =>
        obtain ⟨k, hk, rfl, rfl, rfl⟩ := hrel
        by_cases hlt : k < V.length
        · obtain ⟨b, off, rb, ro, cc, hG, hc1, hcs⟩ := mm_at HM.out hlt
          obtain ⟨b', off', rb', ro', cc', hG', hc1', hcs'⟩ := mm_at HM.out hJ
          simp only [Option.some.injEq, Addr.mk.injEq, and_true] at hG hG'
          obtain ⟨rfl, rfl⟩ := hG
          obtain ⟨rfl, rfl⟩ := hG'
          rw [Nat.zero_add] at hc1 hc1'
          have x0 := hcs J hJ
          have x9 := hcs' k hlt
          obtain ⟨p1, p2⟩ := HB3.out k J
          obtain ⟨p3, p4⟩ := HB3.out J k
          obtain ⟨s1, s2⟩ := HB1.out k (by omega)
          obtain ⟨s3, s4⟩ := HB2.out k (by omega)
          have E1 := Lib.hid (HS1.out k)
          have E2 := Lib.hid (HS2.out k)
          clear hcs hcs'
          generalize As.lkm V (As.bst V) k J = x at *
          generalize As.lkm V (As.bst V) J k = y at *
          generalize As.sm (fun i => As.lkm V (As.bst V) i J) (List.range k) = s at *
          generalize As.sm (fun i => As.lkm V (As.bst V) J i) (List.range k) = t at *
          have i1 : (k : Int) < (V.length : Int) := by omega
          have i2 : (J : Int) < (V.length : Int) := by omega
          go_wp2_with fail
          go_round
          case rel => exact ⟨k + 1, by omega, by go_num, by rw [E1.out, Int.add_assoc], by rw [E2.out, Int.sub_sub]⟩
          case measure => simp [intOf]; omega
        · obtain rfl : k = V.length := by omega
          rw [← HLO.out, ← HHI.out]
          go_wp2_with fail
          refine (P1.out _).mono ?_
          rintro e w4 ⟨rfl, hb4⟩
          have HB4 := Lib.hid hb4
          clear hb4
          go_wp2_with fail
          refine (P2.out _).mono ?_
          rintro e w5 ⟨rfl, hb5⟩
          have hb45 := keepB HB4.out hb5
          have b1 := B1.out.keep hb45
          have b2 := B2.out.keep hb45
          have HBE := Lib.hid (keepB HBB.out hb45)
          have bb1 := (((b1.set 0 (.int .i64 x1)).set 1 (.int .i64 x2)).far (q := w.heap.size + 1 + 1) (by omega) 0 (.int .i64 y1)).far (q := w.heap.size + 1 + 1) (by omega) 1 (.int .i64 y2)
          have bb2 := (((b2.far (q := w.heap.size + 1) (by omega) 0 (.int .i64 x1)).far (q := w.heap.size + 1) (by omega) 1 (.int .i64 x2)).set 0 (.int .i64 y1)).set 1 (.int .i64 y2)
          have z0 := b1.c 0 rfl
          have z1 := b1.c 1 rfl
          have z2 := b2.c 0 rfl
          have z3 := b2.c 1 rfl
          have f0 := b1.f 0 rfl
          have f1 := b1.f 1 rfl
          have f2 := b2.f 0 rfl
          have f3 := b2.f 1 rfl
          have r0 := bb1.c 0 rfl
          have r1 := bb1.c 1 rfl
          have r2 := bb2.c 0 rfl
          have r3 := bb2.c 1 rfl
          clear b1 b2 bb1 bb2 hb5 hb45
          go_wp2_with fail
          exact bodyPost_ret (v := .tuple #[.agg #[.int .i64 x1, .int .i64 x2], .agg #[.int .i64 y1, .int .i64 y2], .int .i64 0]) (by simp [results, Try.results13, go_sem, r0, r1, r2, r3]) rfl ⟨rfl, (((HBE.out.setCell (Nat.le_succ _) _).setCell (Nat.le_succ _) _).setCell (Nat.le_trans (Nat.le_succ _) (Nat.le_succ _)) _).setCell (Nat.le_trans (Nat.le_succ _) (Nat.le_succ _)) _⟩
    · have e1 : rgV V R j = .tuple #[.agg #[.int .i64 0, .int .i64 0], .agg #[.int .i64 0, .int .i64 0], .int .i64 2] := by
        unfold rgV As.rgS
        rw [if_pos h0, if_neg hj]
      rw [e1]
      clear CK h0 hc h e1
      by_cases hn : j < 0
      · have d1 : decide (j < 0) = true := by rw [decide_eq_true_eq]; exact hn
        clear hn hj
        go_enter Try.func13, Try.ntmps13
        go_upto_region 1 with fail
        refine at_box3 (fun V0 hbb b0 b1 b2 hsz => ?_)
        clear hsz
        have c0 := b0.c 0 rfl
        have c1 := b0.c 1 rfl
        go_wp2_with fail
        refine (CK'.out _ hbb).mono ?_
        rintro e w1 ⟨rfl, hb1⟩
        replace c0 := keepC hb1 c0
        replace b1 := b1.keep hb1
        replace b2 := b2.keep hb1
        have HBE := Lib.hid (keepB hbb hb1)
        have bb1 := (((b1.set 0 (.int .i64 0)).set 1 (.int .i64 0)).far (q := w.heap.size + 1 + 1) (by omega) 0 (.int .i64 0)).far (q := w.heap.size + 1 + 1) (by omega) 1 (.int .i64 0)
        have bb2 := (((b2.far (q := w.heap.size + 1) (by omega) 0 (.int .i64 0)).far (q := w.heap.size + 1) (by omega) 1 (.int .i64 0)).set 0 (.int .i64 0)).set 1 (.int .i64 0)
        have z0 := b1.c 0 rfl
        have z1 := b1.c 1 rfl
        have z2 := b2.c 0 rfl
        have z3 := b2.c 1 rfl
        have f0 := b1.f 0 rfl
        have f1 := b1.f 1 rfl
        have f2 := b2.f 0 rfl
        have f3 := b2.f 1 rfl
        have r0 := bb1.c 0 rfl
        have r1 := bb1.c 1 rfl
        have r2 := bb2.c 0 rfl
        have r3 := bb2.c 1 rfl
        clear b0 b1 b2 bb1 bb2 hb1 hbb c1
        go_wp2_with fail
        exact bodyPost_ret (v := .tuple #[.agg #[.int .i64 0, .int .i64 0], .agg #[.int .i64 0, .int .i64 0], .int .i64 2]) (by simp [results, Try.results13, go_sem, r0, r1, r2, r3]) rfl ⟨rfl, (((HBE.out.setCell (Nat.le_succ _) _).setCell (Nat.le_succ _) _).setCell (Nat.le_trans (Nat.le_succ _) (Nat.le_succ _)) _).setCell (Nat.le_trans (Nat.le_succ _) (Nat.le_succ _)) _⟩
      · have d1 : decide (j < 0) = false := by rw [decide_eq_false_iff_not]; exact hn
        have d2 : decide ((V.length : Int) ≤ j) = true := by rw [decide_eq_true_eq]; omega
        clear hn hj
        go_enter Try.func13, Try.ntmps13
        go_upto_region 1 with fail
        refine at_box3 (fun V0 hbb b0 b1 b2 hsz => ?_)
        clear hsz
        have c0 := b0.c 0 rfl
        have c1 := b0.c 1 rfl
        go_wp2_with fail
        refine (CK'.out _ hbb).mono ?_
        rintro e w1 ⟨rfl, hb1⟩
        replace c0 := keepC hb1 c0
        replace b1 := b1.keep hb1
        replace b2 := b2.keep hb1
        have HBE := Lib.hid (keepB hbb hb1)
        have bb1 := (((b1.set 0 (.int .i64 0)).set 1 (.int .i64 0)).far (q := w.heap.size + 1 + 1) (by omega) 0 (.int .i64 0)).far (q := w.heap.size + 1 + 1) (by omega) 1 (.int .i64 0)
        have bb2 := (((b2.far (q := w.heap.size + 1) (by omega) 0 (.int .i64 0)).far (q := w.heap.size + 1) (by omega) 1 (.int .i64 0)).set 0 (.int .i64 0)).set 1 (.int .i64 0)
        have z0 := b1.c 0 rfl
        have z1 := b1.c 1 rfl
        have z2 := b2.c 0 rfl
        have z3 := b2.c 1 rfl
        have f0 := b1.f 0 rfl
        have f1 := b1.f 1 rfl
        have f2 := b2.f 0 rfl
        have f3 := b2.f 1 rfl
        have r0 := bb1.c 0 rfl
        have r1 := bb1.c 1 rfl
        have r2 := bb2.c 0 rfl
        have r3 := bb2.c 1 rfl
        clear b0 b1 b2 bb1 bb2 hb1 hbb c1
        go_wp2_with fail
        exact bodyPost_ret (v := .tuple #[.agg #[.int .i64 0, .int .i64 0], .agg #[.int .i64 0, .int .i64 0], .int .i64 2]) (by simp [results, Try.results13, go_sem, r0, r1, r2, r3]) rfl ⟨rfl, (((HBE.out.setCell (Nat.le_succ _) _).setCell (Nat.le_succ _) _).setCell (Nat.le_trans (Nat.le_succ _) (Nat.le_succ _)) _).setCell (Nat.le_trans (Nat.le_succ _) (Nat.le_succ _)) _⟩
  · have e1 : rgV V R j = .tuple #[.agg #[.int .i64 0, .int .i64 0], .agg #[.int .i64 0, .int .i64 0], .int .i64 (As.rchk V R)] := by
      unfold rgV As.rgS
      rw [if_neg h2]
    rw [e1]
    generalize As.rchk V R = c at *
    have CK' := Lib.hid CK
    clear CK h2 h e1
    go_enter Try.func13, Try.ntmps13
    go_upto_region 1 with fail
    refine at_box3 (fun V0 hbb b0 b1 b2 hsz => ?_)
    clear hsz
    have c0 := b0.c 0 rfl
    have c1 := b0.c 1 rfl
    go_wp2_with fail
    refine (CK'.out _ hbb).mono ?_
    rintro e w1 ⟨rfl, hb1⟩
    replace c0 := keepC hb1 c0
    replace b1 := b1.keep hb1
    replace b2 := b2.keep hb1
    have HBE := Lib.hid (keepB hbb hb1)
    have bb1 := (((b1.set 0 (.int .i64 0)).set 1 (.int .i64 0)).far (q := w.heap.size + 1 + 1) (by omega) 0 (.int .i64 0)).far (q := w.heap.size + 1 + 1) (by omega) 1 (.int .i64 0)
    have bb2 := (((b2.far (q := w.heap.size + 1) (by omega) 0 (.int .i64 0)).far (q := w.heap.size + 1) (by omega) 1 (.int .i64 0)).set 0 (.int .i64 0)).set 1 (.int .i64 0)
    have z0 := b1.c 0 rfl
    have z1 := b1.c 1 rfl
    have z2 := b2.c 0 rfl
    have z3 := b2.c 1 rfl
    have f0 := b1.f 0 rfl
    have f1 := b1.f 1 rfl
    have f2 := b2.f 0 rfl
    have f3 := b2.f 1 rfl
    have r0 := bb1.c 0 rfl
    have r1 := bb1.c 1 rfl
    have r2 := bb2.c 0 rfl
    have r3 := bb2.c 1 rfl
    clear b0 b1 b2 bb1 bb2 hb1 hbb c1
    go_wp2_with fail
    exact bodyPost_ret (v := .tuple #[.agg #[.int .i64 0, .int .i64 0], .agg #[.int .i64 0, .int .i64 0], .int .i64 c]) (by simp [results, Try.results13, go_sem, r0, r1, r2, r3]) rfl ⟨rfl, (((HBE.out.setCell (Nat.le_succ _) _).setCell (Nat.le_succ _) _).setCell (Nat.le_trans (Nat.le_succ _) (Nat.le_succ _)) _).setCell (Nat.le_trans (Nat.le_succ _) (Nat.le_succ _)) _⟩
end Go.Proofs.Ytncmffhoodfhjaa
