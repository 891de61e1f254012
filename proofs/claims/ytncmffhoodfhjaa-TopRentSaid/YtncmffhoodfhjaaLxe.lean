/- Package rent: Worst. -/
import Derived.Test.YtncmffhoodfhjaaLxe1
namespace Go.Proofs.Ytncmffhoodfhjaa
open Go.RowKit
/-- Worst's answer as a value. -/
def wsV (V : List (List Int)) (R : Int) (xs ps : List Int) (D : Int) : Value := .tuple #[.agg #[.int .i64 (As.wsS V R xs ps D).1.1, .int .i64 (As.wsS V R xs ps D).1.2], .agg #[.int .i64 (As.wsS V R xs ps D).2.1.1, .int .i64 (As.wsS V R xs ps D).2.1.2], .int .i64 (As.wsS V R xs ps D).2.2]
set_option maxRecDepth 100000 in
set_option maxHeartbeats 8000000 in
theorem rtWorst_any (A : Option Addr) (cv : Nat) (V : List (List Int)) (R : Int) (B : Option Addr) (ca : Nat) (xs : List Int) (C : Option Addr) (cp : Nat) (ps : List Int) (D : Int) (w : World) (hl : V.length ≤ maxLen) (h : IsM w A V) (hx : xs.length ≤ maxLen) (hB : IsI w B xs) (hpm : ps.length ≤ maxLen) (hC : IsI w C ps) :
    Calls Try.prog 30 #[.agg #[.slice A V.length cv, .int .i64 R], .agg #[.slice B xs.length ca, .slice C ps.length cp, .int .i64 D]] w fun e w' => e = .returned (wsV V R xs ps D) ∧ Below w.heap.size w w' := by
  have CG := fun v (hv : Below w.heap.size w v) => rmGains_any A cv V R B ca xs C cp ps D v hl (h.keep hv) hx (hB.keep hv) hpm (hC.keep hv)
  unfold GnQ at CG
  rcases As.vld_cases V R xs ps D with h0 | ⟨h1, h2⟩
  · obtain ⟨ok, s0, s1, a, rfl, le⟩ := As.vld_zero h0
    have n1 := ok.n1
    have n6 := ok.n6
    have e1 : wsV V R (As.al a) ps D = .tuple #[.agg #[.int .i64 (Rp.q (As.lsG V a ps D) D).num, .int .i64 ((Rp.q (As.lsG V a ps D) D).den : Int)], .agg #[.int .i64 (Rp.q (As.gtG V a ps D) D).num, .int .i64 ((Rp.q (As.gtG V a ps D) D).den : Int)], .int .i64 0] := by
      unfold wsV As.wsS
      rw [if_pos h0, As.toNat_al]
    rw [e1]
    simp only [As.gnS_yes h0, h0, As.gnl_len] at CG
    have d1 := le.d1
    have d60 := le.d60
    have hla : a.length = V.length := by simpa using le.perm.length_eq
    have hlt : ∀ i, i < V.length → a.getD i 0 < V.length := fun i hi => (As.perm_lt le.perm).2 i hi
    obtain ⟨i, hi, g1⟩ := As.lsG_at (V := V) (by omega) a ps D
    obtain ⟨j, hj, g2⟩ := As.gtG_at (V := V) (by omega) a ps D
    have b1 := As.gnF_bd ok le i (hlt i hi)
    have b2 := As.gnF_bd ok le j (hlt j hj)
    rw [← g1] at b1
    rw [← g2] at b2
    have hgl := As.gnl_len V a ps D V.length
    have CMN := Lib.hid (fun v Y c (hI : IsI v Y (As.gnl V a ps D V.length)) => rtMin_any Y c (As.gnl V a ps D V.length) V.length hgl n1 n6 v hI)
    have CMX := Lib.hid (fun v Y c (hI : IsI v Y (As.gnl V a ps D V.length)) => rtMax_any Y c (As.gnl V a ps D V.length) V.length hgl n1 n6 v hI)
    have CF1 := Lib.hid (fun v => rtFrac_any (As.lsG V a ps D) D d1 (by omega) (by omega) (by omega) v)
    have CF2 := Lib.hid (fun v => rtFrac_any (As.gtG V a ps D) D d1 (by omega) (by omega) (by omega) v)
    rw [show As.mnk (As.gnl V a ps D V.length) V.length = As.lsG V a ps D from rfl] at CMN
    rw [show As.mxk (As.gnl V a ps D V.length) V.length = As.gtG V a ps D from rfl] at CMX
    have CG' := Lib.hid CG
    generalize (Rp.q (As.lsG V a ps D) D).num = x1 at *
    generalize ((Rp.q (As.lsG V a ps D) D).den : Int) = x2 at *
    generalize (Rp.q (As.gtG V a ps D) D).num = y1 at *
    generalize ((Rp.q (As.gtG V a ps D) D).den : Int) = y2 at *
    generalize As.lsG V a ps D = LO at *
    generalize As.gtG V a ps D = HI at *
    generalize As.gnl V a ps D V.length = GL at *
    generalize As.al a = xs at *
    clear CG h0 ok le e1 hla hlt g1 g2 b1 b2 h hB hC hgl hi hj
    go_enter Try.func30, Try.ntmps30
    go_upto_region 1 with fail
    refine at_box4 (fun V0 hbb b0 b1 b2 b3 hsz => ?_)
    clear hsz
    have c0 := b0.c 0 rfl
    have c1 := b0.c 1 rfl
    have c2 := b1.c 0 rfl
    have c3 := b1.c 1 rfl
    have c4 := b1.c 2 rfl
    go_wp2_with fail
    refine (CG'.out _ hbb).mono ?_
    rintro e w1 ⟨Y, cY, rfl, hI, hb⟩
    replace c4 := keepC hb c4
    have B2 := Lib.hid (b2.keep hb)
    have B3 := Lib.hid (b3.keep hb)
    have HB := Lib.hid (keepB hbb hb)
    have HIY := Lib.hid hI
    clear hb b0 b1 b2 b3 hbb CG' hI c0 c1 c2 c3
    have HK := Lib.hid (fun v (hv : Below w1.heap.size w1 v) => (show v.cell? ⟨w.heap.size + 1, 2, none⟩ = some (.int .i64 D) from keepC hv c4))
    have hB0 := Below.refl w1.heap.size w1
    have k1d := HK.out _ hB0.drew
    go_upto_region 4 with fail
    go_region_held3 (fun v => v.cell? ⟨w.heap.size + 1, 2, none⟩ = some (.int .i64 D))
      (first | (rw [k6b]) | (rw [k6a]) | (rw [k6]) | (rw [k5]) | (rw [k1d]) | (rw [c4]))
      (first
        | (go_at_call 65; refine (CMN.out _ Y cY (by first | exact HIY.out | exact HIY.out.keep hB0.drew)).mono ?_; rintro e wM ⟨rfl, rfl⟩)
        | (go_at_call 64; have hx := hw5; clear hx; refine (CF2.out _).mono ?_; rintro e w6 ⟨rfl, hb6⟩; have hw6 : Below w1.heap.size w1 w6 := keepB hw5 hb6; have q1 := B2.out.keep hw6; have q2 := B3.out.keep hw6; have z0 := q1.c 0 rfl; have z1 := q1.c 1 rfl; have z2 := q2.c 0 rfl; have z3 := q2.c 1 rfl; have f0 := q1.f 0 rfl; have f1 := q1.f 1 rfl; have q3 := (q2.far (q := w.heap.size + 1 + 1) (by omega) 0 (.int .i64 x1)).far (q := w.heap.size + 1 + 1) (by omega) 1 (.int .i64 x2); have yy0 := q3.c 0 rfl; have yy1 := q3.c 1 rfl; have gg0 := q3.f 0 rfl; have gg1 := q3.f 1 rfl; clear q1 q2 q3; have k6 : w6.cell? ⟨w.heap.size + 1, 2, none⟩ = some (.int .i64 D) := keepC hw6 c4; have k6a : ((w6.setCell ⟨w.heap.size + 1 + 1, 0, none⟩ (.int .i64 x1)).setCell ⟨w.heap.size + 1 + 1, 1, none⟩ (.int .i64 x2)).cell? ⟨w.heap.size + 1, 2, none⟩ = some (.int .i64 D) := cell_far (cell_far k6 (by simp) _) (by simp) _; have k6b : ((((w6.setCell ⟨w.heap.size + 1 + 1, 0, none⟩ (.int .i64 x1)).setCell ⟨w.heap.size + 1 + 1, 1, none⟩ (.int .i64 x2)).setCell ⟨w.heap.size + 1 + 1 + 1, 0, none⟩ (.int .i64 y1)).setCell ⟨w.heap.size + 1 + 1 + 1, 1, none⟩ (.int .i64 y2)).cell? ⟨w.heap.size + 1, 2, none⟩ = some (.int .i64 D) := cell_far (cell_far k6a (by simp; omega) _) (by simp; omega) _)
        | (go_at_call 64; refine (CF1.out _).mono ?_; rintro e w5 ⟨rfl, hb5⟩; have hw5 : Below w1.heap.size w1 w5 := (by first | exact keepB hB0 hb5 | exact keepB hB0.drew hb5); have k5 := HK.out _ hw5)
        | (go_at_call 66; refine (CMX.out _ Y cY (HIY.out.keep hw5)).mono ?_; rintro e wN ⟨rfl, rfl⟩))
    all_goals
      have b2 := B2.out.keep hw6
      have b3 := B3.out.keep hw6
      have HBE := Lib.hid (keepB HB.out hw6)
      have bb1 := (((b2.set 0 (.int .i64 x1)).set 1 (.int .i64 x2)).far (q := w.heap.size + 1 + 1 + 1) (by omega) 0 (.int .i64 y1)).far (q := w.heap.size + 1 + 1 + 1) (by omega) 1 (.int .i64 y2)
      have bb2 := (((b3.far (q := w.heap.size + 1 + 1) (by omega) 0 (.int .i64 x1)).far (q := w.heap.size + 1 + 1) (by omega) 1 (.int .i64 x2)).set 0 (.int .i64 y1)).set 1 (.int .i64 y2)
      have z0 := b2.c 0 rfl
      have z1 := b2.c 1 rfl
      have z2 := b3.c 0 rfl
      have z3 := b3.c 1 rfl
      have f0 := b2.f 0 rfl
      have f1 := b2.f 1 rfl
      have f2 := b3.f 0 rfl
      have f3 := b3.f 1 rfl
      have r0 := bb1.c 0 rfl
      have r1 := bb1.c 1 rfl
      have r2 := bb2.c 0 rfl
      have r3 := bb2.c 1 rfl
      clear b2 b3 bb1 bb2
      go_wp2_with fail
      exact bodyPost_ret (v := .tuple #[.agg #[.int .i64 x1, .int .i64 x2], .agg #[.int .i64 y1, .int .i64 y2], .int .i64 0]) (by simp [results, Try.results30, go_sem, r0, r1, r2, r3]) rfl ⟨rfl, (((HBE.out.setCell (show w.heap.size ≤ w.heap.size + 1 + 1 by omega) _).setCell (show w.heap.size ≤ w.heap.size + 1 + 1 by omega) _).setCell (show w.heap.size ≤ w.heap.size + 1 + 1 + 1 by omega) _).setCell (show w.heap.size ≤ w.heap.size + 1 + 1 + 1 by omega) _⟩
  · have e1 : wsV V R xs ps D = .tuple #[.agg #[.int .i64 0, .int .i64 0], .agg #[.int .i64 0, .int .i64 0], .int .i64 (As.vld V R xs ps D)] := by
      unfold wsV As.wsS
      rw [if_neg h2]
    rw [e1]
    simp only [As.gnS_no h2] at CG
    generalize As.vld V R xs ps D = c at *
    have CG' := Lib.hid CG
    clear CG h2 h hB hC e1
    go_enter Try.func30, Try.ntmps30
    go_upto_region 1 with fail
    refine at_box4 (fun V0 hbb b0 b1 b2 b3 hsz => ?_)
    clear hsz
    have c0 := b0.c 0 rfl
    have c1 := b0.c 1 rfl
    have c2 := b1.c 0 rfl
    have c3 := b1.c 1 rfl
    have c4 := b1.c 2 rfl
    go_wp2_with fail
    refine (CG'.out _ hbb).mono ?_
    rintro e w1 ⟨Y, cY, rfl, hI, hb⟩
    replace b2 := b2.keep hb
    replace b3 := b3.keep hb
    have HBE := Lib.hid (keepB hbb hb)
    have bb1 := (((b2.set 0 (.int .i64 0)).set 1 (.int .i64 0)).far (q := w.heap.size + 1 + 1 + 1) (by omega) 0 (.int .i64 0)).far (q := w.heap.size + 1 + 1 + 1) (by omega) 1 (.int .i64 0)
    have bb2 := (((b3.far (q := w.heap.size + 1 + 1) (by omega) 0 (.int .i64 0)).far (q := w.heap.size + 1 + 1) (by omega) 1 (.int .i64 0)).set 0 (.int .i64 0)).set 1 (.int .i64 0)
    have z0 := b2.c 0 rfl
    have z1 := b2.c 1 rfl
    have z2 := b3.c 0 rfl
    have z3 := b3.c 1 rfl
    have f0 := b2.f 0 rfl
    have f1 := b2.f 1 rfl
    have f2 := b3.f 0 rfl
    have f3 := b3.f 1 rfl
    have r0 := bb1.c 0 rfl
    have r1 := bb1.c 1 rfl
    have r2 := bb2.c 0 rfl
    have r3 := bb2.c 1 rfl
    clear b0 b1 b2 b3 bb1 bb2 hb hbb hI c0 c1 c2 c3 c4
    go_wp2_with fail
    exact bodyPost_ret (v := .tuple #[.agg #[.int .i64 0, .int .i64 0], .agg #[.int .i64 0, .int .i64 0], .int .i64 c]) (by simp [results, Try.results30, go_sem, r0, r1, r2, r3]) rfl ⟨rfl, (((HBE.out.setCell (show w.heap.size ≤ w.heap.size + 1 + 1 by omega) _).setCell (show w.heap.size ≤ w.heap.size + 1 + 1 by omega) _).setCell (show w.heap.size ≤ w.heap.size + 1 + 1 + 1 by omega) _).setCell (show w.heap.size ≤ w.heap.size + 1 + 1 + 1 by omega) _⟩
end Go.Proofs.Ytncmffhoodfhjaa
