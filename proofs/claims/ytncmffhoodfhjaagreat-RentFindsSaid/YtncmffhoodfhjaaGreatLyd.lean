/- The reference's layer 15: Worst. -/
import Derived.Test.YtncmffhoodfhjaaGreatLxe
import Derived.Test.YtncmffhoodfhjaaGreatYm
import Derived.Test.YtncmffhoodfhjaaGreatYk
import Derived.BigRegion
namespace Go.Proofs.YtncmffhoodfhjaaGreat
open Go.RowKit
theorem rmk15 {a n : Int} (h1 : 1 ≤ n) (h2 : n ≤ 1000) (a0 : -1000000000000 ≤ a) (a1 : a ≤ 1000000000000) (w : World) :
    Calls Tryz.prog 31 #[.int .i64 a, .int .i64 n] w fun e w' => e = .returned (.tuple #[.agg #[.int .i64 (Rp.q a n).num, .int .i64 ((Rp.q a n).den : Int)], .int .i64 0]) ∧ Below w.heap.size w w' := by
  have c := rMake_any a n (by omega) (by omega) (by omega) (by omega) w
  rw [Rp.makeS_q h1 (by omega) (by omega) (by omega)] at c
  exact c
set_option maxRecDepth 100000 in
set_option maxHeartbeats 8000000 in
theorem r15Worst_any (A : Option Addr) (cv : Nat) (V : List (List Int)) (R : Int) (B : Option Addr) (ca : Nat) (xs : List Int) (C : Option Addr) (cp : Nat) (ps : List Int) (D : Int) (w : World) (hl : V.length ≤ maxLen) (h : IsM w A V) (hx : xs.length ≤ maxLen) (hB : IsI w B xs) (hC : IsI w C ps) :
    Calls Tryz.prog 12 #[.agg #[.slice A V.length cv, .int .i64 R], .agg #[.slice B xs.length ca, .slice C ps.length cp, .int .i64 D]] w fun e w' => e = .returned (wsV V R xs ps D) ∧ Below w.heap.size w w' := by
  have CG := fun v (hv : Below w.heap.size w v) => rGains_any A cv V R B ca xs C cp ps D v (h.keep hv) (hB.keep hv) (hC.keep hv) (fun v' hv' => r14Valid_any A cv V R B ca xs C cp ps D v' hl ((h.keep hv).keep hv') hx ((hB.keep hv).keep hv') ((hC.keep hv).keep hv'))
  unfold GnQ at CG
  rcases As.vld_cases V R xs ps D with h0 | ⟨h1, h2⟩
  · obtain ⟨ok, s0, s1, a, rfl, le⟩ := As.vld_zero h0
    have n1 := ok.n1
    have n6 := ok.n6
    have e1 : wsV V R (As.al a) ps D = .tuple #[.agg #[.int .i64 (Rp.q (As.lsG V a ps D) D).num, .int .i64 ((Rp.q (As.lsG V a ps D) D).den : Int)], .agg #[.int .i64 (Rp.q (As.gtG V a ps D) D).num, .int .i64 ((Rp.q (As.gtG V a ps D) D).den : Int)], .int .i64 0] := by
      unfold wsV As.wsS
      rw [if_pos h0, As.toNat_al]
    rw [e1]
    simp only [As.gnS_yes h0, h0, As.gnl_len] at CG
    have d1 := le.d1
    have d60 := le.d60
    have hlt : ∀ i, i < V.length → a.getD i 0 < V.length := fun i hi => (As.perm_lt le.perm).2 i hi
    obtain ⟨i, hi, g1⟩ := As.lsG_at (V := V) (by omega) a ps D
    obtain ⟨j, hj, g2⟩ := As.gtG_at (V := V) (by omega) a ps D
    have b1 := As.gnF_bd ok le i (hlt i hi)
    have b2 := As.gnF_bd ok le j (hlt j hj)
    rw [← g1] at b1
    rw [← g2] at b2
    have hgl := As.gnl_len V a ps D V.length
    have CF1 := Lib.hid (fun v => rmk15 (a := As.lsG V a ps D) (n := D) d1 (by omega) (by omega) (by omega) v)
    have CF2 := Lib.hid (fun v => rmk15 (a := As.gtG V a ps D) (n := D) d1 (by omega) (by omega) (by omega) v)
    have HLS := Lib.hid (show As.mnk (As.gnl V a ps D V.length) V.length = As.lsG V a ps D from rfl)
    have HGT := Lib.hid (show As.mxk (As.gnl V a ps D V.length) V.length = As.gtG V a ps D from rfl)
    have CG' := Lib.hid CG
    have HGL := Lib.hid hgl
    generalize (Rp.q (As.lsG V a ps D) D).num = x1 at *
    generalize ((Rp.q (As.lsG V a ps D) D).den : Int) = x2 at *
    generalize (Rp.q (As.gtG V a ps D) D).num = y1 at *
    generalize ((Rp.q (As.gtG V a ps D) D).den : Int) = y2 at *
    generalize As.lsG V a ps D = LO at *
    generalize As.gtG V a ps D = HI at *
    generalize As.gnl V a ps D V.length = GL at *
    generalize As.al a = xs at *
    clear CG h0 ok le e1 hlt g1 g2 b1 b2 h hB hC hgl hi hj
    go_enter Tryz.func12, Tryz.ntmps12
    go_upto_region 1 with fail
    refine at_box4 (fun V0 hbb b0 b1 b2 b3 hsz => ?_)
    clear hsz
    have c0 := b0.c 0 rfl
    have c1 := b0.c 1 rfl
    have c2 := b1.c 0 rfl
    have c3 := b1.c 1 rfl
    have c4 := b1.c 2 rfl
    go_wp2_with fail
    refine (CG'.out _ hbb).mono ?_
    rintro e w1 ⟨Y, cY, rfl, hI, hb⟩
    have C4 := Lib.hid (keepC hb c4)
    have B2 := Lib.hid (b2.keep hb)
    have B3 := Lib.hid (b3.keep hb)
    have HB := Lib.hid (keepB hbb hb)
    obtain ⟨qb, ob, rfl, hys⟩ := list_at hI (j := 0) (by rw [HGL.out]; omega)
    have HY := Lib.hid (fun i (hi : i < V.length) => hys i (by rw [HGL.out]; exact hi))
    have x0 := hys 0 (by rw [HGL.out]; omega)
    rw [Nat.add_zero] at x0
    have i0 : (0 : Int) < (V.length : Int) := by omega
    have HM1 := Lib.hid (As.mnk_one GL)
    have HM2 := Lib.hid (As.mxk_one GL)
    clear hb b0 b1 b2 b3 hbb CG' hI c0 c1 c2 c3 c4 hys
    go_wp2_with fail
    go_big_region
    clear x0 i0
    go_wp2_with fail
    go_loopw [9, 10, 11] (fun lo hi i W => ∃ k : Nat, 1 ≤ k ∧ k ≤ V.length ∧ i = .int .i64 k ∧ lo = .int .i64 (As.mnk GL k) ∧ hi = .int .i64 (As.mxk GL k) ∧ Hid (Below w1.heap.size w1 W)) (fun _ _ i _ => V.length - (intOf i).toNat)
    case atStart => exact ⟨1, Nat.le_refl _, n1, rfl, by rw [HM1.out], by rw [HM2.out], Lib.hid (by first | exact (Below.refl _ _).drew | exact Below.refl _ _)⟩
    case round =>
      obtain ⟨k, hk1, hk, rfl, rfl, rfl, HW⟩ := hrel
      by_cases hlt : k < V.length
      · have x0 := keepC HW.out (HY.out k hlt)
        have HS1 := Lib.hid (As.mnk_succ GL k)
        have HS2 := Lib.hid (As.mxk_succ GL k)
        generalize As.mnk GL k = a1 at *
        generalize As.mxk GL k = a2 at *
        generalize As.el GL k = b at *
        have i1 : (k : Int) < (V.length : Int) := by omega
        go_wp2_with fail
        go_big_region
        clear x0
        go_wp2_with fail
        go_roundw
        case rel => exact ⟨k + 1, by omega, by omega, by go_num, by rw [HS1.out], by rw [HS2.out], Lib.hid HW.out.drew⟩
        case measure => simp [intOf]; omega
      · obtain rfl : k = V.length := by omega
        rw [HLS.out, HGT.out]
        have c4 := keepC HW.out C4.out
        replace B2 := Lib.hid (B2.out.keep HW.out)
        replace B3 := Lib.hid (B3.out.keep HW.out)
        replace HB := Lib.hid (keepB HB.out HW.out)
        clear HW HY C4 HM1 HM2 HLS HGT
        go_wp2_with fail
        refine (CF1.out _).mono ?_
        rintro e w3 ⟨rfl, hb⟩
        replace B2 := Lib.hid (B2.out.keep hb)
        replace B3 := Lib.hid (B3.out.keep hb)
        replace HB := Lib.hid (keepB HB.out hb)
        replace c4 := keepC hb c4
        have hl2 := B3.out.lt
        clear hb CF1
        go_upto_region 10 with fail
        refine at_worldQ (fun v => Below w3.heap.size w3 v ∧ BK v w3.heap.size [.int .i64 x1, .int .i64 x2]) ⟨below_al (Below.refl _ _) _, BK.new _ _ _⟩ (fun U1 hS => ?_)
        obtain ⟨hb, hq⟩ := hS
        replace B2 := Lib.hid (B2.out.keep hb)
        replace B3 := Lib.hid (B3.out.keep hb)
        replace HB := Lib.hid (keepB HB.out hb)
        replace c4 := keepC hb c4
        have Q1 := Lib.hid hq
        clear hb hq
        go_wp2_with fail
        refine (CF2.out _).mono ?_
        rintro e w4 ⟨rfl, hb⟩
        replace B2 := Lib.hid (B2.out.keep hb)
        replace B3 := Lib.hid (B3.out.keep hb)
        replace HB := Lib.hid (keepB HB.out hb)
        replace Q1 := Lib.hid (Q1.out.keep hb)
        clear hb CF2 c4
        have hl1 := B2.out.lt
        have hl3 := B3.out.lt
        go_upto_region 11 with fail
        refine at_worldQ (fun v => Below w.heap.size w v ∧ BK v (w.heap.size + 1 + 1) [.int .i64 0, .int .i64 0] ∧ BK v (w.heap.size + 1 + 1 + 1) [.int .i64 0, .int .i64 0] ∧ BK v w3.heap.size [.int .i64 x1, .int .i64 x2] ∧ BK v w4.heap.size [.int .i64 y1, .int .i64 y2]) ⟨below_al HB.out _, B2.out.al _, B3.out.al _, Q1.out.al _, BK.new _ _ _⟩ (fun U4 hS => ?_)
        clear B2 B3 HB Q1 hl2
        obtain ⟨hb, b1, b2, q1, q2⟩ := hS
        have HBE := Lib.hid hb
        have s1 := (b1.set 0 (.int .i64 x1)).set 1 (.int .i64 x2)
        have s2 := (b2.far (q := w.heap.size + 1 + 1) (by omega) 0 (.int .i64 x1)).far (q := w.heap.size + 1 + 1) (by omega) 1 (.int .i64 x2)
        have HT1 := Lib.hid ((s1.far (q := w.heap.size + 1 + 1 + 1) (by omega) 0 (.int .i64 y1)).far (q := w.heap.size + 1 + 1 + 1) (by omega) 1 (.int .i64 y2))
        have HT2 := Lib.hid ((s2.set 0 (.int .i64 y1)).set 1 (.int .i64 y2))
        have k1c0 := b1.c 0 rfl
        have k1f0 := b1.f 0 rfl
        have k1c1 := b1.c 1 rfl
        have k1f1 := b1.f 1 rfl
        have k2c0 := b2.c 0 rfl
        have k2f0 := b2.f 0 rfl
        have k2c1 := b2.c 1 rfl
        have k2f1 := b2.f 1 rfl
        have v0 := q1.c 0 rfl
        have v1 := q1.c 1 rfl
        have v2 := q2.c 0 rfl
        have v3 := q2.c 1 rfl
        have s3 := (q2.far (q := w.heap.size + 1 + 1) (by omega) 0 (.int .i64 x1)).far (q := w.heap.size + 1 + 1) (by omega) 1 (.int .i64 x2)
        have v4 := s3.c 0 rfl
        have v5 := s3.c 1 rfl
        clear b1 b2 s1 s2 s3 hb q1 q2
        go_wp2_with fail
        go_big_region
        clear k1c0 k1c1 k1f0 k1f1 k2c0 k2c1 k2f0 k2f1 v0 v1 v2 v3 v4 v5
        have m1c0 := HT1.out.c 0 rfl
        have m1c1 := HT1.out.c 1 rfl
        have m2c0 := HT2.out.c 0 rfl
        have m2c1 := HT2.out.c 1 rfl
        go_wp2_with fail
        exact bodyPost_ret (v := .tuple #[.agg #[.int .i64 x1, .int .i64 x2], .agg #[.int .i64 y1, .int .i64 y2], .int .i64 0]) (by simp [results, Tryz.results12, go_sem, m1c0, m1c1, m2c0, m2c1]) rfl ⟨rfl, Below.drew ((((HBE.out.setCell (show w.heap.size ≤ w.heap.size + 1 + 1 by omega) _).setCell (show w.heap.size ≤ w.heap.size + 1 + 1 by omega) _).setCell (show w.heap.size ≤ w.heap.size + 1 + 1 + 1 by omega) _).setCell (show w.heap.size ≤ w.heap.size + 1 + 1 + 1 by omega) _)⟩
  · have e1 : wsV V R xs ps D = .tuple #[.agg #[.int .i64 0, .int .i64 0], .agg #[.int .i64 0, .int .i64 0], .int .i64 (As.vld V R xs ps D)] := by
      unfold wsV As.wsS
      rw [if_neg h2]
    rw [e1]
    simp only [As.gnS_no h2] at CG
    generalize As.vld V R xs ps D = c at *
    have CG' := Lib.hid CG
    clear CG h2 h hB hC e1
    go_enter Tryz.func12, Tryz.ntmps12
    go_upto_region 1 with fail
    refine at_box4 (fun V0 hbb b0 b1 b2 b3 hsz => ?_)
    clear hsz
    have c0 := b0.c 0 rfl
    have c1 := b0.c 1 rfl
    have c2 := b1.c 0 rfl
    have c3 := b1.c 1 rfl
    have c4 := b1.c 2 rfl
    go_wp2_with fail
    refine (CG'.out _ hbb).mono ?_
    rintro e w1 ⟨Y, cY, rfl, hI, hb⟩
    replace b2 := b2.keep hb
    replace b3 := b3.keep hb
    have HBE := Lib.hid (keepB hbb hb)
    clear b0 b1 hb hbb hI c0 c1 c2 c3 c4
    have bb1 := (((b2.set 0 (.int .i64 0)).set 1 (.int .i64 0)).far (q := w.heap.size + 1 + 1 + 1) (by omega) 0 (.int .i64 0)).far (q := w.heap.size + 1 + 1 + 1) (by omega) 1 (.int .i64 0)
    have bb2 := (((b3.far (q := w.heap.size + 1 + 1) (by omega) 0 (.int .i64 0)).far (q := w.heap.size + 1 + 1) (by omega) 1 (.int .i64 0)).set 0 (.int .i64 0)).set 1 (.int .i64 0)
    have z0 := b2.c 0 rfl
    have z1 := b2.c 1 rfl
    have z2 := b3.c 0 rfl
    have z3 := b3.c 1 rfl
    have f0 := b2.f 0 rfl
    have f1 := b2.f 1 rfl
    have f2 := b3.f 0 rfl
    have f3 := b3.f 1 rfl
    have r0 := bb1.c 0 rfl
    have r1 := bb1.c 1 rfl
    have r2 := bb2.c 0 rfl
    have r3 := bb2.c 1 rfl
    clear b2 b3 bb1 bb2
    go_wp2_with fail
    exact bodyPost_ret (v := .tuple #[.agg #[.int .i64 0, .int .i64 0], .agg #[.int .i64 0, .int .i64 0], .int .i64 c]) (by simp [results, Tryz.results12, go_sem, r0, r1, r2, r3]) rfl ⟨rfl, (((HBE.out.setCell (show w.heap.size ≤ w.heap.size + 1 + 1 by omega) _).setCell (show w.heap.size ≤ w.heap.size + 1 + 1 by omega) _).setCell (show w.heap.size ≤ w.heap.size + 1 + 1 + 1 by omega) _).setCell (show w.heap.size ≤ w.heap.size + 1 + 1 + 1 by omega) _⟩
end Go.Proofs.YtncmffhoodfhjaaGreat
