/- The reference's layer 15: Stake. -/
import Derived.Test.YtncmffhoodfhjaaGreatLxf
import Derived.Test.YtncmffhoodfhjaaGreatYh
import Derived.Test.YtncmffhoodfhjaaGreatYp
import Derived.Test.YtncmffhoodfhjaaGreatRadda
import Derived.BigRegion
namespace Go.Proofs.YtncmffhoodfhjaaGreat
open Go.RowKit
theorem rOf15 (n : Int) (w : World) : Calls Tryz.prog 35 #[.int .i64 n] w fun e w' => e = .returned (.agg #[.int .i64 n, .int .i64 1]) ∧ Below w.heap.size w w' := by
  go_enter Tryz.func35, Tryz.ntmps35
  go_wp2
  exact bodyPost_ret (v := .agg #[.int .i64 n, .int .i64 1]) (by simp [results, Tryz.results35, go_sem]) rfl ⟨rfl, (Below.refl _ _).alloc (Nat.le_refl _) _⟩

set_option maxRecDepth 100000 in
set_option maxHeartbeats 8000000 in
theorem r15Stake_any (A : Option Addr) (cv : Nat) (V : List (List Int)) (R i : Int) (w : World) (hl : V.length ≤ maxLen) (h : IsM w A V) :
    Calls Tryz.prog 14 #[.agg #[.slice A V.length cv, .int .i64 R], .int .i64 i] w fun e w' => e = .returned (skV V R i) ∧ Below w.heap.size w w' := by
  have CK := fun v (hv : Below w.heap.size w v) => r14Check_any A cv V R v hl (h.keep hv)
  rcases As.rchk_two V R with ⟨h0, hc, r0, r1⟩ | ⟨h1, h2⟩
  · rw [h0] at CK
    have CK' := Lib.hid CK
    by_cases hj : 0 ≤ i ∧ i < V.length
    · obtain ⟨I, rfl⟩ : ∃ I : Nat, i = I := ⟨i.toNat, by omega⟩
      have hI0 : I < V.length := by omega
      have ok := As.chk_ok hc
      have ht := As.bst_top ok
      have n1 := ok.n1
      have n6 := ok.n6
      have hJ := As.own_lt ht hI0
      have e1 : skV V R I = .tuple #[.agg #[.int .i64 (Rp.q (V.length * As.vo V (As.bst V) I - As.highN V (As.bst V) R ((As.bst V).getD I 0)) V.length).num, .int .i64 ((Rp.q (V.length * As.vo V (As.bst V) I - As.highN V (As.bst V) R ((As.bst V).getD I 0)) V.length).den : Int)], .agg #[.int .i64 (Rp.q (V.length * As.vo V (As.bst V) I - As.lowN V (As.bst V) R ((As.bst V).getD I 0)) V.length).num, .int .i64 ((Rp.q (V.length * As.vo V (As.bst V) I - As.lowN V (As.bst V) R ((As.bst V).getD I 0)) V.length).den : Int)], .int .i64 0] := by
        unfold skV As.skS
        rw [if_pos h0, if_pos hj]
        rfl
      rw [e1]
      have CH := Lib.hid (fun v (hv : IsM v A V) => rMost2_any A cv V v ok hv)
      have cr := fun v (hv : Below w.heap.size w v) => r14Range_any A cv V R ((As.bst V).getD I 0 : Nat) v hl (h.keep hv)
      have er : rgV V R ((As.bst V).getD I 0 : Nat) = .tuple #[.agg #[.int .i64 (Rp.q (As.lowN V (As.bst V) R ((As.bst V).getD I 0)) V.length).num, .int .i64 ((Rp.q (As.lowN V (As.bst V) R ((As.bst V).getD I 0)) V.length).den : Int)], .agg #[.int .i64 (Rp.q (As.highN V (As.bst V) R ((As.bst V).getD I 0)) V.length).num, .int .i64 ((Rp.q (As.highN V (As.bst V) R ((As.bst V).getD I 0)) V.length).den : Int)], .int .i64 0] := by
        unfold rgV As.rgS
        rw [if_pos h0, if_pos (by omega)]
        rfl
      rw [er] at cr
      have CR := Lib.hid cr
      obtain ⟨l1, l2, l3, l4⟩ := As.ends_bd6 ok r0 r1 ((As.bst V).getD I 0)
      obtain ⟨v1, v2⟩ := As.wrm_bd ok (As.bst V) ((As.bst V).getD I 0)
      have hvo := As.vo_wrm ht hI0
      rw [hvo]
      have cf := fun v => rOf15 (As.wrm V (As.bst V) ((As.bst V).getD I 0)) v
      have hq1 : Rp.q (As.wrm V (As.bst V) ((As.bst V).getD I 0)) 1 = ((As.wrm V (As.bst V) ((As.bst V).getD I 0) : Int) : Rat) := by have := Rp.q_mul (a := As.wrm V (As.bst V) ((As.bst V).getD I 0)) (n := 1) (by omega); simpa using this
      have hq2 : (Rp.q (As.wrm V (As.bst V) ((As.bst V).getD I 0)) 1).num = As.wrm V (As.bst V) ((As.bst V).getD I 0) := by rw [hq1]; rfl
      have hq3 : ((Rp.q (As.wrm V (As.bst V) ((As.bst V).getD I 0)) 1).den : Int) = 1 := by rw [hq1]; rfl
      have CF := Lib.hid (show ∀ v, Calls Tryz.prog 35 #[.int .i64 (As.wrm V (As.bst V) ((As.bst V).getD I 0))] v fun e w' => e = .returned (.agg #[.int .i64 (Rp.q (As.wrm V (As.bst V) ((As.bst V).getD I 0)) 1).num, .int .i64 ((Rp.q (As.wrm V (As.bst V) ((As.bst V).getD I 0)) 1).den : Int)]) ∧ Below v.heap.size v w' from by rw [hq2, hq3]; exact cf)
      clear cf hq1 hq2 hq3
      have okv := Rp.q_ok (a := As.wrm V (As.bst V) ((As.bst V).getD I 0)) (n := 1) (by omega) (by omega) (by omega) (by omega)
      have okl := Rp.q_ok (a := As.lowN V (As.bst V) R ((As.bst V).getD I 0)) (n := V.length) (by omega) (by omega) (by omega) (by omega)
      have okh := Rp.q_ok (a := As.highN V (As.bst V) R ((As.bst V).getD I 0)) (n := V.length) (by omega) (by omega) (by omega) (by omega)
      have s1 := Rp.sub_one (v := As.wrm V (As.bst V) ((As.bst V).getD I 0)) (a := As.highN V (As.bst V) R ((As.bst V).getD I 0)) (n := V.length) (by omega) (by omega) (by omega) (by omega) (by omega) (by omega)
      have s2 := Rp.sub_one (v := As.wrm V (As.bst V) ((As.bst V).getD I 0)) (a := As.lowN V (As.bst V) R ((As.bst V).getD I 0)) (n := V.length) (by omega) (by omega) (by omega) (by omega) (by omega) (by omega)
      obtain ⟨o1, o2, o3, o4, _⟩ := okv
      obtain ⟨p1, p2, p3, p4, _⟩ := okl
      obtain ⟨q1, q2, q3, q4, _⟩ := okh
      have cs1 := fun v => rSub_any (Rp.q (As.wrm V (As.bst V) ((As.bst V).getD I 0)) 1).num ((Rp.q (As.wrm V (As.bst V) ((As.bst V).getD I 0)) 1).den : Int) (Rp.q (As.highN V (As.bst V) R ((As.bst V).getD I 0)) V.length).num ((Rp.q (As.highN V (As.bst V) R ((As.bst V).getD I 0)) V.length).den : Int) v (by omega) (by omega) (by omega) (by omega) (by omega) (by omega) (by omega) (by omega)
      have cs2 := fun v => rSub_any (Rp.q (As.wrm V (As.bst V) ((As.bst V).getD I 0)) 1).num ((Rp.q (As.wrm V (As.bst V) ((As.bst V).getD I 0)) 1).den : Int) (Rp.q (As.lowN V (As.bst V) R ((As.bst V).getD I 0)) V.length).num ((Rp.q (As.lowN V (As.bst V) R ((As.bst V).getD I 0)) V.length).den : Int) v (by omega) (by omega) (by omega) (by omega) (by omega) (by omega) (by omega) (by omega)
      simp only [s1] at cs1
      simp only [s2] at cs2
      have CS1 := Lib.hid cs1
      have CS2 := Lib.hid cs2
      generalize (Rp.q (V.length * As.wrm V (As.bst V) ((As.bst V).getD I 0) - As.highN V (As.bst V) R ((As.bst V).getD I 0)) V.length).num = x1 at *
      generalize ((Rp.q (V.length * As.wrm V (As.bst V) ((As.bst V).getD I 0) - As.highN V (As.bst V) R ((As.bst V).getD I 0)) V.length).den : Int) = x2 at *
      generalize (Rp.q (V.length * As.wrm V (As.bst V) ((As.bst V).getD I 0) - As.lowN V (As.bst V) R ((As.bst V).getD I 0)) V.length).num = y1 at *
      generalize ((Rp.q (V.length * As.wrm V (As.bst V) ((As.bst V).getD I 0) - As.lowN V (As.bst V) R ((As.bst V).getD I 0)) V.length).den : Int) = y2 at *
      clear s1 s2 cs1 cs2 cr er o1 o2 o3 o4 p1 p2 p3 p4 q1 q2 q3 q4 l1 l2 l3 l4 v1 v2 hvo e1
      have HLB := Lib.hid (show (As.al (As.bst V)).length = V.length by rw [As.al_len]; exact ht.len)
      generalize (Rp.q (As.lowN V (As.bst V) R ((As.bst V).getD I 0)) V.length).num = lo1 at *
      generalize ((Rp.q (As.lowN V (As.bst V) R ((As.bst V).getD I 0)) V.length).den : Int) = lo2 at *
      generalize (Rp.q (As.highN V (As.bst V) R ((As.bst V).getD I 0)) V.length).num = hi1 at *
      generalize ((Rp.q (As.highN V (As.bst V) R ((As.bst V).getD I 0)) V.length).den : Int) = hi2 at *
      generalize (Rp.q (As.wrm V (As.bst V) ((As.bst V).getD I 0)) 1).num = va1 at *
      generalize ((Rp.q (As.wrm V (As.bst V) ((As.bst V).getD I 0)) 1).den : Int) = va2 at *
      have d1 : decide ((I : Int) < 0) = false := by rw [decide_eq_false_iff_not]; omega
      have d2 : decide ((V.length : Int) ≤ (I : Int)) = false := by rw [decide_eq_false_iff_not]; omega
      have HA := Lib.hid h
      have HOK := Lib.hid ok
      have HWV := Lib.hid (show As.vl V I ((As.bst V).getD I 0) = As.wrm V (As.bst V) ((As.bst V).getD I 0) from As.vo_wrm ht hI0)
      clear CK h0 hc hj ok ht h
      go_enter Tryz.func14, Tryz.ntmps14
      go_upto_region 1 with fail
      refine at_box3 (fun V0 hbb b0 b2 b3 hsz => ?_)
      clear hsz
      have c0 := b0.c 0 rfl
      have c1 := b0.c 1 rfl
      go_wp2_with fail
      refine (CK'.out _ hbb).mono ?_
      rintro e w1 ⟨rfl, hb⟩
      have B0 := Lib.hid (b0.keep hb)
      have B2 := Lib.hid (b2.keep hb)
      have B3 := Lib.hid (b3.keep hb)
      have HB := Lib.hid (keepB hbb hb)
      replace HA := Lib.hid (HA.out.keep (keepB hbb hb))
      clear hb b0 b2 b3 hbb CK' c0 c1
      have c0 := B0.out.c 0 rfl
      have c1 := B0.out.c 1 rfl
      go_wp2_with fail
      refine (CH.out _ HA.out).mono ?_
      rintro e w2 ⟨X, cX, rfl, hI, hfr, hb⟩
      replace B0 := Lib.hid (B0.out.keep hb)
      replace B2 := Lib.hid (B2.out.keep hb)
      replace B3 := Lib.hid (B3.out.keep hb)
      replace HB := Lib.hid (keepB HB.out hb)
      replace HA := Lib.hid (HA.out.keep hb)
      obtain ⟨xb, xo, rfl, hxs⟩ := list_at hI (j := I) (by rw [HLB.out]; exact hI0)
      have x0 := hxs I (by rw [HLB.out]; exact hI0)
      rw [As.el_al] at x0
      clear c0 c1 hb hI hfr hxs CH d1 d2
      have HJ := Lib.hid hJ
      generalize As.wrm V (As.bst V) ((As.bst V).getD I 0) = va at *
      generalize (As.bst V).getD I 0 = J at *
      have i1 : (I : Int) < (V.length : Int) := by omega
      have i2 : (J : Int) < (V.length : Int) := by omega
      have c0 := B0.out.c 0 rfl
      have c1 := B0.out.c 1 rfl
      go_wp2_with fail
      refine (CR.out _ HB.out).mono ?_
      rintro e w3 ⟨rfl, hb⟩
      replace B0 := Lib.hid (B0.out.keep hb)
      replace B2 := Lib.hid (B2.out.keep hb)
      replace B3 := Lib.hid (B3.out.keep hb)
      replace HB := Lib.hid (keepB HB.out hb)
      replace HA := Lib.hid (HA.out.keep hb)
      have hq1 := B2.out.lt
      have hq2 := B3.out.lt
      clear c0 c1 hb x0 CR
      go_upto_region 7 with fail
      refine at_worldQ (fun v => Below w3.heap.size w3 v ∧ BK v w3.heap.size [.int .i64 lo1, .int .i64 lo2] ∧ BK v (w3.heap.size + 1) [.int .i64 hi1, .int .i64 hi2]) ⟨below_al (below_al (Below.refl _ _) _) _, (BK.new w3 [.int .i64 lo1, .int .i64 lo2] 37).al _, bkAt5 (BK.new _ [.int .i64 hi1, .int .i64 hi2] 37) (by simp only [World.size_alloc])⟩ (fun U1 hS => ?_)
      obtain ⟨hb, hL, hH⟩ := hS
      replace B0 := Lib.hid (B0.out.keep hb)
      replace B2 := Lib.hid (B2.out.keep hb)
      replace B3 := Lib.hid (B3.out.keep hb)
      replace HB := Lib.hid (keepB HB.out hb)
      replace HA := Lib.hid (HA.out.keep hb)
      have BL := Lib.hid hL
      have BH := Lib.hid hH
      clear hb hL hH
      obtain ⟨b, off, rb, ro, cc, rfl, x1r, hcs⟩ := row_at HOK.out HA.out hI0
      have x2r := hcs J HJ.out
      rw [HWV.out] at x2r
      have c0 := B0.out.c 0 rfl
      clear hcs
      go_wp2_with fail
      refine (CF.out _).mono ?_
      rintro e w4 ⟨rfl, hb⟩
      replace B2 := Lib.hid (B2.out.keep hb)
      replace B3 := Lib.hid (B3.out.keep hb)
      replace HB := Lib.hid (keepB HB.out hb)
      replace BL := Lib.hid (BL.out.keep hb)
      replace BH := Lib.hid (BH.out.keep hb)
      have hq5 := BH.out.lt
      clear hb c0 x1r x2r CF i1 i2 B0 HA
      go_upto_region 8 with fail
      refine at_worldQ (fun v => Below w4.heap.size w4 v ∧ BK v w4.heap.size [.int .i64 va1, .int .i64 va2]) ⟨below_al (Below.refl _ _) _, BK.new _ _ _⟩ (fun U2 hS => ?_)
      obtain ⟨hb, hV⟩ := hS
      replace B2 := Lib.hid (B2.out.keep hb)
      replace B3 := Lib.hid (B3.out.keep hb)
      replace HB := Lib.hid (keepB HB.out hb)
      replace BL := Lib.hid (BL.out.keep hb)
      replace BH := Lib.hid (BH.out.keep hb)
      have BV := Lib.hid hV
      clear hb hV
      have g0 := BV.out.c 0 rfl
      have g1 := BV.out.c 1 rfl
      have h0 := BH.out.c 0 rfl
      have h1 := BH.out.c 1 rfl
      go_wp2_with fail
      refine (CS1.out _).mono ?_
      rintro e w5 ⟨rfl, hb⟩
      replace B2 := Lib.hid (B2.out.keep hb)
      replace B3 := Lib.hid (B3.out.keep hb)
      replace HB := Lib.hid (keepB HB.out hb)
      replace BL := Lib.hid (BL.out.keep hb)
      replace BV := Lib.hid (BV.out.keep hb)
      clear hb g0 g1 h0 h1 BH CS1
      go_upto_region 9 with fail
      refine at_worldQ (fun v => Below w5.heap.size w5 v ∧ BK v w5.heap.size [.int .i64 x1, .int .i64 x2]) ⟨below_al (Below.refl _ _) _, BK.new _ _ _⟩ (fun U3 hS => ?_)
      obtain ⟨hb, hV⟩ := hS
      replace B2 := Lib.hid (B2.out.keep hb)
      replace B3 := Lib.hid (B3.out.keep hb)
      replace HB := Lib.hid (keepB HB.out hb)
      replace BL := Lib.hid (BL.out.keep hb)
      replace BV := Lib.hid (BV.out.keep hb)
      have Q1 := Lib.hid hV
      clear hb hV
      have g0 := BV.out.c 0 rfl
      have g1 := BV.out.c 1 rfl
      have h0 := BL.out.c 0 rfl
      have h1 := BL.out.c 1 rfl
      go_wp2_with fail
      refine (CS2.out _).mono ?_
      rintro e w6 ⟨rfl, hb⟩
      replace B2 := Lib.hid (B2.out.keep hb)
      replace B3 := Lib.hid (B3.out.keep hb)
      replace HB := Lib.hid (keepB HB.out hb)
      replace Q1 := Lib.hid (Q1.out.keep hb)
      clear hb g0 g1 h0 h1 BL BV CS2 hq5
      have hl1 := B2.out.lt
      have hl3 := B3.out.lt
      go_upto_region 10 with fail
      refine at_worldQ (fun v => Below w.heap.size w v ∧ BK v (w.heap.size + 1) [.int .i64 0, .int .i64 0] ∧ BK v (w.heap.size + 1 + 1) [.int .i64 0, .int .i64 0] ∧ BK v w5.heap.size [.int .i64 x1, .int .i64 x2] ∧ BK v w6.heap.size [.int .i64 y1, .int .i64 y2]) ⟨below_al HB.out _, B2.out.al _, B3.out.al _, Q1.out.al _, BK.new _ _ _⟩ (fun U4 hS => ?_)
      clear B2 B3 HB Q1
      obtain ⟨hb, b1, b2, q1, q2⟩ := hS
      have HBE := Lib.hid hb
      have s1 := (b1.set 0 (.int .i64 x1)).set 1 (.int .i64 x2)
      have s2 := (b2.far (q := w.heap.size + 1) (by omega) 0 (.int .i64 x1)).far (q := w.heap.size + 1) (by omega) 1 (.int .i64 x2)
      have HT1 := Lib.hid ((s1.far (q := w.heap.size + 1 + 1) (by omega) 0 (.int .i64 y1)).far (q := w.heap.size + 1 + 1) (by omega) 1 (.int .i64 y2))
      have HT2 := Lib.hid ((s2.set 0 (.int .i64 y1)).set 1 (.int .i64 y2))
      have k1c0 := b1.c 0 rfl
      have k1f0 := b1.f 0 rfl
      have k1c1 := b1.c 1 rfl
      have k1f1 := b1.f 1 rfl
      have k2c0 := b2.c 0 rfl
      have k2f0 := b2.f 0 rfl
      have k2c1 := b2.c 1 rfl
      have k2f1 := b2.f 1 rfl
      have v0 := q1.c 0 rfl
      have v1 := q1.c 1 rfl
      have v2 := q2.c 0 rfl
      have v3 := q2.c 1 rfl
      have s3 := (q2.far (q := w.heap.size + 1) (by omega) 0 (.int .i64 x1)).far (q := w.heap.size + 1) (by omega) 1 (.int .i64 x2)
      have v4 := s3.c 0 rfl
      have v5 := s3.c 1 rfl
      clear b1 b2 s1 s2 s3 hb q1 q2
      go_wp2_with fail
      go_big_region
      clear k1c0 k1c1 k1f0 k1f1 k2c0 k2c1 k2f0 k2f1 v0 v1 v2 v3 v4 v5
      have m1c0 := HT1.out.c 0 rfl
      have m1c1 := HT1.out.c 1 rfl
      have m2c0 := HT2.out.c 0 rfl
      have m2c1 := HT2.out.c 1 rfl
      go_wp2_with fail
      exact bodyPost_ret (v := .tuple #[.agg #[.int .i64 x1, .int .i64 x2], .agg #[.int .i64 y1, .int .i64 y2], .int .i64 0]) (by simp [results, Tryz.results14, go_sem, m1c0, m1c1, m2c0, m2c1]) rfl ⟨rfl, Below.drew ((((HBE.out.setCell (show w.heap.size ≤ w.heap.size + 1 by omega) _).setCell (show w.heap.size ≤ w.heap.size + 1 by omega) _).setCell (show w.heap.size ≤ w.heap.size + 1 + 1 by omega) _).setCell (show w.heap.size ≤ w.heap.size + 1 + 1 by omega) _)⟩
    · have e1 : skV V R i = .tuple #[.agg #[.int .i64 0, .int .i64 0], .agg #[.int .i64 0, .int .i64 0], .int .i64 2] := by
        unfold skV As.skS
        rw [if_pos h0, if_neg hj]
      rw [e1]
      clear CK h0 hc h e1
      by_cases hn : i < 0
      · have d1 : decide (i < 0) = true := by rw [decide_eq_true_eq]; exact hn
        clear hn hj
        go_enter Tryz.func14, Tryz.ntmps14
        go_upto_region 1 with fail
        refine at_box3 (fun V0 hbb b0 b2 b3 hsz => ?_)
        clear hsz
        have c0 := b0.c 0 rfl
        have c1 := b0.c 1 rfl
        go_wp2_with fail
        refine (CK'.out _ hbb).mono ?_
        rintro e w1 ⟨rfl, hb1⟩
        replace c0 := keepC hb1 c0
        replace c1 := keepC hb1 c1
        replace b2 := b2.keep hb1
        replace b3 := b3.keep hb1
        replace hbb := keepB hbb hb1
        clear hb1 b0
        have HBE := Lib.hid hbb
        clear hbb
        have bb1 := (((b2.set 0 (.int .i64 0)).set 1 (.int .i64 0)).far (q := w.heap.size + 1 + 1) (by omega) 0 (.int .i64 0)).far (q := w.heap.size + 1 + 1) (by omega) 1 (.int .i64 0)
        have bb2 := (((b3.far (q := w.heap.size + 1) (by omega) 0 (.int .i64 0)).far (q := w.heap.size + 1) (by omega) 1 (.int .i64 0)).set 0 (.int .i64 0)).set 1 (.int .i64 0)
        have z0 := b2.c 0 rfl
        have z1 := b2.c 1 rfl
        have z2 := b3.c 0 rfl
        have z3 := b3.c 1 rfl
        have f0 := b2.f 0 rfl
        have f1 := b2.f 1 rfl
        have f2 := b3.f 0 rfl
        have f3 := b3.f 1 rfl
        have r0 := bb1.c 0 rfl
        have r1 := bb1.c 1 rfl
        have r2 := bb2.c 0 rfl
        have r3 := bb2.c 1 rfl
        clear b2 b3 bb1 bb2
        go_wp2_with fail
        exact bodyPost_ret (v := .tuple #[.agg #[.int .i64 0, .int .i64 0], .agg #[.int .i64 0, .int .i64 0], .int .i64 2]) (by simp [results, Tryz.results14, go_sem, r0, r1, r2, r3]) rfl ⟨rfl, (((HBE.out.setCell (show w.heap.size ≤ w.heap.size + 1 by omega) _).setCell (show w.heap.size ≤ w.heap.size + 1 by omega) _).setCell (show w.heap.size ≤ w.heap.size + 1 + 1 by omega) _).setCell (show w.heap.size ≤ w.heap.size + 1 + 1 by omega) _⟩
      · have d1 : decide (i < 0) = false := by rw [decide_eq_false_iff_not]; exact hn
        have d2 : decide ((V.length : Int) ≤ i) = true := by rw [decide_eq_true_eq]; omega
        clear hn hj
        go_enter Tryz.func14, Tryz.ntmps14
        go_upto_region 1 with fail
        refine at_box3 (fun V0 hbb b0 b2 b3 hsz => ?_)
        clear hsz
        have c0 := b0.c 0 rfl
        have c1 := b0.c 1 rfl
        go_wp2_with fail
        refine (CK'.out _ hbb).mono ?_
        rintro e w1 ⟨rfl, hb1⟩
        replace c0 := keepC hb1 c0
        replace c1 := keepC hb1 c1
        replace b2 := b2.keep hb1
        replace b3 := b3.keep hb1
        replace hbb := keepB hbb hb1
        clear hb1 b0
        have HBE := Lib.hid hbb
        clear hbb
        have bb1 := (((b2.set 0 (.int .i64 0)).set 1 (.int .i64 0)).far (q := w.heap.size + 1 + 1) (by omega) 0 (.int .i64 0)).far (q := w.heap.size + 1 + 1) (by omega) 1 (.int .i64 0)
        have bb2 := (((b3.far (q := w.heap.size + 1) (by omega) 0 (.int .i64 0)).far (q := w.heap.size + 1) (by omega) 1 (.int .i64 0)).set 0 (.int .i64 0)).set 1 (.int .i64 0)
        have z0 := b2.c 0 rfl
        have z1 := b2.c 1 rfl
        have z2 := b3.c 0 rfl
        have z3 := b3.c 1 rfl
        have f0 := b2.f 0 rfl
        have f1 := b2.f 1 rfl
        have f2 := b3.f 0 rfl
        have f3 := b3.f 1 rfl
        have r0 := bb1.c 0 rfl
        have r1 := bb1.c 1 rfl
        have r2 := bb2.c 0 rfl
        have r3 := bb2.c 1 rfl
        clear b2 b3 bb1 bb2
        go_wp2_with fail
        exact bodyPost_ret (v := .tuple #[.agg #[.int .i64 0, .int .i64 0], .agg #[.int .i64 0, .int .i64 0], .int .i64 2]) (by simp [results, Tryz.results14, go_sem, r0, r1, r2, r3]) rfl ⟨rfl, (((HBE.out.setCell (show w.heap.size ≤ w.heap.size + 1 by omega) _).setCell (show w.heap.size ≤ w.heap.size + 1 by omega) _).setCell (show w.heap.size ≤ w.heap.size + 1 + 1 by omega) _).setCell (show w.heap.size ≤ w.heap.size + 1 + 1 by omega) _⟩
  · have e1 : skV V R i = .tuple #[.agg #[.int .i64 0, .int .i64 0], .agg #[.int .i64 0, .int .i64 0], .int .i64 (As.rchk V R)] := by
      unfold skV As.skS
      rw [if_neg h2]
    rw [e1]
    generalize As.rchk V R = c at *
    have CK' := Lib.hid CK
    clear CK h2 h e1
    go_enter Tryz.func14, Tryz.ntmps14
    go_upto_region 1 with fail
    refine at_box3 (fun V0 hbb b0 b2 b3 hsz => ?_)
    clear hsz
    have c0 := b0.c 0 rfl
    have c1 := b0.c 1 rfl
    go_wp2_with fail
    refine (CK'.out _ hbb).mono ?_
    rintro e w1 ⟨rfl, hb1⟩
    replace c0 := keepC hb1 c0
    replace c1 := keepC hb1 c1
    replace b2 := b2.keep hb1
    replace b3 := b3.keep hb1
    replace hbb := keepB hbb hb1
    clear hb1 b0
    go_wp2_with fail
    refine (CK'.out _ hbb).mono ?_
    rintro e w2 ⟨rfl, hb1⟩
    replace b2 := b2.keep hb1
    replace b3 := b3.keep hb1
    replace hbb := keepB hbb hb1
    clear hb1 c0 c1
    have HBE := Lib.hid hbb
    clear hbb
    have bb1 := (((b2.set 0 (.int .i64 0)).set 1 (.int .i64 0)).far (q := w.heap.size + 1 + 1) (by omega) 0 (.int .i64 0)).far (q := w.heap.size + 1 + 1) (by omega) 1 (.int .i64 0)
    have bb2 := (((b3.far (q := w.heap.size + 1) (by omega) 0 (.int .i64 0)).far (q := w.heap.size + 1) (by omega) 1 (.int .i64 0)).set 0 (.int .i64 0)).set 1 (.int .i64 0)
    have z0 := b2.c 0 rfl
    have z1 := b2.c 1 rfl
    have z2 := b3.c 0 rfl
    have z3 := b3.c 1 rfl
    have f0 := b2.f 0 rfl
    have f1 := b2.f 1 rfl
    have f2 := b3.f 0 rfl
    have f3 := b3.f 1 rfl
    have r0 := bb1.c 0 rfl
    have r1 := bb1.c 1 rfl
    have r2 := bb2.c 0 rfl
    have r3 := bb2.c 1 rfl
    clear b2 b3 bb1 bb2
    go_wp2_with fail
    exact bodyPost_ret (v := .tuple #[.agg #[.int .i64 0, .int .i64 0], .agg #[.int .i64 0, .int .i64 0], .int .i64 c]) (by simp [results, Tryz.results14, go_sem, r0, r1, r2, r3]) rfl ⟨rfl, (((HBE.out.setCell (show w.heap.size ≤ w.heap.size + 1 by omega) _).setCell (show w.heap.size ≤ w.heap.size + 1 by omega) _).setCell (show w.heap.size ≤ w.heap.size + 1 + 1 by omega) _).setCell (show w.heap.size ≤ w.heap.size + 1 + 1 by omega) _⟩
end Go.Proofs.YtncmffhoodfhjaaGreat
