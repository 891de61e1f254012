/- Package rent: Calm. -/
import Derived.Test.YtncmffhoodfhjaaLxd
namespace Go.Proofs.Ytncmffhoodfhjaa
open Go.RowKit
set_option maxRecDepth 100000 in
set_option maxHeartbeats 8000000 in
theorem rtCalm_any (A : Option Addr) (cv : Nat) (V : List (List Int)) (R : Int) (w : World) (hl : V.length ≤ maxLen) (h : IsM w A V) :
    Calls Try.prog 29 #[.agg #[.slice A V.length cv, .int .i64 R]] w (LeQ V R (As.clP V R) (As.clD V R) w) := by
  have CK := fun v (hv : Below w.heap.size w v) => rmCheck_any A cv V R v hl (h.keep hv)
  rcases As.rchk_two V R with ⟨h0, hc, r0, r1⟩ | ⟨h1, h2⟩
  · rw [h0] at CK
    have ok := As.chk_ok hc
    have ht := As.bst_top ok
    have n1 := ok.n1
    have n6 := ok.n6
    have e1 : As.evA V R = As.bst V := by unfold As.evA; rw [if_pos h0]
    obtain ⟨m1, m2⟩ := As.shp_map (n := V.length) (P := fun j => As.cPk V (As.bst V) j V.length) (Q := As.fpr V (As.bst V) (As.gC V (As.bst V))) R (fun j hj => As.cP_eq ht hj)
    have e2 : As.clP V R = As.rdp V.length (As.shp V.length (fun j => As.cPk V (As.bst V) j V.length) R) := by unfold As.clP; rw [if_pos h0, m1]
    have e3 : As.clD V R = As.rdd V.length (As.shp V.length (fun j => As.cPk V (As.bst V) j V.length) R) := by unfold As.clD; rw [if_pos h0, m2]
    have HF := Lib.hid (show ∀ X c Y d w', IsI w' X (As.al (As.bst V)) → IsI w' Y (As.rdp V.length (As.shp V.length (fun j => As.cPk V (As.bst V) j V.length) R)) → Below w.heap.size w w' → LeQ V R (As.clP V R) (As.clD V R) w (.returned (.tuple #[.agg #[.slice X V.length c, .slice Y V.length d, .int .i64 (As.rdd V.length (As.shp V.length (fun j => As.cPk V (As.bst V) j V.length) R))], .int .i64 0])) w' from fun X c Y d w' hI hJ hb =>
      ⟨X, c, Y, d, by rw [h0, e1, e2, e3, ht.len, As.rdp_len], by rw [e1]; exact hI, by rw [e2]; exact hJ, hb⟩)
    have CH := Lib.hid (fun v (hv : Below w.heap.size w v) => rtHoused_any A cv V R v hl (h.keep hv) h0)
    have CC := Lib.hid (fun v g (hf : BF v g V.length (As.wrm V (As.bst V))) => cloneBF_any g V.length V.length (As.wrm V (As.bst V)) v (by omega) (by omega) hf)
    have CM := Lib.hid (fun v X cX p c (hf : BF v p V.length (fun j => As.cPk V (As.bst V) j V.length)) => rtMoved_any A V.length cv R X V.length cX p c (fun j => As.cPk V (As.bst V) j V.length) v n1 n6 r0 r1 (fun j _ => by have := As.cPk_bd ok (As.bst V) j V.length; omega) hf)
    unfold MvQ at CM
    have HLK := Lib.hid (As.lkm_b6' ok (As.bst V))
    have HWB := Lib.hid (As.wrm_bd ok (As.bst V))
    have HPB := Lib.hid (As.cPk_bd ok (As.bst V))
    have HSC := Lib.hid (As.cPk_succ V (As.bst V))
    have HZ := Lib.hid (As.cPk_zero V (As.bst V))
    have CK' := Lib.hid CK
    generalize As.rdd V.length (As.shp V.length (fun j => As.cPk V (As.bst V) j V.length) R) = dn at *
    generalize As.rdp V.length (As.shp V.length (fun j => As.cPk V (As.bst V) j V.length) R) = PL at *
    clear CK h0 hc ok ht e1 e2 e3 m1 m2 h
    go_enter Try.func29, Try.ntmps29
    go_upto_region 1 with fail
    refine at_box2 (fun V0 hbb b0 b1 hsz => ?_)
    clear hsz
    have c0 := b0.c 0 rfl
    have c1 := b0.c 1 rfl
    go_wp2_with fail
    refine (CK'.out _ hbb).mono ?_
    rintro e w1 ⟨rfl, hb⟩
    replace c0 := keepC hb c0
    replace c1 := keepC hb c1
    have B1 := Lib.hid (b1.keep hb)
    have HB := Lib.hid (keepB hbb hb)
    clear hb b0 b1 hbb CK'
    go_wp2_with fail
    refine (CH.out _ HB.out).mono ?_
    rintro e w2 ⟨X, cX, g, L, cL, rfl, hI, hfr, hg, hbf, hM, hb⟩
    have hB1l := B1.out.lt
    have HXF := Lib.hid (show ∀ b off, X = some ⟨b, off, none⟩ → w.heap.size + 1 ≠ b from fun b off e => by have := hfr b off e; omega)
    clear hB1l
    have C0 := Lib.hid (keepC hb c0)
    have C1 := Lib.hid (keepC hb c1)
    replace B1 := Lib.hid (B1.out.keep hb)
    replace HB := Lib.hid (keepB HB.out hb)
    have HI := Lib.hid hI
    have HG := Lib.hid hbf
    have HM := Lib.hid hM
    clear hb c0 c1 hI hfr hg hbf hM CH
    go_wp2_with fail
    refine (CC.out _ g HG.out).mono ?_
    rintro e w3 ⟨p, cp, rfl, hp, hbf, hb⟩
    have HW3 := Lib.hid hb
    have HP3 := Lib.hid (hbf.cong (fun j _ => As.fst15_zero V.length (As.cPk V (As.bst V)) (As.wrm V (As.bst V)) HZ.out j))
    clear hb hbf CC
    go_wp2_with fail
    go_loopw [27] (fun i W => ∃ k : Nat, k ≤ V.length ∧ i = .int .i64 k ∧ Hid (Below w2.heap.size w2 W) ∧ Hid (BF W p V.length (As.fst15 V.length (As.cPk V (As.bst V)) (As.wrm V (As.bst V)) k 0))) (fun i _ => V.length - (intOf i).toNat)
    case atStart => exact ⟨0, Nat.zero_le _, rfl, HW3, HP3⟩
    case round =>
      obtain ⟨k, hk, rfl, HW, HF1⟩ := hrel
      by_cases hlt : k < V.length
      · go_wp2_with fail
        go_loopw [32] (fun i W => ∃ t : Nat, t ≤ V.length ∧ i = .int .i64 t ∧ Hid (Below w2.heap.size w2 W) ∧ Hid (BF W p V.length (As.fst15 V.length (As.cPk V (As.bst V)) (As.wrm V (As.bst V)) k t))) (fun i _ => V.length - (intOf i).toNat)
        case atStart => exact ⟨0, Nat.zero_le _, rfl, HW, HF1⟩
        case round =>
          clear HW HF1
          obtain ⟨t, ht, rfl, HW, HF1⟩ := hrel
          by_cases hltt : t < V.length
          · have x0 := HF1.out.c hlt
            rw [As.fst15_at] at x0
            have x3 := HF1.out.f hlt
            have x1 := (HG.out.keep HW.out).c hltt
            obtain ⟨b, off, rb, ro, cc, rfl, x2, hcs⟩ := mm_at (HM.out.keep HW.out) hltt
            have x4 := hcs k hlt
            have HNX := Lib.hid (HSC.out k t)
            have HNB := Lib.hid (show ∀ y, y = As.cPk V (As.bst V) k (t + 1) → BF (wr.setCell ⟨p, k, none⟩ (.int .i64 y)) p V.length (As.fst15 V.length (As.cPk V (As.bst V)) (As.wrm V (As.bst V)) k (t + 1)) from fun y hy => (HF1.out.set k y).cong fun j _ => by rw [hy]; exact As.fst15_set V.length _ _ k t j)
            obtain ⟨p1, p2⟩ := HPB.out k t
            obtain ⟨w1, w2'⟩ := HWB.out t
            obtain ⟨l1, l2⟩ := HLK.out t k
            have HNW := Lib.hid (show ∀ y, Below w2.heap.size w2 (wr.setCell ⟨p, k, none⟩ (.int .i64 y)) from fun y => HW.out.setCell hp _)
            clear hcs
            generalize As.cPk V (As.bst V) k (t + 1) = nx at *
            generalize As.cPk V (As.bst V) k t = a at *
            generalize As.wrm V (As.bst V) t = b1 at *
            generalize As.lkm V (As.bst V) t k = c1 at *
            have i1 : (k : Int) < (V.length : Int) := by omega
            have i2 : (t : Int) < (V.length : Int) := by omega
            have a1 : IntKind.i64.wrap (b1 + c1) = b1 + c1 := IntWalk.i64_in _ (by omega)
            go_wp2_with fail
            go_big_region
            clear a1 x0 x1 x2 x3 x4
            first | rw [imax] | rw [As.imin2] | skip
            rw [← HNX.out]
            go_wp2_with fail
            go_roundw
            case rel => exact ⟨t + 1, by omega, by go_num, Lib.hid (HNW.out nx).drew, Lib.hid (HNB.out nx rfl).drew⟩
            case measure => simp [intOf]; omega
          · obtain rfl : t = V.length := by omega
            have HF2 := Lib.hid (HF1.out.cong (fun j _ => As.fst15_next V.length _ _ HZ.out k j))
            go_wp2_with fail
            go_roundw
            case rel => exact ⟨k + 1, by omega, by go_num, HW, HF2⟩
            case measure => simp [intOf]; omega
      · obtain rfl : k = V.length := by omega
        have hbf := HF1.out.cong (fun j hj => As.fst15_end V.length _ _ 0 hj)
        have CM2 := Lib.hid (CM.out _ X cX p cp hbf)
        have c0 := keepC HW.out C0.out
        have c1 := keepC HW.out C1.out
        have hb2 := B1.out.lt
        have hw2 := HW.out.size
        replace B1 := Lib.hid (B1.out.keep HW.out)
        replace HB := Lib.hid (keepB HB.out HW.out)
        replace HI := Lib.hid (HI.out.keep HW.out)
        clear hbf HF1 HW CM
        go_wp2_with fail
        refine CM2.out.mono ?_
        rintro e w9 ⟨Y, cY, rfl, hJ, hfr, hb⟩
        have hYF : ∀ b off, Y = some ⟨b, off, none⟩ → w.heap.size + 1 ≠ b := fun b off e => by have := hfr b off e; omega
        have HIJ := Lib.hid (fun k1 u1 k2 u2 k3 u3 => And.intro ((((HI.out.keep hb).far HXF.out k1 u1).far HXF.out k2 u2).far HXF.out k3 u3) (((hJ.far hYF k1 u1).far hYF k2 u2).far hYF k3 u3))
        have HBW := Lib.hid (keepB HB.out hb)
        have hb1 := B1.out.keep hb
        have bb := ((hb1.set 0 (.slice X V.length cX)).set 1 (.slice Y V.length cY)).set 2 (.int .i64 dn)
        have z0 := hb1.c 0 rfl
        have z1 := hb1.c 1 rfl
        have z2 := hb1.c 2 rfl
        have f0 := hb1.f 0 rfl
        have f1 := hb1.f 1 rfl
        have f2 := hb1.f 2 rfl
        have r0' := bb.c 0 rfl
        have r1' := bb.c 1 rfl
        have r2' := bb.c 2 rfl
        have HFIN := Lib.hid (fun v hIJ hb => HF.out X cX Y cY v (And.left hIJ) (And.right hIJ) hb)
        clear bb hb1 hJ hfr hYF hb c0 c1 HB B1 HI
        go_wp2_with fail
        exact bodyPost_ret (v := .tuple #[.agg #[.slice X V.length cX, .slice Y V.length cY, .int .i64 dn], .int .i64 0]) (by simp [results, Try.results29, go_sem, r0', r1', r2']) rfl (HFIN.out _ (HIJ.out _ _ _ _ _ _) (((HBW.out.setCell (Nat.le_succ _) _).setCell (Nat.le_succ _) _).setCell (Nat.le_succ _) _))
  · have HQ := Lib.hid (show ∀ (w' : World), Below w.heap.size w w' → LeQ V R (As.clP V R) (As.clD V R) w (.returned (.tuple #[.agg #[.slice none 0 0, .slice none 0 0, .int .i64 0], .int .i64 (As.rchk V R)])) w' from fun w' hb => ⟨none, 0, none, 0, by unfold As.evA As.clP As.clD; rw [if_neg h2, if_neg h2, if_neg h2]; rfl, by unfold As.evA; rw [if_neg h2]; exact isI_nil _ _, by unfold As.clP; rw [if_neg h2]; exact isI_nil _ _, hb⟩)
    generalize As.rchk V R = c at *
    generalize As.clP V R = PL at *
    generalize As.clD V R = dn at *
    have CK' := Lib.hid CK
    clear CK h2 h hl
    go_enter Try.func29, Try.ntmps29
    go_upto_region 1 with fail
    refine at_box2 (fun V0 hbb b0 b1 hsz => ?_)
    clear hsz
    have c0 := b0.c 0 rfl
    have c1 := b0.c 1 rfl
    go_wp2_with fail
    refine (CK'.out _ hbb).mono ?_
    rintro e w1 ⟨rfl, hb1⟩
    replace b1 := b1.keep hb1
    replace hbb := keepB hbb hb1
    have bb := ((b1.set 0 (.slice none 0 0)).set 1 (.slice none 0 0)).set 2 (.int .i64 0)
    have z0 := b1.c 0 rfl
    have z1 := b1.c 1 rfl
    have z2 := b1.c 2 rfl
    have f0 := b1.f 0 rfl
    have f1 := b1.f 1 rfl
    have f2 := b1.f 2 rfl
    have r0 := bb.c 0 rfl
    have r1 := bb.c 1 rfl
    have r2 := bb.c 2 rfl
    have HBB := Lib.hid hbb
    clear hb1 b0 b1 bb c0 c1
    go_wp2_with fail
    exact bodyPost_ret (v := .tuple #[.agg #[.slice none 0 0, .slice none 0 0, .int .i64 0], .int .i64 c]) (by simp [results, Try.results29, go_sem, r0, r1, r2]) rfl (HQ.out _ (((HBB.out.setCell (Nat.le_succ _) _).setCell (Nat.le_succ _) _).setCell (Nat.le_succ _) _))
end Go.Proofs.Ytncmffhoodfhjaa
