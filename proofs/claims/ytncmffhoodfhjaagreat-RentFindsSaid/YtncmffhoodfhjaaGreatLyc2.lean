/- The reference's layer 15: Calm. -/
import Derived.Test.YtncmffhoodfhjaaGreatLyc
import Derived.Test.YtncmffhoodfhjaaGreatYh
import Derived.Test.YtncmffhoodfhjaaGreatYm
import Derived.Test.YtncmffhoodfhjaaGreatLxd2
import Derived.Deep.RegionHeld3
namespace Go.Proofs.YtncmffhoodfhjaaGreat
open Go.RowKit
set_option maxRecDepth 100000 in
set_option maxHeartbeats 8000000 in
theorem r15Calm_any (A : Option Addr) (cv : Nat) (V : List (List Int)) (R : Int) (w : World) (hl : V.length ≤ maxLen) (h : IsM w A V) :
    Calls Tryz.prog 9 #[.agg #[.slice A V.length cv, .int .i64 R]] w (LeQ V R (As.clP V R) (As.clD V R) w) := by
  have CK := fun v (hv : Below w.heap.size w v) => r14Check_any A cv V R v hl (h.keep hv)
  rcases As.rchk_two V R with ⟨h0, hc, r0, r1⟩ | ⟨h1, h2⟩
  · rw [h0] at CK
    have ok := As.chk_ok hc
    have ht := As.bst_top ok
    have e1 : As.evA V R = As.bst V := by unfold As.evA; rw [if_pos h0]
    have e2 : As.clP V R = As.rdp V.length (As.shp V.length (As.fpr V (As.bst V) (As.gC V (As.bst V))) R) := by unfold As.clP; rw [if_pos h0]
    have e3 : As.clD V R = As.rdd V.length (As.shp V.length (As.fpr V (As.bst V) (As.gC V (As.bst V))) R) := by unfold As.clD; rw [if_pos h0]
    have HF := Lib.hid (show ∀ X c Y d w', IsI w' X (As.al (As.bst V)) → IsI w' Y (As.rdp V.length (As.shp V.length (As.fpr V (As.bst V) (As.gC V (As.bst V))) R)) → Below w.heap.size w w' → LeQ V R (As.clP V R) (As.clD V R) w (.returned (.tuple #[.agg #[.slice X V.length c, .slice Y V.length d, .int .i64 (As.rdd V.length (As.shp V.length (As.fpr V (As.bst V) (As.gC V (As.bst V))) R))], .int .i64 0])) w' from fun X c Y d w' hI hJ hb =>
      ⟨X, c, Y, d, by rw [h0, e1, e2, e3, ht.len, As.rdp_len], by rw [e1]; exact hI, by rw [e2]; exact hJ, hb⟩)
    have CB := Lib.hid (fun v (hv : IsM v A V) => rMost2_any A cv V v ok hv)
    have cs := fun v X cX (hM : IsM v A V) (hX : IsI v X (As.al (As.bst V))) => rSettle_any A cv V R X cX false v ok hM hX
    simp only [Bool.false_eq_true, if_false] at cs
    have CS := Lib.hid cs
    have cl := fun v X cX g (hM : IsM v A V) (hX : IsI v X (As.al (As.bst V))) (hG : BF v g V.length (As.gC V (As.bst V))) => rLeased_any A cv V R X cX g V.length (As.gC V (As.bst V)) v ok (As.gC_gc ht) r0 r1 hM hX hG (fun j hj => by have := As.gC_bd7 ok ht hj; omega)
    unfold MvQ at cl
    have CL := Lib.hid cl
    have CK' := Lib.hid CK
    have HA := Lib.hid h
    generalize As.rdd V.length (As.shp V.length (As.fpr V (As.bst V) (As.gC V (As.bst V))) R) = dn at *
    generalize As.rdp V.length (As.shp V.length (As.fpr V (As.bst V) (As.gC V (As.bst V))) R) = PL at *
    clear CK h0 hc ok ht e1 e2 e3 h cs cl
    go_enter Tryz.func9, Tryz.ntmps9
    go_upto_region 1 with fail
    refine at_box2 (fun V0 hbb b0 b1 hsz => ?_)
    clear hsz
    have c0 := b0.c 0 rfl
    have c1 := b0.c 1 rfl
    go_wp2_with fail
    refine (CK'.out _ hbb).mono ?_
    rintro e w1 ⟨rfl, hb⟩
    replace c0 := keepC hb c0
    replace c1 := keepC hb c1
    have B1 := Lib.hid (b1.keep hb)
    have HB := Lib.hid (keepB hbb hb)
    replace HA := Lib.hid (HA.out.keep (keepB hbb hb))
    clear hb b0 b1 hbb CK'
    go_wp2_with fail
    refine (CB.out _ HA.out).mono ?_
    rintro e w2 ⟨X, cX, rfl, hI, hfr, hb⟩
    have hB1l := B1.out.lt
    have HXF := Lib.hid (show ∀ b off, X = some ⟨b, off, none⟩ → w.heap.size + 1 ≠ b from fun b off e => by have := hfr b off e; omega)
    clear hB1l
    replace c0 := keepC hb c0
    replace c1 := keepC hb c1
    replace B1 := Lib.hid (B1.out.keep hb)
    replace HB := Lib.hid (keepB HB.out hb)
    replace HA := Lib.hid (HA.out.keep hb)
    have HX := Lib.hid hI
    have hb0 := Below.refl w2.heap.size w2
    have d0 := keepC hb0.drew c0
    have d1 := keepC hb0.drew c1
    have HL2 := Lib.hid B1.out.lt
    clear hb hI hfr CB
    go_upto_region 4 with fail
    go_region_held3 (fun v => v.cell? ⟨w.heap.size, 0, none⟩ = some (.slice A V.length cv) ∧ v.cell? ⟨w.heap.size, 1, none⟩ = some (.int .i64 R))
      (first | (simp only [u0, u1, and_self]) | (simp only [t0, t1, and_self]) | (simp only [s0, s1, and_self]) | (simp only [d0, d1, and_self]) | (simp only [c0, c1, and_self]))
      (first
        | (go_at_call 24; refine (CS.out _ X cX (by first | exact HA.out | exact HA.out.keep hb0.drew) (by first | exact HX.out | exact HX.out.keep hb0.drew)).mono ?_; rintro e x1 ⟨g, rfl, hg, hf, hb1⟩; have hx1 : Below w2.heap.size w2 x1 := (by first | exact keepB hb0 hb1 | exact keepB hb0.drew hb1); have s0 := keepC hx1 c0; have s1 := keepC hx1 c1; clear hb1)
        | (go_at_call 23; refine (CL.out _ X cX g (HA.out.keep hx1) (HX.out.keep hx1) hf).mono ?_; rintro e x2 ⟨Y, cY, rfl, hY, hfr, hb2⟩; have hx2 : Below w2.heap.size w2 x2 := keepB hx1 hb2; have t0 := keepC hx2 c0; have t1 := keepC hx2 c1; have u0 : (((x2.setCell ⟨w.heap.size + 1, 0, none⟩ (.slice X V.length cX)).setCell ⟨w.heap.size + 1, 1, none⟩ (.slice Y V.length cY)).setCell ⟨w.heap.size + 1, 2, none⟩ (.int .i64 dn)).cell? ⟨w.heap.size, 0, none⟩ = some (.slice A V.length cv) := cell_far (cell_far (cell_far t0 (by omega) _) (by omega) _) (by omega) _; have u1 : (((x2.setCell ⟨w.heap.size + 1, 0, none⟩ (.slice X V.length cX)).setCell ⟨w.heap.size + 1, 1, none⟩ (.slice Y V.length cY)).setCell ⟨w.heap.size + 1, 2, none⟩ (.int .i64 dn)).cell? ⟨w.heap.size, 1, none⟩ = some (.int .i64 R) := cell_far (cell_far (cell_far t1 (by omega) _) (by omega) _) (by omega) _; have hYn : ∀ b off, Y = some ⟨b, off, none⟩ → w.heap.size + 1 ≠ b := (fun b off e => by have k1 := hfr b off e; have k2 := HL2.out; have k3 := hx1.size; omega); have HYY := Lib.hid hY; have HYN := Lib.hid hYn; have q1 := B1.out.keep hx2; have z0 := q1.c 0 rfl; have z1 := q1.c 1 rfl; have z2 := q1.c 2 rfl; have f0 := q1.f 0 rfl; have f1 := q1.f 1 rfl; have f2 := q1.f 2 rfl; clear q1 hY hfr hb2 hYn))
    all_goals
      have hb1 := B1.out.keep hx2
      have bb := ((hb1.set 0 (.slice X V.length cX)).set 1 (.slice Y V.length cY)).set 2 (.int .i64 dn)
      have r0' := bb.c 0 rfl
      have r1' := bb.c 1 rfl
      have r2' := bb.c 2 rfl
      have hXI := HX.out.keep hx2
      have HIJ := Lib.hid (fun k1 u1 k2 u2 k3 u3 => And.intro (((hXI.far HXF.out k1 u1).far HXF.out k2 u2).far HXF.out k3 u3) (((HYY.out.far HYN.out k1 u1).far HYN.out k2 u2).far HYN.out k3 u3))
      have HBW := Lib.hid (keepB HB.out hx2)
      have HFIN := Lib.hid (fun v hIJ hb => HF.out X cX Y cY v (And.left hIJ) (And.right hIJ) hb)
      clear bb hb1 hXI
      go_wp2_with fail
      exact bodyPost_ret (v := .tuple #[.agg #[.slice X V.length cX, .slice Y V.length cY, .int .i64 dn], .int .i64 0]) (by simp [results, Tryz.results9, go_sem, r0', r1', r2']) rfl (HFIN.out _ (HIJ.out _ _ _ _ _ _) (((HBW.out.setCell (Nat.le_succ _) _).setCell (Nat.le_succ _) _).setCell (Nat.le_succ _) _))
  · have HQ := Lib.hid (show ∀ (w' : World), Below w.heap.size w w' → LeQ V R (As.clP V R) (As.clD V R) w (.returned (.tuple #[.agg #[.slice none 0 0, .slice none 0 0, .int .i64 0], .int .i64 (As.rchk V R)])) w' from fun w' hb => ⟨none, 0, none, 0, by unfold As.evA As.clP As.clD; rw [if_neg h2, if_neg h2, if_neg h2]; rfl, by unfold As.evA; rw [if_neg h2]; exact isI_nil _ _, by unfold As.clP; rw [if_neg h2]; exact isI_nil _ _, hb⟩)
    generalize As.rchk V R = c at *
    generalize As.clP V R = PL at *
    generalize As.clD V R = dn at *
    have CK' := Lib.hid CK
    clear CK h2 h hl
    go_enter Tryz.func9, Tryz.ntmps9
    go_upto_region 1 with fail
    refine at_box2 (fun V0 hbb b0 b1 hsz => ?_)
    clear hsz
    have c0 := b0.c 0 rfl
    have c1 := b0.c 1 rfl
    go_wp2_with fail
    refine (CK'.out _ hbb).mono ?_
    rintro e w1 ⟨rfl, hb1⟩
    replace b1 := b1.keep hb1
    replace c0 := keepC hb1 c0
    replace c1 := keepC hb1 c1
    replace hbb := keepB hbb hb1
    clear hb1 b0
    go_wp2_with fail
    refine (CK'.out _ hbb).mono ?_
    rintro e w2 ⟨rfl, hb1⟩
    replace b1 := b1.keep hb1
    replace hbb := keepB hbb hb1
    have bb := ((b1.set 0 (.slice none 0 0)).set 1 (.slice none 0 0)).set 2 (.int .i64 0)
    have z0 := b1.c 0 rfl
    have z1 := b1.c 1 rfl
    have z2 := b1.c 2 rfl
    have f0 := b1.f 0 rfl
    have f1 := b1.f 1 rfl
    have f2 := b1.f 2 rfl
    have r0 := bb.c 0 rfl
    have r1 := bb.c 1 rfl
    have r2 := bb.c 2 rfl
    have HBB := Lib.hid hbb
    clear hb1 b1 bb c0 c1
    go_wp2_with fail
    exact bodyPost_ret (v := .tuple #[.agg #[.slice none 0 0, .slice none 0 0, .int .i64 0], .int .i64 c]) (by simp [results, Tryz.results9, go_sem, r0, r1, r2]) rfl (HQ.out _ (((HBB.out.setCell (Nat.le_succ _) _).setCell (Nat.le_succ _) _).setCell (Nat.le_succ _) _))
end Go.Proofs.YtncmffhoodfhjaaGreat
