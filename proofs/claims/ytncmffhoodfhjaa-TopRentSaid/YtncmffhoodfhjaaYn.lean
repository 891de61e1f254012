/- Package room: Even. -/
import Derived.Test.YtncmffhoodfhjaaYl
import Derived.Test.YtncmffhoodfhjaaYf
import Derived.BigRegion
import Derived.Deep.RegionHeld3
namespace Go.Proofs.Ytncmffhoodfhjaa
open Go.RowKit
theorem BK.grown {W W' : World} {g : Nat} {l : List Value} {row : Option Nat} (h : BK W g l) (hg : W.grownBy W' row) (hne : row ≠ some g) : BK W' g l := by
  have hlt := h.lt
  have hb := hg.block g hlt hne.symm
  refine ⟨Nat.lt_of_lt_of_le hlt hg.size, fun j x e => ?_⟩
  have := BK.c h j e
  have h2 := BK.f h j e
  unfold World.cell? at this ⊢
  unfold World.frozen? at h2 ⊢
  dsimp only at this h2 ⊢
  rw [hb]
  exact ⟨this, h2⟩
set_option maxHeartbeats 2000000 in
theorem asPrices2_any (A : Option Addr) (cv : Nat) (V : List (List Int)) (w : World) (hc : As.chk V = 0) (hl : V.length ≤ maxLen) (h : IsM w A V) :
    Calls Try.prog 60 #[.slice A V.length cv] w fun e w' => ∃ g, e = .returned (.tuple #[.slice (some ⟨g, 0, none⟩) V.length V.length, .int .i64 0]) ∧ w.heap.size ≤ g ∧ BF w' g V.length (As.el (As.lp V (As.bst V))) ∧ Below w.heap.size w w' := by
  have CK := asCheck_any A cv V w hl h
  have ok := As.chk_ok hc
  have ht := As.bst_top ok
  rw [hc] at CK
  have CF := Lib.hid (fun v (hv : Below w.heap.size w v) => firstBest_any A cv V v ok (h.keep hv))
  have CV := Lib.hid (fun v B c (hv : Below w.heap.size w v) (hI : IsI v B (As.al (As.bst V))) => leastPrices_any A cv V B c (As.bst V) v ok ht (h.keep hv) hI)
  have CK' := Lib.hid CK
  clear CK hc ok ht h
  go_enter Try.func60, Try.ntmps60
  go_wp2_with fail
  refine CK'.out.mono ?_
  rintro e w1 ⟨rfl, hb1⟩
  go_wp2_with fail
  refine (CF.out _ hb1).mono ?_
  rintro e w2 ⟨B, c, rfl, hI, hb2⟩
  have hbb := keepB hb1 hb2
  have CV' := Lib.hid (CV.out w2 B c hbb hI)
  clear hb1 hb2 hI CV
  go_wp2_with fail
  refine CV'.out.mono ?_
  rintro e w3 ⟨rfl, hbf, hb3⟩
  have hbb3 := keepB hbb hb3
  have HI3 := Lib.hid hbf
  have hsz := hbb.size
  clear hb3 hbb hbf CV'
  go_wp2_with fail
  go_ret2
  exact ⟨_, rfl, hsz, HI3.out, hbb3⟩
namespace As
theorem lp_sum {V : List (List Int)} (ok : Ok V) : 0 ≤ sm (el (lp V (bst V))) (List.range V.length) ∧ sm (el (lp V (bst V))) (List.range V.length) ≤ 6000000 := by
  have ht := bst_top ok
  have n1 := ok.n1
  have n6 := ok.n6
  have h := sm_bd (f := el (lp V (bst V))) (M := 1000000) V.length fun k hk => ⟨lp_nn ht k, lp_bound ht (by omega) ok.bd hk⟩
  have : (V.length : Int) * 1000000 ≤ 6 * 1000000 := Int.mul_le_mul_of_nonneg_right (by omega) (by omega)
  omega
theorem den_le {c n : Int} (h : 1 ≤ n) : 1 ≤ ((Rp.q c n).den : Int) ∧ ((Rp.q c n).den : Int) ≤ n := by
  obtain ⟨h1, h2, _⟩ := Rp.q_num_den (a := c) h
  exact ⟨h1, Int.le_of_dvd (by omega) (Int.dvd_of_emod_eq_zero h2)⟩
end As
set_option maxRecDepth 100000 in
set_option maxHeartbeats 8000000 in
theorem rmEven_any (A : Option Addr) (cv : Nat) (V : List (List Int)) (R : Int) (w : World) (hl : V.length ≤ maxLen) (h : IsM w A V) :
    Calls Try.prog 26 #[.agg #[.slice A V.length cv, .int .i64 R]] w (EvQ V R w) := by
  have CK := fun v (hv : Below w.heap.size w v) => rmCheck_any A cv V R v hl (h.keep hv)
  rcases As.rchk_two V R with ⟨h0, hc, r0, r1⟩ | ⟨h1, h2⟩
  · rw [h0] at CK
    have ok := As.chk_ok hc
    have ht := As.bst_top ok
    have n1 := ok.n1
    have n6 := ok.n6
    obtain ⟨ER1, ER2⟩ := As.even_rd (V := V) (b := As.bst V) (R := R) n1
    obtain ⟨SB1, SB2⟩ := As.lp_sum ok
    have hEO := (As.even_ok ok ht r0 r1).1
    have e1 : As.evA V R = As.bst V := by unfold As.evA; rw [if_pos h0]
    have e2 : As.evP V R = As.rdp V.length (As.evp V (As.bst V) R) := by unfold As.evP; rw [if_pos h0]
    have e3 : As.evD V R = As.rdd V.length (As.evp V (As.bst V) R) := by unfold As.evD; rw [if_pos h0]
    have HF := Lib.hid (show ∀ X c g d w', IsI w' X (As.al (As.bst V)) → BF w' g V.length (As.el (As.evP V R)) → Below w.heap.size w w' → EvQ V R w (.returned (.tuple #[.agg #[.slice X V.length c, .slice (some ⟨g, 0, none⟩) V.length d, .int .i64 (As.evD V R)], .int .i64 0])) w' from fun X c g d w' hI hf hb =>
      ⟨X, c, some ⟨g, 0, none⟩, d, by rw [h0, e1, e2, ht.len, As.rdp_len], by rw [e1]; exact hI, by
        have hI2 := hf.isI (fun j hj => by
          have := As.pr_bd hEO hj
          rw [e2]; unfold I64; omega)
        unfold ml at hI2
        rwa [As.ml_el (by rw [e2, As.rdp_len])] at hI2, hb⟩)
    have CB := Lib.hid (fun v (hv : Below w.heap.size w v) => asBest2_any A cv V v hc hl (h.keep hv))
    have CP := Lib.hid (fun v (hv : Below w.heap.size w v) => asPrices2_any A cv V v hc hl (h.keep hv))
    have CS := Lib.hid (fun v g c (hf : BF v g V.length (As.el (As.lp V (As.bst V)))) => rmSum_any (some ⟨g, 0, none⟩) c (As.lp V (As.bst V)) V.length (As.lp_len ht) n6 (fun j hj => by have := As.lp_nn ht j; have := As.lp_bound ht (by omega) ok.bd hj; omega) v (by
      have hI2 := hf.isI (fun j hj => by have := As.lp_nn ht j; have := As.lp_bound ht (by omega) ok.bd hj; unfold I64; omega)
      unfold ml at hI2
      rwa [As.ml_el (As.lp_len ht)] at hI2))
    have HPB := Lib.hid (fun j hj => (show 0 ≤ As.el (As.lp V (As.bst V)) j ∧ As.el (As.lp V (As.bst V)) j ≤ 1000000 from ⟨As.lp_nn ht j, As.lp_bound ht (by omega) ok.bd hj⟩))
    obtain ⟨D1, D2⟩ := As.den_le (c := R - As.sm (As.el (As.lp V (As.bst V))) (List.range V.length)) (n := V.length) (by omega)
    obtain ⟨_, _, N1, N2, _⟩ := Rp.q_ok (a := R - As.sm (As.el (As.lp V (As.bst V))) (List.range V.length)) (n := V.length) (by omega) (by omega) (by omega) (by omega)
    have CPT := Lib.hid (fun v => rmPart_any (R - As.sm (As.el (As.lp V (As.bst V))) (List.range V.length)) V.length (by omega) (by omega) (by omega) (by omega) v)
    have CK' := Lib.hid CK
    rw [← e3] at ER1
    simp only [← e2] at ER2
    generalize As.sm (As.el (As.lp V (As.bst V))) (List.range V.length) = S at *
    rw [← ER1] at D1 D2
    simp only [← ER1] at CPT ER2
    generalize As.evD V R = dn at *
    generalize (Rp.q (R - S) V.length).num = nm at *
    have HER2 := Lib.hid ER2
    have hwS : IntKind.i64.wrap (R - S) = R - S := IntWalk.i64_in _ (by omega)
    have HWS := Lib.hid hwS
    clear CK h0 hc ok ht e1 e2 e3 ER1 ER2 hEO h hwS
    generalize As.el (As.lp V (As.bst V)) = p at *
    go_enter Try.func26, Try.ntmps26
    go_upto_region 1 with fail
    refine at_box2 (fun V0 hbb b0 b1 hsz => ?_)
    clear hsz
    have c0 := b0.c 0 rfl
    have c1 := b0.c 1 rfl
    go_wp2_with fail
    refine (CK'.out _ hbb).mono ?_
    rintro e w1 ⟨rfl, hb1⟩
    replace c0 := keepC hb1 c0
    replace c1 := keepC hb1 c1
    replace b1 := b1.keep hb1
    replace hbb := keepB hbb hb1
    clear hb1 b0
    go_wp2_with fail
    refine (CB.out _ hbb).mono ?_
    rintro e w2 ⟨X, cX, rfl, hI, hfr, hb1⟩
    have HI := Lib.hid hI
    have hb1l := b1.lt
    have HFR := Lib.hid (show ∀ b off, X = some ⟨b, off, none⟩ → w.heap.size + 1 ≠ b from fun b off e => by have := hfr b off e; omega)
    clear hb1l
    replace c0 := keepC hb1 c0
    replace c1 := keepC hb1 c1
    have B1 := Lib.hid (b1.keep hb1)
    replace hbb := keepB hbb hb1
    generalize As.wr V (As.bst V) = z at *
    clear hb1 hI b1 hfr
    go_wp2_with fail
    refine (CP.out _ hbb).mono ?_
    rintro e w3 ⟨g, rfl, hg, hbf, hb1⟩
    have C1 := Lib.hid (keepC hb1 c1)
    have HBB := Lib.hid hbb
    have HW3 := Lib.hid hb1
    have HBF := Lib.hid hbf
    have hgl := hbf.lt
    have hq := lt_of_cell C1.out
    clear hb1 c0 c1 hbb hbf CK' CB CP
    go_upto_region 6 with fail
    have hws := HWS.out
    go_cut [10] (fun x v => ∃ q : Nat, x = .pointer (some ⟨q, 0, none⟩) ∧ w3.heap.size ≤ q ∧ BK v q [.int .i64 nm, .int .i64 dn] ∧ Below w3.heap.size w3 v)
    case first =>
      have hB0 := Below.refl w3.heap.size w3
      have HK := Lib.hid (fun v (hv : Below w3.heap.size w3 v) => (show v.cell? ⟨w.heap.size, 1, none⟩ = some (.int .i64 R) ∧ True from ⟨keepC hv C1.out, trivial⟩))
      go_region_held3 (fun v => v.cell? ⟨w.heap.size, 1, none⟩ = some (.int .i64 R) ∧ True)
        (first | (exact HK.out _ (by assumption)) | (exact HK.out _ (Below.drew (by assumption))) | (exact HK.out _ (below_al (by assumption) _)) | (exact HK.out _ (below_al (Below.drew (by assumption)) _)) | (exact ⟨cell_far (cell_far (keepC hw5 C1.out) (by omega) _) (by omega) _, trivial⟩))
        (first
          | (go_at_call 59; refine (CS.out _ g V.length (by first | exact HBF.out | exact HBF.out.drew | exact HBF.out.al _ | exact HBF.out.drew.al _)).mono ?_; rintro e w5 ⟨rfl, rfl⟩)
          | (go_at_call 46; refine (CPT.out _).mono ?_; rintro e w5 ⟨rfl, hb5⟩; have hw5 : Below w3.heap.size w3 w5 := (by first | exact keepB hB0 hb5 | exact keepB hB0.drew hb5 | exact keepB (below_al hB0 _) hb5 | exact keepB (below_al hB0.drew _) hb5); (first | (have nbk : BK w5 w3.heap.size [.int .i64 0, .int .i64 0] := (by first | exact (BK.new w3 [.int .i64 0, .int .i64 0] _).keep hb5 | exact (BK.new w3.drew [.int .i64 0, .int .i64 0] _).keep hb5); have nb0 := nbk.c 0 rfl; have nb1 := nbk.c 1 rfl; have nf0 := nbk.f 0 rfl; have nf1 := nbk.f 1 rfl) | skip)))
      all_goals
        go_wp2_with fail
        go_meet
        refine ⟨_, rfl, ?_, ?_, ?_⟩
        · first | exact Nat.le_refl _ | exact hw5.size
        · first | exact (nbk.set 0 _).set 1 _ | exact BK.new _ _ _
        · first | exact below_set (below_set hw5 (Nat.le_refl _) _) (Nat.le_refl _) _ | exact below_al hw5 _
    case rest =>
      clear hws
      obtain ⟨q, rfl, hgq, hbk, hb4⟩ := hcut
      have d1 := hbk.c 1 rfl
      have HB4 := Lib.hid (keepB HW3.out hb4)
      have HF4 := Lib.hid (HBF.out.keep hb4)
      have HK4 := Lib.hid hbk
      clear hbk hb4
      go_wp2_with fail
      clear d1
      go_loopw [44] (fun i W => ∃ k : Nat, k ≤ V.length ∧ i = .int .i64 k ∧ Hid (Below w2.heap.size w2 W) ∧ Hid (BF W g V.length (fun j => if j < k then p j * dn + nm else p j)) ∧ Hid (BK W q [.int .i64 nm, .int .i64 dn])) (fun i _ => V.length - (intOf i).toNat)
      case atStart => exact ⟨0, Nat.zero_le _, rfl, HB4, Lib.hid (HF4.out.cong fun j _ => by simp), HK4⟩
      case round =>
        obtain ⟨k, hk, rfl, HW, HFk, HQ⟩ := hrel
        by_cases hlt : k < V.length
        · have x1 := HFk.out.c hlt
          have x3 := HFk.out.f hlt
          rw [if_neg (Nat.lt_irrefl k)] at x1
          have y0 := HQ.out.c 0 rfl
          obtain ⟨p1, p2⟩ := HPB.out k hlt
          have HPK := Lib.hid (show ∀ y, p k * dn = y → BF (wr.setCell ⟨g, k, none⟩ (.int .i64 (y + nm))) g V.length (fun j => if j < k + 1 then p j * dn + nm else p j) from fun y hy => (HFk.out.set k _).cong fun j _ => by
            by_cases e : j = k
            · subst e; rw [if_pos rfl, if_pos (by omega), hy]
            · rw [if_neg e]
              by_cases e2 : j < k
              · rw [if_pos e2, if_pos (by omega)]
              · rw [if_neg e2, if_neg (by omega)])
          have m0 : 0 ≤ p k * dn := Int.mul_nonneg p1 (by omega)
          have m1 : p k * dn ≤ 1000000 * 6 := Int.mul_le_mul p2 (by omega) (by omega) (by omega)
          generalize p k = x at *
          obtain ⟨y, hy⟩ : ∃ y, x * dn = y := ⟨_, rfl⟩
          have HNEW := Lib.hid (HPK.out y hy)
          have a1 : IntKind.i64.wrap (x * dn) = y := by rw [IntWalk.i64_in _ (by omega)]; exact hy
          rw [hy] at m0 m1
          have a2 : IntKind.i64.wrap (y + nm) = y + nm := IntWalk.i64_in _ (by omega)
          have i1 : (k : Int) < (V.length : Int) := by omega
          have HGB := Lib.hid (show Below w2.heap.size w2 (wr.setCell ⟨g, k, none⟩ (.int .i64 (y + nm))) from HW.out.setCell hg _)
          have HQ2 := Lib.hid (HQ.out.far (q := g) (by omega) k (.int .i64 (y + nm)))
          clear hy HPK p1 p2
          go_wp2_with fail
          go_big_region
          clear a1 a2 x1 x3 y0
          go_wp2_with fail
          go_roundw
          case rel => exact ⟨k + 1, by omega, by go_num, Lib.hid HGB.out.drew, Lib.hid HNEW.out.drew, Lib.hid (HQ2.out.keep (Below.refl _ _).drew)⟩
          case measure => simp [intOf]; omega
        · obtain rfl : k = V.length := by omega
          have b1 := B1.out.keep HW.out
          have HFN := Lib.hid (HFk.out.cong (G := As.el (As.evP V R)) fun j hj => by rw [if_pos hj, HER2.out j hj])
          have HFIN := Lib.hid (fun v hI hf hb => HF.out X cX g V.length v hI hf hb)
          have bb := ((b1.set 0 (.slice X V.length cX)).set 1 (.slice (some ⟨g, 0, none⟩) V.length V.length)).set 2 (.int .i64 dn)
          have z0 := b1.c 0 rfl
          have z1 := b1.c 1 rfl
          have z2 := b1.c 2 rfl
          have f0 := b1.f 0 rfl
          have f1 := b1.f 1 rfl
          have f2 := b1.f 2 rfl
          have r0 := bb.c 0 rfl
          have r1 := bb.c 1 rfl
          have r2 := bb.c 2 rfl
          have HBW := Lib.hid (keepB HBB.out HW.out)
          have HIW := Lib.hid (show ∀ k1 u1 k2 u2 k3 u3, IsI (((wr.setCell ⟨w.heap.size + 1, k1, none⟩ u1).setCell ⟨w.heap.size + 1, k2, none⟩ u2).setCell ⟨w.heap.size + 1, k3, none⟩ u3) X (As.al (As.bst V)) from fun k1 u1 k2 u2 k3 u3 => by
            have hI := HI.out.keep HW.out
            refine ⟨fun h0 => ?_, hI.2⟩
            obtain ⟨b, off, e, hcs⟩ := hI.1 h0
            have hn := HFR.out b off e
            exact ⟨b, off, e, fun i hi => cell_far (cell_far (cell_far (hcs i hi) hn _) hn _) hn _⟩)
          have hne : w.heap.size + 1 ≠ g := by have := B1.out.lt; omega
          clear bb b1
          go_wp2_with fail
          exact bodyPost_ret (v := .tuple #[.agg #[.slice X V.length cX, .slice (some ⟨g, 0, none⟩) V.length V.length, .int .i64 dn], .int .i64 0]) (by simp [results, Try.results26, go_sem, r0, r1, r2]) rfl (HFIN.out _ (HIW.out _ _ _ _ _ _) (((HFN.out.far hne _ _).far hne _ _).far hne _ _) (((HBW.out.setCell (Nat.le_succ _) _).setCell (Nat.le_succ _) _).setCell (Nat.le_succ _) _))
  · have HQ := Lib.hid (show ∀ (w' : World), Below w.heap.size w w' → EvQ V R w (.returned (.tuple #[.agg #[.slice none 0 0, .slice none 0 0, .int .i64 0], .int .i64 (As.rchk V R)])) w' from fun w' hb => ⟨none, 0, none, 0, by unfold As.evA As.evP As.evD; rw [if_neg h2, if_neg h2, if_neg h2]; rfl, by unfold As.evA; rw [if_neg h2]; exact isI_nil _ _, by unfold As.evP; rw [if_neg h2]; exact isI_nil _ _, hb⟩)
    generalize As.rchk V R = c at *
    have CK' := Lib.hid CK
    clear CK h2 h hl
    go_enter Try.func26, Try.ntmps26
    go_upto_region 1 with fail
    refine at_box2 (fun V0 hbb b0 b1 hsz => ?_)
    clear hsz
    have c0 := b0.c 0 rfl
    have c1 := b0.c 1 rfl
    go_wp2_with fail
    refine (CK'.out _ hbb).mono ?_
    rintro e w1 ⟨rfl, hb1⟩
    replace b1 := b1.keep hb1
    replace hbb := keepB hbb hb1
    have bb := ((b1.set 0 (.slice none 0 0)).set 1 (.slice none 0 0)).set 2 (.int .i64 0)
    have z0 := b1.c 0 rfl
    have z1 := b1.c 1 rfl
    have z2 := b1.c 2 rfl
    have f0 := b1.f 0 rfl
    have f1 := b1.f 1 rfl
    have f2 := b1.f 2 rfl
    have r0 := bb.c 0 rfl
    have r1 := bb.c 1 rfl
    have r2 := bb.c 2 rfl
    have HBB := Lib.hid hbb
    clear hb1 b0 b1 bb c0 c1
    go_wp2_with fail
    exact bodyPost_ret (v := .tuple #[.agg #[.slice none 0 0, .slice none 0 0, .int .i64 0], .int .i64 c]) (by simp [results, Try.results26, go_sem, r0, r1, r2]) rfl (HQ.out _ (((HBB.out.setCell (Nat.le_succ _) _).setCell (Nat.le_succ _) _).setCell (Nat.le_succ _) _))
end Go.Proofs.Ytncmffhoodfhjaa
